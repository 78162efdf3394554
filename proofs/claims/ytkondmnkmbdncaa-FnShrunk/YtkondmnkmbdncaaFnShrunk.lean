/-
  Proved: at every two slices of bytes the law FnShrunk returns true, and its arguments read afterwards as they did.
-/
import Derived.Test.YtkondmnkmbdncaaFrame
import Derived.Test.YtkondmnkmbdncaaDlg
import Derived.Test.YtkondmnkmbdncaaGpy
import Derived.Test.YtkondmnkmbdncaaGle
import Derived.Test.YtkondmnkmbdncaaGlj
import Derived.Test.YtkondmnkmbdncaaGlk
namespace Go.Proofs.Ytkondmnkmbdncaa.fnShrunk
open Go.ChangeShapes Go.WideShapes Go.ChangeAt Go.RowKit

theorem own : ownKnob Try.prog.godebug = none := by kernel_rfl
theorem laidOut : laidOutB Try.prog = true := by kernel_rfl

set_option maxRecDepth 100000 in
set_option maxHeartbeats 8000000 in
theorem walk (a : Option Addr) (n cap : Nat) (zs : List Int) (b : Option Addr) (m capb : Nat) (ys : List Int) (w : World) (hc : Frame.IsRow .u8 w a n cap zs) (hd : Frame.IsRow .u8 w b m capb ys) :
    Calls Try.prog 5 #[.slice a n cap, .slice b m capb] w fun e w' => e = .returned (.bool true) ∧ Below w.heap.size w w' := by
  have HC : Hid (Frame.IsRow .u8 w a n cap zs) := hc
  have HD : Hid (Frame.IsRow .u8 w b m capb ys) := hd
  clear hc hd
  by_cases hbig : (1048576 : Int) < wrap64 ((n : Int) + (m : Int))
  · go_enter Try.func5, Try.ntmps5
    go_wp2
    go_ret
    exact ⟨rfl, Below.refl _ _⟩
  · go_enter Try.func5, Try.ntmps5
    go_wp2_with fail
    refine (Dlg.draw_Shrink a n cap zs _ HC.out).mono ?_
    rintro e w1 ⟨lv, xs, rfl, hlv, hb1⟩
    have B1 : Hid (Below w.heap.size w w1) := hb1
    have L1 : Hid (Knl.LIs w1 lv xs) := hlv
    clear hlv hb1
    go_wp2_with fail
    refine (Glj.impl_Shrink lv xs _ L1.out).mono ?_
    rintro e w2 ⟨u2, rfl, ho2, hb2⟩
    obtain ⟨sa, sn, sc, ss, rfl, hss, hsp, hst⟩ := Knl.lOwn_is ho2
    have B2 : Hid (Below w.heap.size w w2) := Frame.next B1.out hb2 B1.out.size
    have L2 : Hid (Knl.LIs w2 lv xs) := Knl.lIs_below L1.out hb2
    have S2 : Hid (Knl.LIs w2 (.slice sa sn sc) (Gpw.shrinkV xs)) := ⟨sa, sn, sc, ss, rfl, hss, hsp, hst⟩
    have SL2 : Hid (Lls.IsLs w2 sa sn sc ss) := hss
    have SP : Hid (Lls.lplain ss = Gpw.shrinkV xs) := hsp
    clear ho2 hb2 hss hsp hst
    go_wp2_with fail
    refine (Glk.spec_Shrink lv xs _ L2.out).mono ?_
    rintro e w3 ⟨u3, rfl, ho3, hb3⟩
    have B3 : Hid (Below w.heap.size w w3) := Frame.next B2.out hb3 B2.out.size
    have L3 : Hid (Knl.LIs w3 lv xs) := Knl.lIs_below L2.out hb3
    have S3 : Hid (Knl.LIs w3 (.slice sa sn sc) (Gpw.shrinkV xs)) := Knl.lIs_below S2.out hb3
    have SL3 : Hid (Lls.IsLs w3 sa sn sc ss) := SL2.out.below hb3
    have W3 : Hid (Knl.LIs w3 u3 (Gpw.shrinkV xs)) := Knl.lOwn_is ho3
    clear ho3 hb3
    rcases Glb.em_bool (Gpu.goodG xs) with hg | hg
    · rw [hg]
      clear hg
      go_wp2_with fail
      refine (Dlg.sameRows _ _ _ _ _ S3.out W3.out).mono ?_
      rintro e w4 ⟨rfl, hb4⟩
      rw [decide_eq_true (Eq.refl (Gpw.shrinkV xs))]
      have B4 : Hid (Below w.heap.size w w4) := Frame.next B3.out hb4 B3.out.size
      clear hb4
      go_wp2_with fail
      refine (Dlg.draw_IsRoundless b m capb ys _ (Mem.IsRow.below HD.out B4.out)).mono ?_
      rintro e x1 ⟨uv, us, rfl, huv, hbx1⟩
      have BX1 : Hid (Below w.heap.size w x1) := Frame.next B4.out hbx1 B4.out.size
      have UX1 : Hid (Knl.LIs x1 uv us) := huv
      clear huv hbx1
      go_wp2_with fail
      refine (Gld.impl_IsRoundless uv us _ UX1.out).mono ?_
      rintro e x2 ⟨rfl, hbx2⟩
      have BX2 : Hid (Below w.heap.size w x2) := Frame.next BX1.out hbx2 BX1.out.size
      have UX2 : Hid (Knl.LIs x2 uv us) := Knl.lIs_below UX1.out hbx2
      clear hbx2
      go_wp2_with fail
      refine (Gle.spec_IsRoundless uv us _ UX2.out).mono ?_
      rintro e x3 ⟨rfl, hbx3⟩
      have BX3 : Hid (Below w.heap.size w x3) := Frame.next BX2.out hbx3 BX2.out.size
      clear hbx3
      generalize Gpr.plainV us = p
      generalize Gpu.goodG us = q
      cases p <;> cases q
      all_goals
        go_wp2
        go_ret
        exact ⟨rfl, BX3.out⟩
    · have GP : Hid (Gpu.GoodP xs) := Gpu.good_iff.1 hg
      have HV : Hid (Gpw.shrinkV xs = Gpw.shrinkN xs) := by show _ = _; unfold Gpw.shrinkV; rw [hg]; rfl
      have HGV : Hid (Gpv.groupsV xs = Gpv.groupsN xs) := by show _ = _; unfold Gpv.groupsV; rw [hg]; rfl
      have PL : Hid (Gpr.plainV (Gpw.shrinkV xs) = true ∧ Gpu.goodG (Gpw.shrinkV xs) = true) := by rw [HV.out]; exact Gpy.shrink_plain GP.out
      have HGT : Hid (Gpu.goodG xs = true) := hg
      rw [hg]
      clear hg
      go_wp2_with fail
      refine (Dlg.sameRows _ _ _ _ _ S3.out W3.out).mono ?_
      rintro e w4 ⟨rfl, hb4⟩
      rw [decide_eq_true (Eq.refl (Gpw.shrinkV xs))]
      have B4 : Hid (Below w.heap.size w w4) := Frame.next B3.out hb4 B3.out.size
      have L4 : Hid (Knl.LIs w4 lv xs) := Knl.lIs_below L3.out hb4
      have S4 : Hid (Knl.LIs w4 (.slice sa sn sc) (Gpw.shrinkV xs)) := Knl.lIs_below S3.out hb4
      have SL4 : Hid (Lls.IsLs w4 sa sn sc ss) := SL3.out.below hb4
      clear hb4 S2 SL2 S3 SL3 W3 L2 L3
      go_wp2_with fail
      refine (Gld.impl_IsRoundless _ _ _ S4.out).mono ?_
      rintro e w5 ⟨rfl, hb5⟩
      rw [PL.out.1, PL.out.2]
      have B5 : Hid (Below w.heap.size w w5) := Frame.next B4.out hb5 B4.out.size
      have L5 : Hid (Knl.LIs w5 lv xs) := Knl.lIs_below L4.out hb5
      have SL5 : Hid (Lls.IsLs w5 sa sn sc ss) := SL4.out.below hb5
      clear hb5 S4 SL4 L4
      go_wp2_with fail
      refine (Glf.impl_GroupsOf lv xs _ L5.out).mono ?_
      rintro e w6 ⟨u6, rfl, ho6, hb6⟩
      obtain ⟨ga, gn, gc, gs, rfl, hgs, hgp, hgt⟩ := Knl.lOwn_is ho6
      have B6 : Hid (Below w.heap.size w w6) := Frame.next B5.out hb6 B5.out.size
      have SL6 : Hid (Lls.IsLs w6 sa sn sc ss) := SL5.out.below hb6
      have hlen : gn = sn := by
        have h1 := hgs.len
        have h2 := SL5.out.len
        have h3 : (Lls.lplain gs).length = gs.length := by simp [Lls.lplain]
        have h4 : (Lls.lplain ss).length = ss.length := by simp [Lls.lplain]
        rw [hgp, HGV.out] at h3
        rw [SP.out, HV.out, Gpw.shrink_len] at h4
        omega
      subst hlen
      have hne : ((gn : Int) != (gn : Int)) = false := by simp
      have HSL : Hid (ss.length = gn) := SL5.out.len
      have hgn : gn ≤ 9223372036854775807 := by have := SL5.out.fits; have := SL5.out.max; unfold maxLen at *; omega
      rw [HGT.out]
      clear ho6 hb6 hgs hgp hgt SL5 L5
      go_wp2_with fail
      go_loopw [80] (fun i wr => ∃ k : Nat, k ≤ gn ∧ i = .int .i64 k ∧ wr = w6) (fun i _ => gn - (intOf i).toNat)
      case atStart => exact ⟨0, Nat.zero_le _, rfl, rfl⟩
      case round =>
        obtain ⟨k, hk, rfl, hww⟩ := hrel
        have hww2 := hww.symm
        clear hww
        subst hww2
        by_cases hlt : k < gn
        · obtain ⟨bb, off, rfl, hbl, hcc⟩ := SL6.out.cells (by omega)
          have hkl : k < ss.length := by rw [HSL.out]; exact hlt
          have p0 := hcc k hlt
          have hrow := SL6.out.rows _ (Lls.getD_mem_ld hkl)
          have hzz : (ss.getD k Lls.ld).zs = Gpw.shrinkRow xs (Gpv.groupsN xs) k := by
            rw [← Lls.lplain_get ss k hkl, SP.out, HV.out]
            refine Gpy.shrink_at xs ?_
            rw [← HV.out, ← SP.out]
            simp only [Lls.lplain, List.length_map]
            exact hkl
          generalize ss.getD k Lls.ld = r at p0 hrow hzz
          obtain ⟨ra, rn, rc, rz⟩ := r
          simp only at p0 hrow hzz
          subst hzz
          have HROW : Hid (Frame.IsRow .i64 w6 ra rn rc (Gpw.shrinkRow xs (Gpv.groupsN xs) k)) := hrow
          have HRL : Hid ((Gpw.shrinkRow xs (Gpv.groupsN xs) k).length = rn) := hrow.len
          have HLS : Hid (∀ z ∈ Gpw.shrinkRow xs (Gpv.groupsN xs) k, 0 ≤ z ∧ z < (k : Int)) := fun z hz => Gpy.shrink_less hz
          have hrn : rn ≤ 9223372036854775807 := by have := hrow.fits; have := hrow.max; unfold maxLen at *; omega
          have hk0 : (0 : Int) ≤ (k : Int) := by omega
          have hkn : (k : Int) < (gn : Int) := by omega
          clear hbl hcc hkl hrow
          go_wp2_with fail
          rename World => w7
          go_loopw [87] (fun i wr => ∃ q : Nat, q ≤ rn ∧ i = .int .i64 q ∧ wr = w7) (fun i _ => rn - (intOf i).toNat)
          case atStart => exact ⟨0, Nat.zero_le _, rfl, rfl⟩
          case round =>
            obtain ⟨q, hq, rfl, hww⟩ := hrel
            have hww2 := hww.symm
            clear hww
            subst hww2
            by_cases hltq : q < rn
            · obtain ⟨b2, o2, rfl, hb2, hc2⟩ := HROW.out.cells (by omega)
              have p2 := hc2 q hltq
              have hy := HLS.out _ (Mem.getD_mem (zs := Gpw.shrinkRow xs (Gpv.groupsN xs) k) (i := q) (by rw [HRL.out]; exact hltq))
              generalize (Gpw.shrinkRow xs (Gpv.groupsN xs) k).getD q 0 = y at p2 hy
              have hyk : ¬ y ≥ (k : Int) := by omega
              have hq0 : (0 : Int) ≤ (q : Int) := by omega
              have hqn : (q : Int) < (rn : Int) := by omega
              clear hb2 hc2 hy
              go_wp2_with fail
              go_roundw
              case rel => exact ⟨q + 1, by omega, by go_num, by first | trivial | rfl⟩
              case measure => simp [intOf]; omega
            · go_wp2_with fail
              go_roundw
              case rel => exact ⟨k + 1, by omega, by go_num, by first | trivial | rfl⟩
              case measure => simp [intOf]; omega
        · skip
          go_wp2_with fail
          refine (Dlg.draw_IsRoundless b m capb ys _ (Mem.IsRow.below HD.out B6.out)).mono ?_
          rintro e x1 ⟨uv, us, rfl, huv, hbx1⟩
          have BX1 : Hid (Below w.heap.size w x1) := Frame.next B6.out hbx1 B6.out.size
          have UX1 : Hid (Knl.LIs x1 uv us) := huv
          clear huv hbx1
          go_wp2_with fail
          refine (Gld.impl_IsRoundless uv us _ UX1.out).mono ?_
          rintro e x2 ⟨rfl, hbx2⟩
          have BX2 : Hid (Below w.heap.size w x2) := Frame.next BX1.out hbx2 BX1.out.size
          have UX2 : Hid (Knl.LIs x2 uv us) := Knl.lIs_below UX1.out hbx2
          clear hbx2
          go_wp2_with fail
          refine (Gle.spec_IsRoundless uv us _ UX2.out).mono ?_
          rintro e x3 ⟨rfl, hbx3⟩
          have BX3 : Hid (Below w.heap.size w x3) := Frame.next BX2.out hbx3 BX2.out.size
          clear hbx3
          generalize Gpr.plainV us = p
          generalize Gpu.goodG us = q
          cases p <;> cases q
          all_goals
            go_wp2
            go_ret
            exact ⟨rfl, BX3.out⟩

set_option maxRecDepth 100000 in
theorem contract (H : Type) (enc : TypeId × Value → H) (W : World) (base : Nat) (args : Array Value) (ds gs : List (DataW H)) (before : List MemPlace)
    (hval0 : ∀ (j : Nat) t v, Try.f5.params[j]? = some t → args[j]? = some v → Value.okWide Try.prog W .any base t v)
    (hW : DataW.Whole enc Try.prog Try.f5.params.toList Rows.fnShrunkSpec.vars false W args.toList ds gs before) :
    Calls Try.prog 5 args W fun e W' => ∃ v, e = .returned v ∧ Rows.fnShrunkSpec.post enc Try.prog Try.f5 false true false false W args v W' := by
  refine Frame.law_calls (tb := 4) laidOut (by kernel_rfl) (by kernel_rfl) (by kernel_rfl) Try.underlying4 hW (fun ds gs h1 h2 => ?_) ?_
  · rw [Try.params5] at h1
    match ds, gs, h1, h2 with
    | [_, _], [], _, _ => rfl
  · obtain ⟨p, q, hA0, _, _, _, _⟩ := hW
    have hval : ∀ (j : Nat) t v, Try.f5.params[j]? = some t → args[j]? = some v → Value.okWide Try.prog W .any base t v := hval0
    have hA : DataW.TrodAll enc Try.prog W 0 (fun _ => true) true Try.f5.params.toList args.toList ds p := hA0
    rw [Try.params5] at hA hval
    obtain ⟨v0, vs0, d0, ds0, p0, q0, hargs, rfl, rfl, h0, r0⟩ := trodAll_cons hA
    obtain ⟨v1, vs1, d1, ds1, p1, q1, rfl, rfl, rfl, h1, r1⟩ := trodAll_cons r0
    obtain ⟨rfl, rfl, rfl⟩ := trodAll_nil r1
    obtain rfl : args = #[v0, v1] := by cases args; simp_all
    obtain ⟨a0, len0, cap0, rfl⟩ := okWide_slice Try.underlying22 (hval 0 22 v0 rfl rfl)
    obtain ⟨z0, w0⟩ := Frame.isRow_of Try.underlying22 Try.underlying5 (by kernel_rfl) h0
    obtain ⟨a1, len1, cap1, rfl⟩ := okWide_slice Try.underlying22 (hval 1 22 v1 rfl rfl)
    obtain ⟨z1, w1⟩ := Frame.isRow_of Try.underlying22 Try.underlying5 (by kernel_rfl) h1
    exact walk a0 len0 cap0 z0 a1 len1 cap1 z1 W w0 w1

set_option maxRecDepth 100000 in
theorem lifted (os : Os) (started : os.Started) (H : Type) (enc : TypeId × Value → H) :
    ReturnsInHanded {} Try.checked os 5 .any (Rows.fnShrunkSpec.pre6 enc Try.prog Try.f5 Rows.fnShrunkRow.domain false) (Rows.fnShrunkSpec.post enc Try.prog Try.f5 false true false false) := by
  refine returnsInHanded_of_change (C := Try.checked) own started (by kernel_rfl) Try.func5
    (ChangeSpec.witness6 (enc := enc) (C := Try.checked) false ⟨#[], #[.slice none 0 0, .slice none 0 0], []⟩ 8 (by kernel_rfl) (by kernel_rfl) (by kernel_rfl) (by kernel_rfl)) ?_
  intro W base args ds gs before hval hW _ _
  exact contract H enc W base args ds gs before hval hW

theorem fnamed : Try.prog.funcNamed Rows.fnShrunkRow.func = some 5 := by kernel_rfl

theorem joined : joinedFacts Try.prog 5 Try.f5 Rows.fnShrunkSpec Rows.fnShrunkRow = true := by kernel_rfl

/-- The statement. -/
theorem proved : Rows.FnShrunkSaid :=
  OpenClaim.holds_of_wide 5 Try.f5 rfl rfl rfl rfl rfl rfl rfl ⟨rfl, rfl, rfl, rfl, rfl⟩ rfl rfl rfl rfl rfl fnamed Try.func5 joined
    (of_decide_eq_true (by kernel_rfl)) (by unfold Func.isWrapper; first | (rw [if_pos (by decide +kernel)]; kernel_rfl) | (rw [if_neg (by decide +kernel)]; exact ⟨rfl, rfl⟩))
    (fun os started H enc _ => lifted os started H enc)
#print axioms proved

end Go.Proofs.Ytkondmnkmbdncaa.fnShrunk
