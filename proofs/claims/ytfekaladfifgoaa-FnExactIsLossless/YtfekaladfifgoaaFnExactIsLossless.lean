/-
  Proved: at every argument the law FnExactIsLossless returns true, and its arguments read afterwards as they did.
-/
import Derived.Test.YtfekaladfifgoaaFrame
import Derived.Test.YtfekaladfifgoaaLsb
import Derived.Test.YtfekaladfifgoaaLsc
import Derived.Test.YtfekaladfifgoaaOpd
namespace Go.Proofs.Ytfekaladfifgoaa.fnExactIsLossless
open Go.ChangeShapes Go.WideShapes Go.ChangeAt Go.RowKit

theorem own : ownKnob Try.prog.godebug = none := by kernel_rfl
theorem laidOut : laidOutB Try.prog = true := by kernel_rfl

open Go.Proofs.Ytfekaladfifgoaa.Kep

set_option maxRecDepth 100000 in
set_option maxHeartbeats 4000000 in
theorem walk (i0 : Int) (a1 : Option Addr) (n1 c1 : Nat) (rs1 : List Lls.LV) (a2 : Option Addr) (n2 c2 : Nat) (zs2 : List Int) (a3 : Option Addr) (n3 c3 : Nat) (zs3 : List Int) (w : World) (hf0 : (Lit.int .i64 i0).wf = true) (h1 : Dls.IsG w a1 n1 c1 rs1) (h2 : Frame.IsRow .i64 w a2 n2 c2 zs2) (h3 : Frame.IsRow .i64 w a3 n3 c3 zs3) :
    Calls Try.prog 10 #[.int .i64 i0, .slice a1 n1 c1, .slice a2 n2 c2, .slice a3 n3 c3] w fun e w' => e = .returned (.bool true) ∧ Below w.heap.size w w' := by
  have HWF0 : Hid ((Lit.int .i64 i0).wf = true) := hf0
  clear hf0
  have HR1 : Hid (Dls.IsG w a1 n1 c1 rs1) := h1
  clear h1
  have HR2 : Hid (Frame.IsRow .i64 w a2 n2 c2 zs2) := h2
  have hmx2 : n2 ≤ 9223372036854775807 := by have := h2.fits; have := h2.max; unfold maxLen at *; omega
  clear h2
  have HR3 : Hid (Frame.IsRow .i64 w a3 n3 c3 zs3) := h3
  have hmx3 : n3 ≤ 9223372036854775807 := by have := h3.fits; have := h3.max; unfold maxLen at *; omega
  clear h3
  have B0 : Hid (Below w.heap.size w w) := Below.refl _ _
  go_enter Try.func10, Try.ntmps10
  by_cases hN2 : 1048576 < n2
  · have hNI2 : (1048576 : Int) < (n2 : Int) := by omega
    go_wp2
    go_ret
    exact ⟨rfl, B0.out⟩
  · have A2 : Hid (Kep.IIs w (.slice a2 n2 c2) zs2) := ⟨_, _, _, rfl, HR2.out, by omega⟩
    have hNJ2 : ¬ (1048576 : Int) < (n2 : Int) := by omega
    by_cases hN3 : 1048576 < n3
    · have hNI3 : (1048576 : Int) < (n3 : Int) := by omega
      go_wp2
      go_ret
      exact ⟨rfl, B0.out⟩
    · have A3 : Hid (Kep.IIs w (.slice a3 n3 c3) zs3) := ⟨_, _, _, rfl, HR3.out, by omega⟩
      have hNJ3 : ¬ (1048576 : Int) < (n3 : Int) := by omega
      go_wp2_with fail
      refine (Dlt.szDepS a1 n1 c1 rs1 1048576 _ (HR1.out.below B0.out) (by omega) (by omega)).mono ?_
      rintro e w1 ⟨rfl, hb1⟩
      have Z1 : Hid (w.heap.size ≤ w1.heap.size) := hb1.size
      have B2 : Hid (Below w.heap.size w w1) := Frame.next B0.out hb1 B0.out.size
      clear hb1
      by_cases hL1 : Lls.left 1048576 ((n1 : Int) + Lls.sumL rs1) < 0
      · go_wp2
        go_ret
        exact ⟨rfl, B2.out⟩
      · have ht1 : (n1 : Int) + Lls.sumL rs1 ≤ 1048576 := by have hq := Lls.sumL_nonneg rs1; unfold Lls.left at hL1; split at hL1 <;> omega
        have A1 : Hid (Dlk.DIs w (.slice a1 n1 c1) (Dls.dpl rs1)) := ⟨_, _, _, _, rfl, HR1.out, rfl, ht1⟩
        have hB1 : Lls.left 1048576 ((n1 : Int) + Lls.sumL rs1) ≤ 1048576 := Krl.left_le _ _ (by have hq := Lls.sumL_nonneg rs1; omega) (by omega)
        clear ht1
        generalize hG1 : Lls.left 1048576 ((n1 : Int) + Lls.sumL rs1) = L3 at hL1 hB1 ⊢
        clear hG1
        go_wp2_with fail
        refine (Dlk.d_to (.slice a1 n1 c1) (Dls.dpl rs1) _ (Dlk.dIs_below A1.out B2.out)).mono ?_
        rintro e w2 ⟨u4, rfl, ho, hb2⟩
        have O5 : Hid (Dlk.DOwn w2 (w1.heap.size) (w2.heap.size) u4 (Dls.dpl rs1)) := ho
        have Z6 : Hid (w1.heap.size ≤ w2.heap.size) := hb2.size
        have B7 : Hid (Below w.heap.size w w2) := Frame.next B2.out hb2 B2.out.size
        clear ho hb2
        go_wp2_with fail
        refine (Kep.i_to (.slice a2 n2 c2) zs2 _ (Kep.iIs_below A2.out B7.out)).mono ?_
        rintro e w3 ⟨u9, rfl, ho, hb3⟩
        have O10 : Hid (Kep.IOwn w3 (w2.heap.size) (w3.heap.size) u9 zs2) := ho
        have Z11 : Hid (w2.heap.size ≤ w3.heap.size) := hb3.size
        have O12 : Hid (Dlk.DOwn w3 (w1.heap.size) (w2.heap.size) u4 (Dls.dpl rs1)) := Dlk.dOwn_below O5.out hb3
        have B13 : Hid (Below w.heap.size w w3) := Frame.next B7.out hb3 B7.out.size
        clear ho hb3
        go_wp2_with fail
        refine (Kep.i_to (.slice a3 n3 c3) zs3 _ (Kep.iIs_below A3.out B13.out)).mono ?_
        rintro e w4 ⟨u15, rfl, ho, hb4⟩
        have O16 : Hid (Kep.IOwn w4 (w3.heap.size) (w4.heap.size) u15 zs3) := ho
        have Z17 : Hid (w3.heap.size ≤ w4.heap.size) := hb4.size
        have O18 : Hid (Dlk.DOwn w4 (w1.heap.size) (w2.heap.size) u4 (Dls.dpl rs1)) := Dlk.dOwn_below O12.out hb4
        have O19 : Hid (Kep.IOwn w4 (w2.heap.size) (w3.heap.size) u9 zs2) := Kep.iOwn_below O10.out hb4
        have B20 : Hid (Below w.heap.size w w4) := Frame.next B13.out hb4 B13.out.size
        clear ho hb4
        go_wp2_with fail
        refine (Lsb.spec_IsLossless i0 u4 u9 u15 (Dls.dpl rs1) zs2 zs3 _ (Dlk.dOwn_is O18.out) (Kep.iOwn_is O19.out) (Kep.iOwn_is O16.out)).mono ?_
        rintro e w5 ⟨rfl, hb5⟩
        have Z22 : Hid (w4.heap.size ≤ w5.heap.size) := hb5.size
        have B23 : Hid (Below w.heap.size w w5) := Frame.next B20.out hb5 B20.out.size
        clear  hb5
        go_wp2_with fail
        refine (Dlk.d_to (.slice a1 n1 c1) (Dls.dpl rs1) _ (Dlk.dIs_below A1.out B23.out)).mono ?_
        rintro e w6 ⟨u24, rfl, ho, hb6⟩
        have O25 : Hid (Dlk.DOwn w6 (w5.heap.size) (w6.heap.size) u24 (Dls.dpl rs1)) := ho
        have Z26 : Hid (w5.heap.size ≤ w6.heap.size) := hb6.size
        have B27 : Hid (Below w.heap.size w w6) := Frame.next B23.out hb6 B23.out.size
        clear ho hb6
        go_wp2_with fail
        refine (Kep.i_to (.slice a2 n2 c2) zs2 _ (Kep.iIs_below A2.out B27.out)).mono ?_
        rintro e w7 ⟨u29, rfl, ho, hb7⟩
        have O30 : Hid (Kep.IOwn w7 (w6.heap.size) (w7.heap.size) u29 zs2) := ho
        have Z31 : Hid (w6.heap.size ≤ w7.heap.size) := hb7.size
        have O32 : Hid (Dlk.DOwn w7 (w5.heap.size) (w6.heap.size) u24 (Dls.dpl rs1)) := Dlk.dOwn_below O25.out hb7
        have B33 : Hid (Below w.heap.size w w7) := Frame.next B27.out hb7 B27.out.size
        clear ho hb7
        go_wp2_with fail
        refine (Kep.i_to (.slice a3 n3 c3) zs3 _ (Kep.iIs_below A3.out B33.out)).mono ?_
        rintro e w8 ⟨u35, rfl, ho, hb8⟩
        have O36 : Hid (Kep.IOwn w8 (w7.heap.size) (w8.heap.size) u35 zs3) := ho
        have Z37 : Hid (w7.heap.size ≤ w8.heap.size) := hb8.size
        have O38 : Hid (Dlk.DOwn w8 (w5.heap.size) (w6.heap.size) u24 (Dls.dpl rs1)) := Dlk.dOwn_below O32.out hb8
        have O39 : Hid (Kep.IOwn w8 (w6.heap.size) (w7.heap.size) u29 zs2) := Kep.iOwn_below O30.out hb8
        have B40 : Hid (Below w.heap.size w w8) := Frame.next B33.out hb8 B33.out.size
        clear ho hb8
        go_wp2_with fail
        refine (Lsc.impl_IsLossless i0 u24 u29 u35 (Dls.dpl rs1) zs2 zs3 _ (Dlk.dOwn_is O38.out) (Kep.iOwn_is O39.out) (Kep.iOwn_is O36.out)).mono ?_
        rintro e w9 ⟨rfl, hb9⟩
        have Z42 : Hid (w8.heap.size ≤ w9.heap.size) := hb9.size
        have O43 : Hid (Dlk.DOwn w9 (w5.heap.size) (w6.heap.size) u24 (Dls.dpl rs1)) := Dlk.dOwn_below O38.out hb9
        have O44 : Hid (Kep.IOwn w9 (w6.heap.size) (w7.heap.size) u29 zs2) := Kep.iOwn_below O39.out hb9
        have O45 : Hid (Kep.IOwn w9 (w7.heap.size) (w8.heap.size) u35 zs3) := Kep.iOwn_below O36.out hb9
        have B46 : Hid (Below w.heap.size w w9) := Frame.next B40.out hb9 B40.out.size
        clear  hb9
        go_wp2_with fail
        refine (Dlk.d_to (.slice a1 n1 c1) (Dls.dpl rs1) _ (Dlk.dIs_below A1.out B46.out)).mono ?_
        rintro e w10 ⟨u47, rfl, ho, hb10⟩
        have O48 : Hid (Dlk.DOwn w10 (w9.heap.size) (w10.heap.size) u47 (Dls.dpl rs1)) := ho
        have Z49 : Hid (w9.heap.size ≤ w10.heap.size) := hb10.size
        have O50 : Hid (Dlk.DOwn w10 (w5.heap.size) (w6.heap.size) u24 (Dls.dpl rs1)) := Dlk.dOwn_below O43.out hb10
        have O51 : Hid (Kep.IOwn w10 (w6.heap.size) (w7.heap.size) u29 zs2) := Kep.iOwn_below O44.out hb10
        have O52 : Hid (Kep.IOwn w10 (w7.heap.size) (w8.heap.size) u35 zs3) := Kep.iOwn_below O45.out hb10
        have B53 : Hid (Below w.heap.size w w10) := Frame.next B46.out hb10 B46.out.size
        clear ho hb10
        go_wp2_with fail
        refine (Dlk.d_eq u24 u47 (Dls.dpl rs1) (Dls.dpl rs1) _ (Dlk.dOwn_is O50.out) (Dlk.dOwn_is O48.out)).mono ?_
        rintro e w11 ⟨rfl, hb11⟩
        rw [decide_eq_true (Eq.refl ((Dls.dpl rs1)))]
        have Z55 : Hid (w10.heap.size ≤ w11.heap.size) := hb11.size
        have O56 : Hid (Dlk.DOwn w11 (w5.heap.size) (w6.heap.size) u24 (Dls.dpl rs1)) := Dlk.dOwn_below O50.out hb11
        have O57 : Hid (Kep.IOwn w11 (w6.heap.size) (w7.heap.size) u29 zs2) := Kep.iOwn_below O51.out hb11
        have O58 : Hid (Kep.IOwn w11 (w7.heap.size) (w8.heap.size) u35 zs3) := Kep.iOwn_below O52.out hb11
        have O59 : Hid (Dlk.DOwn w11 (w9.heap.size) (w10.heap.size) u47 (Dls.dpl rs1)) := Dlk.dOwn_below O48.out hb11
        have B60 : Hid (Below w.heap.size w w11) := Frame.next B53.out hb11 B53.out.size
        clear hb11
        go_wp2_with fail
        refine (Kep.i_to (.slice a2 n2 c2) zs2 _ (Kep.iIs_below A2.out B60.out)).mono ?_
        rintro e w12 ⟨u61, rfl, ho, hb12⟩
        have O62 : Hid (Kep.IOwn w12 (w11.heap.size) (w12.heap.size) u61 zs2) := ho
        have Z63 : Hid (w11.heap.size ≤ w12.heap.size) := hb12.size
        have O64 : Hid (Dlk.DOwn w12 (w5.heap.size) (w6.heap.size) u24 (Dls.dpl rs1)) := Dlk.dOwn_below O56.out hb12
        have O65 : Hid (Kep.IOwn w12 (w6.heap.size) (w7.heap.size) u29 zs2) := Kep.iOwn_below O57.out hb12
        have O66 : Hid (Kep.IOwn w12 (w7.heap.size) (w8.heap.size) u35 zs3) := Kep.iOwn_below O58.out hb12
        have B67 : Hid (Below w.heap.size w w12) := Frame.next B60.out hb12 B60.out.size
        clear ho hb12
        go_wp2_with fail
        refine (Kep.i_eq u29 u61 zs2 zs2 _ (Kep.iOwn_is O65.out) (Kep.iOwn_is O62.out)).mono ?_
        rintro e w13 ⟨rfl, hb13⟩
        rw [decide_eq_true (Eq.refl (zs2))]
        have Z69 : Hid (w12.heap.size ≤ w13.heap.size) := hb13.size
        have O70 : Hid (Dlk.DOwn w13 (w5.heap.size) (w6.heap.size) u24 (Dls.dpl rs1)) := Dlk.dOwn_below O64.out hb13
        have O71 : Hid (Kep.IOwn w13 (w6.heap.size) (w7.heap.size) u29 zs2) := Kep.iOwn_below O65.out hb13
        have O72 : Hid (Kep.IOwn w13 (w7.heap.size) (w8.heap.size) u35 zs3) := Kep.iOwn_below O66.out hb13
        have O73 : Hid (Kep.IOwn w13 (w11.heap.size) (w12.heap.size) u61 zs2) := Kep.iOwn_below O62.out hb13
        have B74 : Hid (Below w.heap.size w w13) := Frame.next B67.out hb13 B67.out.size
        clear hb13
        go_wp2_with fail
        refine (Kep.i_to (.slice a3 n3 c3) zs3 _ (Kep.iIs_below A3.out B74.out)).mono ?_
        rintro e w14 ⟨u75, rfl, ho, hb14⟩
        have O76 : Hid (Kep.IOwn w14 (w13.heap.size) (w14.heap.size) u75 zs3) := ho
        have Z77 : Hid (w13.heap.size ≤ w14.heap.size) := hb14.size
        have O78 : Hid (Dlk.DOwn w14 (w5.heap.size) (w6.heap.size) u24 (Dls.dpl rs1)) := Dlk.dOwn_below O70.out hb14
        have O79 : Hid (Kep.IOwn w14 (w6.heap.size) (w7.heap.size) u29 zs2) := Kep.iOwn_below O71.out hb14
        have O80 : Hid (Kep.IOwn w14 (w7.heap.size) (w8.heap.size) u35 zs3) := Kep.iOwn_below O72.out hb14
        have B81 : Hid (Below w.heap.size w w14) := Frame.next B74.out hb14 B74.out.size
        clear ho hb14
        go_wp2_with fail
        refine (Kep.i_eq u35 u75 zs3 zs3 _ (Kep.iOwn_is O80.out) (Kep.iOwn_is O76.out)).mono ?_
        rintro e w15 ⟨rfl, hb15⟩
        rw [decide_eq_true (Eq.refl (zs3))]
        have Z83 : Hid (w14.heap.size ≤ w15.heap.size) := hb15.size
        have O84 : Hid (Dlk.DOwn w15 (w5.heap.size) (w6.heap.size) u24 (Dls.dpl rs1)) := Dlk.dOwn_below O78.out hb15
        have O85 : Hid (Kep.IOwn w15 (w6.heap.size) (w7.heap.size) u29 zs2) := Kep.iOwn_below O79.out hb15
        have O86 : Hid (Kep.IOwn w15 (w7.heap.size) (w8.heap.size) u35 zs3) := Kep.iOwn_below O80.out hb15
        have O87 : Hid (Kep.IOwn w15 (w13.heap.size) (w14.heap.size) u75 zs3) := Kep.iOwn_below O76.out hb15
        have B88 : Hid (Below w.heap.size w w15) := Frame.next B81.out hb15 B81.out.size
        clear hb15
        go_wp2
        go_ret
        exact ⟨rfl, B88.out⟩

set_option maxRecDepth 100000 in
theorem contract (H : Type) (enc : TypeId × Value → H) (W : World) (base : Nat) (args : Array Value) (ds gs : List (DataW H)) (before : List MemPlace)
    (hval0 : ∀ (j : Nat) t v, Try.f10.params[j]? = some t → args[j]? = some v → Value.okWide Try.prog W .any base t v)
    (hW : DataW.Whole enc Try.prog Try.f10.params.toList Rows.fnExactIsLosslessSpec.vars false W args.toList ds gs before) :
    Calls Try.prog 10 args W fun e W' => ∃ v, e = .returned v ∧ Rows.fnExactIsLosslessSpec.post enc Try.prog Try.f10 false true false false W args v W' := by
  refine Frame.law_calls (tb := 4) laidOut (by kernel_rfl) (by kernel_rfl) (by kernel_rfl) Try.underlying4 hW (fun ds gs h1 h2 => ?_) ?_
  · rw [Try.params10] at h1
    match ds, gs, h1, h2 with
    | [_, _, _, _], [], _, _ => rfl
  · obtain ⟨p, q, hA0, _, _, _, _⟩ := hW
    have hval : ∀ (j : Nat) t v, Try.f10.params[j]? = some t → args[j]? = some v → Value.okWide Try.prog W .any base t v := hval0
    have hA : DataW.TrodAll enc Try.prog W 0 (fun _ => true) true Try.f10.params.toList args.toList ds p := hA0
    rw [Try.params10] at hA hval
    obtain ⟨v0, vs0, d0, ds0, p0, q0, hargs, rfl, rfl, h0, r0⟩ := trodAll_cons hA
    obtain ⟨v1, vs1, d1, ds1, p1, q1, rfl, rfl, rfl, h1, r1⟩ := trodAll_cons r0
    obtain ⟨v2, vs2, d2, ds2, p2, q2, rfl, rfl, rfl, h2, r2⟩ := trodAll_cons r1
    obtain ⟨v3, vs3, d3, ds3, p3, q3, rfl, rfl, rfl, h3, r3⟩ := trodAll_cons r2
    obtain ⟨rfl, rfl, rfl⟩ := trodAll_nil r3
    obtain rfl : args = #[v0, v1, v2, v3] := by cases args; simp_all
    obtain ⟨a0, rfl, rfl, rfl, w0⟩ := open_int Try.underlying3 (hval 0 3 v0 rfl rfl) h0
    obtain ⟨a1, len1, cap1, rfl⟩ := okWide_slice Try.underlying73 (hval 1 73 v1 rfl rfl)
    obtain ⟨z1, w1⟩ := Opd.isG_of h1
    obtain ⟨a2, len2, cap2, rfl⟩ := okWide_slice Try.underlying24 (hval 2 24 v2 rfl rfl)
    obtain ⟨z2, w2⟩ := Frame.isRow_of Try.underlying24 Try.underlying3 (by kernel_rfl) h2
    obtain ⟨a3, len3, cap3, rfl⟩ := okWide_slice Try.underlying24 (hval 3 24 v3 rfl rfl)
    obtain ⟨z3, w3⟩ := Frame.isRow_of Try.underlying24 Try.underlying3 (by kernel_rfl) h3
    exact walk a0 a1 len1 cap1 z1 a2 len2 cap2 z2 a3 len3 cap3 z3 W w0 w1 w2 w3

set_option maxRecDepth 100000 in
theorem lifted (os : Os) (started : os.Started) (H : Type) (enc : TypeId × Value → H) :
    ReturnsInHanded {} Try.checked os 10 .any (Rows.fnExactIsLosslessSpec.pre6 enc Try.prog Try.f10 Rows.fnExactIsLosslessRow.domain false) (Rows.fnExactIsLosslessSpec.post enc Try.prog Try.f10 false true false false) := by
  refine returnsInHanded_of_change (C := Try.checked) own started (by kernel_rfl) Try.func10
    (ChangeSpec.witness6 (enc := enc) (C := Try.checked) false ⟨#[], #[.int .i64 0, .slice none 0 0, .slice none 0 0, .slice none 0 0], []⟩ 8 (by kernel_rfl) (by kernel_rfl) (by kernel_rfl) (by kernel_rfl)) ?_
  intro W base args ds gs before hval hW _ _
  exact contract H enc W base args ds gs before hval hW

theorem fnamed : Try.prog.funcNamed Rows.fnExactIsLosslessRow.func = some 10 := by kernel_rfl

theorem joined : joinedFacts Try.prog 10 Try.f10 Rows.fnExactIsLosslessSpec Rows.fnExactIsLosslessRow = true := by kernel_rfl

/-- The statement. -/
theorem proved : Rows.FnExactIsLosslessSaid :=
  OpenClaim.holds_of_wide 10 Try.f10 rfl rfl rfl rfl rfl rfl rfl ⟨rfl, rfl, rfl, rfl, rfl⟩ rfl rfl rfl rfl rfl fnamed Try.func10 joined
    (of_decide_eq_true (by kernel_rfl)) (by unfold Func.isWrapper; first | (rw [if_pos (by decide +kernel)]; kernel_rfl) | (rw [if_neg (by decide +kernel)]; exact ⟨rfl, rfl⟩))
    (fun os started H enc _ => lifted os started H enc)
#print axioms proved

end Go.Proofs.Ytfekaladfifgoaa.fnExactIsLossless
