/-
  Contract of the model's GoodRelation.
-/
import Derived.Test.YtekheacbmbbpmaaSa
namespace Go.Proofs.Ytekheacbmbbpmaa.Sb
open Go.RowKit
open Go.Proofs.Ytekheacbmbbpmaa.Frame Go.Proofs.Ytekheacbmbbpmaa.Mem Go.Proofs.Ytekheacbmbbpmaa.Ints Go.Proofs.Ytekheacbmbbpmaa.Kep Go.Proofs.Ytekheacbmbbpmaa.Lls Go.Proofs.Ytekheacbmbbpmaa.Rpu Go.Proofs.Ytekheacbmbbpmaa.Krl Go.Proofs.Ytekheacbmbbpmaa.Sa Go.Proofs.Ytekheacbmbbpmaa.Rel

theorem goodR_few {ns : List Int} {ts : Rel.Ll} (h : ¬ ns.length ≤ 6) : goodR ns ts = false := by
  rw [Bool.eq_false_iff]
  exact fun hg => h (good_iff.1 hg).few
theorem goodR_most {ns : List Int} {ts : Rel.Ll} (h : ¬ ts.length ≤ 60) : goodR ns ts = false := by
  rw [Bool.eq_false_iff]
  exact fun hg => h (good_iff.1 hg).most
theorem goodR_rise {ns : List Int} {ts : Rel.Ll} (h : riseB 0 20 ns = false) : goodR ns ts = false := by
  unfold goodR
  rw [h]
  simp
theorem goodR_tup {ns : List Int} {ts : Rel.Ll} {t : List Int} (ht : t ∈ ts) (h : tupB ns.length t = false) : goodR ns ts = false := by
  unfold goodR
  have : ts.all (tupB ns.length) = false := List.all_eq_false.2 ⟨t, ht, by rw [h]; exact Bool.false_ne_true⟩
  rw [this]
  simp
theorem goodR_up {ns : List Int} {ts : Rel.Ll} (h : ¬ Up ts) : goodR ns ts = false := by
  rw [Bool.eq_false_iff]
  exact fun hg => h (good_iff.1 hg).up
theorem getD_mem_l {ts : Rel.Ll} {k : Nat} (h : k < ts.length) : ts.getD k [] ∈ ts := by
  simp only [List.getD, List.getElem?_eq_getElem h, Option.getD_some]
  exact List.getElem_mem h
theorem all_step {ts : Rel.Ll} {f : List Int → Bool} {k : Nat} (hk : k < ts.length) (h : (ts.take k).all f = true) (h1 : f (ts.getD k []) = true) : (ts.take (k + 1)).all f = true := by
  rw [List.take_succ_eq_append_getElem hk, List.all_append, h]
  simp only [List.getD, List.getElem?_eq_getElem hk, Option.getD_some] at h1
  simp [h1]
theorem all_prev {ts : Rel.Ll} {n k : Nat} (h : (ts.take k).all (tupB n) = true) (h0 : 0 < k) (hk : k < ts.length) : (ts.getD (k - 1) []).length = n := by
  have hm : ts.getD (k - 1) [] ∈ ts.take k := by
    have hl : k - 1 < (ts.take k).length := by simp; omega
    have := getD_mem_l hl
    have e : (ts.take k).getD (k - 1) [] = ts.getD (k - 1) [] := by simp [List.getD, show k - 1 < k by omega]
    rwa [e] at this
  have := List.all_eq_true.1 h _ hm
  unfold tupB at this
  rw [Bool.and_eq_true, decide_eq_true_eq] at this
  exact this.1
theorem lplain_length (rs : List LV) : (lplain rs).length = rs.length := by simp [lplain]
theorem tupB_len {n : Nat} {t : List Int} (h : t.length ≠ n) : tupB n t = false := by unfold tupB; simp [h]
theorem tupB_all {n : Nat} {t : List Int} (h : t.length = n) : tupB n t = Lst.allIn (-1000) 1000 t := by unfold tupB; simp [h]; rfl

set_option maxHeartbeats 1600000 in
theorem spec_GoodRelation (u t : Value) (r : Rl) (w : World) (h : QIs w u t r) : Calls Try.prog 40 #[.agg #[u, t]] w fun e w' => e = .returned (.bool (goodR r.1 r.2)) ∧ Below w.heap.size w w' := by
  obtain ⟨⟨ua, un, uc, rfl, hu, hun⟩, ta, tn, tc, rs, rfl, ht, hrs, htt⟩ := h
  obtain ⟨ns, ts⟩ := r
  simp only at hu hrs
  subst hrs
  have b0 : Below w.heap.size w (w.alloc (.cells #[.slice ua un uc, .slice ta tn tc] 42)) := (Below.refl w.heap.size w).alloc (Nat.le_refl _) _
  have B0 : Hid (Below w.heap.size w (w.alloc (.cells #[.slice ua un uc, .slice ta tn tc] 42))) := b0
  have HU : Hid (IsRow .i64 (w.alloc (.cells #[.slice ua un uc, .slice ta tn tc] 42)) ua un uc ns) := IsRow.below hu b0
  have HT0 : Hid (IsLs w ta tn tc rs) := ht
  have LU : Hid (ns.length = un) := hu.len
  have LT : Hid ((lplain rs).length = tn) := by rw [lplain_length]; exact ht.len
  have LR : Hid (rs.length = tn) := ht.len
  have htn : tn ≤ 1048576 := by have := (Knl.small_ls htt).1; rw [ht.len] at this; exact this
  have RN : Hid (∀ r ∈ rs, r.n ≤ 1048576) := (Knl.small_ls htt).2
  show Calls _ _ _ _ fun e w' => e = .returned (.bool (goodR ns (lplain rs))) ∧ Below w.heap.size w w'
  clear b0 hu ht htt
  by_cases h6 : un ≤ 6
  · cases hr : riseB 0 20 ns
    · have HR : Hid (riseB 0 20 ns = false) := hr
      have HE : Hid (goodR ns (lplain rs) = false) := goodR_rise hr
      clear hr
      go_enter Try.func40, Try.ntmps40
      go_wp2_with fail
      refine (spec_l1Rising _ _ _ ns 0 20 _ HU.out).mono ?_
      rintro e w' ⟨rfl, rfl⟩
      rw [HR.out]
      go_wp2
      go_ret
      exact ⟨ret_bool HE.out.symm, B0.out⟩
    · have HR : Hid (riseB 0 20 ns = true) := hr
      clear hr
      by_cases h60 : tn ≤ 60
      · go_enter Try.func40, Try.ntmps40
        go_wp2_with fail
        refine (spec_l1Rising _ _ _ ns 0 20 _ HU.out).mono ?_
        rintro e w' ⟨rfl, rfl⟩
        rw [HR.out]
        go_wp2_with fail
        have C : Hid ((w.alloc (.cells #[.slice ua un uc, .slice ta tn tc] 42)).cell? ⟨w.heap.size, 0, none⟩ = some (.slice ua un uc) ∧ (w.alloc (.cells #[.slice ua un uc, .slice ta tn tc] 42)).cell? ⟨w.heap.size, 1, none⟩ = some (.slice ta tn tc)) := by
          show _ ∧ _
          constructor <;> go_simp
        go_loopw [24] (fun i wr => ∃ k : Nat, k ≤ tn ∧ i = .int .i64 k ∧ ((lplain rs).take k).all (tupB un) = true ∧ Up ((lplain rs).take k) ∧ Below w.heap.size w wr ∧ wr.cell? ⟨w.heap.size, 0, none⟩ = some (.slice ua un uc) ∧ wr.cell? ⟨w.heap.size, 1, none⟩ = some (.slice ta tn tc)) (fun i _ => tn - (intOf i).toNat)
        case atStart => exact ⟨0, Nat.zero_le _, rfl, rfl, by simp [Up], B0.out, C.out.1, C.out.2⟩
        case round =>
          obtain ⟨k, hk, rfl, hall, hup, hnx, q0, q1⟩ := hrel
          have Hall : Hid (((lplain rs).take k).all (tupB un) = true) := hall
          have Hup : Hid (Up ((lplain rs).take k)) := hup
          have HN : Hid (Below w.heap.size w wr) := hnx
          have HQ : Hid (wr.cell? ⟨w.heap.size, 0, none⟩ = some (.slice ua un uc) ∧ wr.cell? ⟨w.heap.size, 1, none⟩ = some (.slice ta tn tc)) := ⟨q0, q1⟩
          clear hall hup
          by_cases hlt : k < tn
          · obtain ⟨b, off, rfl, hbl, hc⟩ := HT0.out.cells (by omega)
            have kl : k < rs.length := by rw [LR.out]; exact hlt
            have klp : k < (lplain rs).length := by rw [LT.out]; exact hlt
            have hck : wr.cell? ⟨b, off + k, none⟩ = some (.slice (rs.getD k ld).a (rs.getD k ld).n (rs.getD k ld).c) := by rw [hnx.cell (p := ⟨b, off + k, none⟩) hbl]; exact hc k hlt
            have r1 := IsRow.below (HT0.out.rows _ (getD_mem_ld kl)) hnx
            have hx := lplain_get rs k kl
            have hxn := RN.out _ (getD_mem_ld kl)
            generalize rs.getD k ld = x at hck r1 hx hxn
            obtain ⟨xa, xn, xc, xs⟩ := x
            simp only at hck r1 hx hxn
            have R1 : Hid (IsRow .i64 wr xa xn xc xs) := r1
            have LX : Hid (xs.length = xn) := r1.len
            have HM : Hid (xs ∈ lplain rs) := hx ▸ getD_mem_l klp
            have HX : Hid ((lplain rs).getD k [] = xs) := hx
            clear r1 hx
            by_cases hxl : xn = un
            · subst hxl
              have HTB : Hid (tupB xn xs = Lst.allIn (-1000) 1000 xs) := tupB_all LX.out
              cases hin : Lst.allIn (-1000) 1000 xs
              · have Hin : Hid (Lst.allIn (-1000) 1000 xs = false) := hin
                have F : Hid (goodR ns (lplain rs) = false) := goodR_tup HM.out (by rw [LU.out, HTB.out]; exact hin)
                clear hin hc hnx
                go_wp2_with fail
                refine (Lst.spec_l1All _ _ _ xs _ _ _ R1.out hxn).mono ?_
                rintro e w' ⟨rfl, rfl⟩
                rw [Hin.out]
                go_wp2_with fail
                go_ret
                exact ⟨ret_bool F.out.symm, HN.out⟩
              · have Hin : Hid (Lst.allIn (-1000) 1000 xs = true) := hin
                have FA : Hid (((lplain rs).take (k + 1)).all (tupB xn) = true) := all_step klp Hall.out (by rw [HX.out, HTB.out]; exact hin)
                clear hin
                by_cases h0 : k = 0
                · have FU : Hid (Up ((lplain rs).take (k + 1))) := up_step klp Hup.out (fun h => absurd h (by omega))
                  have hk0 : ¬ (0 : Int) < (k : Int) := by omega
                  clear h0 hc hnx
                  go_wp2_with fail
                  refine (Lst.spec_l1All _ _ _ xs _ _ _ R1.out hxn).mono ?_
                  rintro e w' ⟨rfl, rfl⟩
                  rw [Hin.out]
                  go_wp2_with fail
                  go_roundw
                  case rel => exact ⟨k + 1, by omega, by go_num, FA.out, FU.out, HN.out, HQ.out.1, HQ.out.2⟩
                  case measure => simp [intOf]; omega
                · obtain ⟨p, hp⟩ : ∃ p, p = k - 1 := ⟨_, rfl⟩
                  have pl : p < rs.length := by omega
                  have hpc : wr.cell? ⟨b, off + p, none⟩ = some (.slice (rs.getD p ld).a (rs.getD p ld).n (rs.getD p ld).c) := by rw [hnx.cell (p := ⟨b, off + p, none⟩) hbl]; exact hc p (by omega)
                  have r2 := IsRow.below (HT0.out.rows _ (getD_mem_ld pl)) hnx
                  have hy := lplain_get rs p pl
                  have hlp : ((lplain rs).getD p []).length = xn := by rw [hp]; exact all_prev Hall.out (by omega) klp
                  have HUP : Hid ((lessL ((lplain rs).getD p []) ((lplain rs).getD k []) = true → Up ((lplain rs).take (k + 1))) ∧ (lessL ((lplain rs).getD p []) ((lplain rs).getD k []) = false → goodR ns (lplain rs) = false)) := by
                    rw [hp]
                    exact ⟨fun h => up_step klp Hup.out (fun _ => h), fun h => goodR_up (up_not (by omega) klp h)⟩
                  rw [hy] at HUP hlp
                  generalize rs.getD p ld = y at hpc r2 HUP hlp
                  obtain ⟨ya, yn, yc, ys⟩ := y
                  simp only at hpc r2 HUP hlp
                  rw [HX.out] at HUP
                  have R2 : Hid (IsRow .i64 wr ya yn yc ys) := r2
                  have HYN : Hid (yn = xn) := by show _ = _; rw [← r2.len]; exact hlp
                  have hwr : IntKind.i64.wrap ((k : Int) - 1) = (p : Int) := by simp [IntKind.wrap, IntKind.bits, IntKind.signed]; omega
                  have hk0 : (0 : Int) < (k : Int) := by omega
                  have hpn : (p : Int) < (tn : Int) := by omega
                  clear hy hc r2 hlp hnx h0 hp pl kl klp
                  cases hv : lessL ys xs
                  · have F : Hid (goodR ns (lplain rs) = false) := HUP.out.2 hv
                    have HV : Hid (lessL ys xs = false) := hv
                    clear HUP hv
                    go_wp2_with fail
                    refine (Lst.spec_l1All _ _ _ xs _ _ _ R1.out hxn).mono ?_
                    rintro e w' ⟨rfl, rfl⟩
                    rw [Hin.out]
                    go_wp2_with fail
                    refine (spec_l3Less _ _ _ _ _ _ ys xs _ R2.out R1.out HYN.out).mono ?_
                    rintro e w1 ⟨rfl, hb1⟩
                    rw [HV.out]
                    have HN1 : Hid (Below w.heap.size w w1) := Frame.next HN.out hb1 HN.out.size
                    clear hb1
                    go_wp2
                    go_ret
                    exact ⟨ret_bool F.out.symm, HN1.out⟩
                  · have FU : Hid (Up ((lplain rs).take (k + 1))) := HUP.out.1 hv
                    have HV : Hid (lessL ys xs = true) := hv
                    clear HUP hv
                    go_wp2_with fail
                    refine (Lst.spec_l1All _ _ _ xs _ _ _ R1.out hxn).mono ?_
                    rintro e w' ⟨rfl, rfl⟩
                    rw [Hin.out]
                    go_wp2_with fail
                    refine (spec_l3Less _ _ _ _ _ _ ys xs _ R2.out R1.out HYN.out).mono ?_
                    rintro e w1 ⟨rfl, hb1⟩
                    rw [HV.out]
                    have HN1 : Hid (Below w.heap.size w w1) := Frame.next HN.out hb1 HN.out.size
                    have HQ1 : Hid (w1.cell? ⟨w.heap.size, 0, none⟩ = some (.slice ua xn uc) ∧ w1.cell? ⟨w.heap.size, 1, none⟩ = some (.slice (some ⟨b, off, none⟩) tn tc)) := ⟨Frame.held_cell hb1 HQ.out.1, Frame.held_cell hb1 HQ.out.2⟩
                    clear hb1 q0 q1 hck hpc
                    go_wp2
                    go_roundw
                    case rel => exact ⟨k + 1, by omega, by go_num, FA.out, FU.out, HN1.out, HQ1.out.1, HQ1.out.2⟩
                    case measure => simp [intOf]; omega
            · have hne : ((xn : Int) != (un : Int)) = true := by rw [bne_iff_ne]; omega
              have F : Hid (goodR ns (lplain rs) = false) := goodR_tup HM.out (by rw [LU.out]; exact tupB_len (by rw [LX.out]; exact hxl))
              clear hxl hc hnx
              go_wp2
              go_ret
              exact ⟨ret_bool F.out.symm, HN.out⟩
          · have F : Hid (goodR ns (lplain rs) = true) := by
              have h := Hall.out
              have h' := Hup.out
              rw [List.take_of_length_le (by rw [LT.out]; omega)] at h h'
              show _ = _
              unfold goodR
              rw [HR.out, LU.out, LT.out, h, decide_eq_true h']
              simp [h6, h60]
            clear hnx q0 q1
            go_wp2
            go_ret
            exact ⟨ret_bool F.out.symm, HN.out⟩
      · have HE : Hid (goodR ns (lplain rs) = false) := goodR_most (by rw [LT.out]; exact h60)
        have hlt : (60 : Int) < (tn : Int) := by omega
        clear h60
        go_enter Try.func40, Try.ntmps40
        go_wp2_with fail
        refine (spec_l1Rising _ _ _ ns 0 20 _ HU.out).mono ?_
        rintro e w' ⟨rfl, rfl⟩
        rw [HR.out]
        go_wp2
        go_ret
        exact ⟨ret_bool HE.out.symm, B0.out⟩
  · have HE : Hid (goodR ns (lplain rs) = false) := goodR_few (by rw [LU.out]; exact h6)
    have hlt : (6 : Int) < (un : Int) := by omega
    clear h6
    go_enter Try.func40, Try.ntmps40
    go_wp2
    go_ret
    exact ⟨ret_bool HE.out.symm, B0.out⟩


end Go.Proofs.Ytekheacbmbbpmaa.Sb
