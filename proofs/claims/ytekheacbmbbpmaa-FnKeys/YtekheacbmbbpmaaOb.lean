/-
  Contract of the program's GoodRelation.
-/
import Derived.Test.YtekheacbmbbpmaaOa
namespace Go.Proofs.Ytekheacbmbbpmaa.Ob
open Go.RowKit
open Go.Proofs.Ytekheacbmbbpmaa.Frame Go.Proofs.Ytekheacbmbbpmaa.Mem Go.Proofs.Ytekheacbmbbpmaa.Ints Go.Proofs.Ytekheacbmbbpmaa.Kep Go.Proofs.Ytekheacbmbbpmaa.Lls Go.Proofs.Ytekheacbmbbpmaa.Rpu Go.Proofs.Ytekheacbmbbpmaa.Krl Go.Proofs.Ytekheacbmbbpmaa.Oa Go.Proofs.Ytekheacbmbbpmaa.Rel

theorem goodR_few {ns : List Int} {ts : Rel.Ll} (h : ¬ ns.length ≤ 6) : goodR ns ts = false := by
  rw [Bool.eq_false_iff]
  exact fun hg => h (good_iff.1 hg).few
theorem goodR_most {ns : List Int} {ts : Rel.Ll} (h : ¬ ts.length ≤ 60) : goodR ns ts = false := by
  rw [Bool.eq_false_iff]
  exact fun hg => h (good_iff.1 hg).most
theorem goodR_name {ns : List Int} {ts : Rel.Ll} {k : Nat} (hk : k < ns.length) (h : Val.inB (ns.getD k 0) 0 20 = false) : goodR ns ts = false := by
  rw [Bool.eq_false_iff]
  intro hg
  have := (good_iff.1 hg).inN _ (getD_mem0 hk)
  unfold Val.inB at h
  rw [decide_eq_false_iff_not] at h
  exact h this
theorem goodR_tup {ns : List Int} {ts : Rel.Ll} {t : List Int} (ht : t ∈ ts) (h : tupB ns.length t = false) : goodR ns ts = false := by
  rw [Bool.eq_false_iff]
  intro hg
  have hg := good_iff.1 hg
  have : tupB ns.length t = true := by
    unfold tupB
    rw [Bool.and_eq_true, decide_eq_true_eq, allI_iff]
    exact ⟨hg.wide t ht, hg.inT t ht⟩
  rw [h] at this
  cases this
theorem goodR_upN {ns : List Int} {ts : Rel.Ll} (h : decide (UpN ns) = false) : goodR ns ts = false := by
  rw [Bool.eq_false_iff]
  exact fun hg => (of_decide_eq_false h) (good_iff.1 hg).upN
theorem goodR_rest {ns : List Int} {ts : Rel.Ll} (h1 : ns.length ≤ 6) (h2 : ts.length ≤ 60) (h3 : allI 0 20 ns = true) (h4 : ts.all (tupB ns.length) = true) (h5 : decide (UpN ns) = true) : goodR ns ts = decide (Strict ts) := by
  have hl : ∀ t ∈ ts, t.length = ns.length := fun t ht => by
    have := List.all_eq_true.1 h4 t ht
    unfold tupB at this
    rw [Bool.and_eq_true, decide_eq_true_eq] at this
    exact this.1
  rw [strict_iff hl]
  unfold goodR riseB
  rw [h3, h4, h5]
  simp [h1, h2]
theorem getD_mem_l {ts : Rel.Ll} {k : Nat} (h : k < ts.length) : ts.getD k [] ∈ ts := by
  simp only [List.getD, List.getElem?_eq_getElem h, Option.getD_some]
  exact List.getElem_mem h
theorem all_step {ts : Rel.Ll} {f : List Int → Bool} {k : Nat} (hk : k < ts.length) (h : (ts.take k).all f = true) (h1 : f (ts.getD k []) = true) : (ts.take (k + 1)).all f = true := by
  rw [List.take_succ_eq_append_getElem hk, List.all_append, h]
  simp only [List.getD, List.getElem?_eq_getElem hk, Option.getD_some] at h1
  simp [h1]

set_option maxHeartbeats 1600000 in
theorem impl_GoodRelation (u t : Value) (r : Rl) (w : World) (h : QIs w u t r) : Calls Try.prog 36 #[.agg #[u, t]] w fun e w' => e = .returned (.bool (goodR r.1 r.2)) ∧ Below w.heap.size w w' := by
  obtain ⟨⟨ua, un, uc, rfl, hu, hun⟩, ta, tn, tc, rs, rfl, ht, hrs, htt⟩ := h
  obtain ⟨ns, ts⟩ := r
  simp only at hu hrs
  subst hrs
  have b0 : Below w.heap.size w (w.alloc (.cells #[.slice ua un uc, .slice ta tn tc] 42)) := (Below.refl w.heap.size w).alloc (Nat.le_refl _) _
  have B0 : Hid (Below w.heap.size w (w.alloc (.cells #[.slice ua un uc, .slice ta tn tc] 42))) := b0
  have HU : Hid (IsRow .i64 (w.alloc (.cells #[.slice ua un uc, .slice ta tn tc] 42)) ua un uc ns) := IsRow.below hu b0
  have HT : Hid (IsLs (w.alloc (.cells #[.slice ua un uc, .slice ta tn tc] 42)) ta tn tc rs) := ht.below b0
  have LU : Hid (ns.length = un) := hu.len
  have LT : Hid ((lplain rs).length = tn) := by rw [lplain_length]; exact ht.len
  have LR : Hid (rs.length = tn) := ht.len
  have htn : tn ≤ 1048576 := by have := (Knl.small_ls htt).1; rw [ht.len] at this; exact this
  show Calls _ _ _ _ fun e w' => e = .returned (.bool (goodR ns (lplain rs))) ∧ Below w.heap.size w w'
  clear b0 hu ht htt
  by_cases h6 : un ≤ 6
  · by_cases h60 : tn ≤ 60
    · go_enter Try.func36, Try.ntmps36
      go_wp2
      go_loop [20] (fun i => ∃ k : Nat, k ≤ un ∧ i = .int .i64 k ∧ allI 0 20 (ns.take k) = true) (fun i => un - (intOf i).toNat)
      case atStart => exact ⟨0, Nat.zero_le _, rfl, rfl⟩
      case round =>
        obtain ⟨k, hk, rfl, hall⟩ := hrel
        have Hall : Hid (allI 0 20 (ns.take k) = true) := hall
        clear hall
        by_cases hlt : k < un
        · obtain ⟨b, off, rfl, hbl, hc⟩ := HU.out.cells (by omega)
          have hck := hc k hlt
          generalize hx : ns.getD k 0 = x at hck
          have HX : Hid (ns.getD k 0 = x) := hx
          clear hc hx
          cases hin : Val.inB x 0 20
          · have Hin : Hid (Val.inB x 0 20 = false) := hin
            clear hin
            go_wp2_with fail
            refine (impl_isName _ _).mono ?_
            rintro e w' ⟨rfl, rfl⟩
            rw [Hin.out]
            go_wp2_with fail
            go_ret
            exact ⟨ret_bool (goodR_name (k := k) (by rw [LU.out]; exact hlt) (by rw [HX.out]; exact Hin.out)).symm, B0.out⟩
          · have Hin : Hid (Val.inB x 0 20 = true) := hin
            clear hin
            go_wp2_with fail
            refine (impl_isName _ _).mono ?_
            rintro e w' ⟨rfl, rfl⟩
            rw [Hin.out]
            go_wp2_with fail
            go_round
            case rel => exact ⟨k + 1, by omega, by go_num, Lst.all_take_succ _ ns k (by rw [LU.out]; exact hlt) (by rw [HX.out]; exact Hin.out) Hall.out⟩
            case measure => simp [intOf]; omega
        · have HN : Hid (allI 0 20 ns = true) := by
            have h := Hall.out
            rwa [List.take_of_length_le (by rw [LU.out]; omega)] at h
          clear Hall
          go_wp2
          go_loop [31] (fun i => ∃ k : Nat, k ≤ tn ∧ i = .int .i64 k ∧ ((lplain rs).take k).all (tupB un) = true) (fun i => tn - (intOf i).toNat)
          case atStart => exact ⟨0, Nat.zero_le _, rfl, rfl⟩
          case round =>
            obtain ⟨j, hj, rfl, hall⟩ := hrel
            have Hall : Hid (((lplain rs).take j).all (tupB un) = true) := hall
            clear hall
            by_cases hlt2 : j < tn
            · obtain ⟨b, off, rfl, hbl, hc⟩ := HT.out.cells (by omega)
              have hck := hc j hlt2
              have jl : j < rs.length := by rw [LR.out]; exact hlt2
              have r1 := HT.out.rows _ (getD_mem_ld jl)
              have hx := lplain_get rs j jl
              generalize rs.getD j ld = x at hck r1 hx
              obtain ⟨xa, xn, xc, xs⟩ := x
              simp only at hck r1 hx
              have HX : Hid ((lplain rs).getD j [] = xs) := hx
              have R1 : Hid (IsRow .i64 (w.alloc (.cells #[.slice ua un uc, .slice (some ⟨b, off, none⟩) tn tc] 42)) xa xn xc xs) := r1
              clear hc hx r1
              cases hin : tupB un xs
              · have Hin : Hid (tupB un xs = false) := hin
                clear hin
                go_wp2_with fail
                refine (impl_isTuple _ _ _ xs un _ R1.out (by unfold maxLen; omega)).mono ?_
                rintro e w' ⟨rfl, rfl⟩
                rw [Hin.out]
                go_wp2_with fail
                go_ret
                exact ⟨ret_bool (goodR_tup (getD_mem_l (k := j) (by rw [LT.out]; exact hlt2)) (by rw [HX.out, LU.out]; exact Hin.out)).symm, B0.out⟩
              · have Hin : Hid (tupB un xs = true) := hin
                clear hin
                go_wp2_with fail
                refine (impl_isTuple _ _ _ xs un _ R1.out (by unfold maxLen; omega)).mono ?_
                rintro e w' ⟨rfl, rfl⟩
                rw [Hin.out]
                go_wp2_with fail
                go_round
                case rel => exact ⟨j + 1, by omega, by go_num, all_step (by rw [LT.out]; exact hlt2) Hall.out (by rw [HX.out]; exact Hin.out)⟩
                case measure => simp [intOf]; omega
            · have HTS : Hid ((lplain rs).all (tupB ns.length) = true) := by
                have h := Hall.out
                rw [List.take_of_length_le (by rw [LT.out]; omega)] at h
                show _ = _
                rw [LU.out]
                exact h
              clear Hall
              cases hd : decide (UpN ns)
              · have HD : Hid (decide (UpN ns) = false) := hd
                clear hd
                go_wp2_with fail
                refine (rises_int _ _ _ ns _ HU.out).mono ?_
                rintro e w1 ⟨rfl, hb1⟩
                rw [HD.out]
                have B1 : Hid (Below w.heap.size w w1) := Frame.next B0.out hb1 (by simp)
                clear hb1
                go_wp2
                go_ret
                exact ⟨ret_bool (goodR_upN HD.out).symm, B1.out⟩
              · have HD : Hid (decide (UpN ns) = true) := hd
                clear hd
                go_wp2_with fail
                refine (rises_int _ _ _ ns _ HU.out).mono ?_
                rintro e w1 ⟨rfl, hb1⟩
                rw [HD.out]
                have B1 : Hid (Below w.heap.size w w1) := Frame.next B0.out hb1 (by simp)
                have HT1 : Hid (IsLs w1 ta tn tc rs) := HT.out.below hb1
                have p1 : w1.cell? ⟨w.heap.size, 1, none⟩ = some (.slice ta tn tc) := by rw [(Frame.bcell hb1).1 _ _ (by simp)]; go_simp
                have HW : Hid (w.heap.size ≤ w1.heap.size) := by have := hb1.size; simp at this; show _ ≤ _; omega
                have HG : Hid (goodR ns (lplain rs) = decide (Strict (lplain rs))) := goodR_rest (by rw [LU.out]; exact h6) (by rw [LT.out]; exact h60) HN.out HTS.out HD.out
                clear hb1
                go_wp2_with fail
                refine (rises_ls _ _ _ rs _ HT1.out).mono ?_
                rintro e w2 ⟨rfl, hb2⟩
                have B2 : Hid (Below w.heap.size w w2) := Frame.next B1.out hb2 HW.out
                clear hb2 p1
                go_wp2
                go_ret
                exact ⟨ret_bool HG.out.symm, B2.out⟩
    · have HE : Hid (goodR ns (lplain rs) = false) := goodR_most (by rw [LT.out]; exact h60)
      have hlt : (60 : Int) < (tn : Int) := by omega
      clear h60
      go_enter Try.func36, Try.ntmps36
      go_wp2
      go_ret
      exact ⟨ret_bool HE.out.symm, B0.out⟩
  · have HE : Hid (goodR ns (lplain rs) = false) := goodR_few (by rw [LU.out]; exact h6)
    have hlt : (6 : Int) < (un : Int) := by omega
    clear h6
    go_enter Try.func36, Try.ntmps36
    go_wp2
    go_ret
    exact ⟨ret_bool HE.out.symm, B0.out⟩


end Go.Proofs.Ytekheacbmbbpmaa.Ob
