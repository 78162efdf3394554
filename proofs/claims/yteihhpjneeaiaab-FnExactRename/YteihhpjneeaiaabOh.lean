/-
  Contracts of the program's isSame, haveSameNames and SameTuples.
-/
import Derived.Test.YteihhpjneeaiaabOb
namespace Go.Proofs.Yteihhpjneeaiaab.Oh
open Go.RowKit
open Go.Proofs.Yteihhpjneeaiaab.Frame Go.Proofs.Yteihhpjneeaiaab.Mem Go.Proofs.Yteihhpjneeaiaab.Ints Go.Proofs.Yteihhpjneeaiaab.Kep Go.Proofs.Yteihhpjneeaiaab.Lls Go.Proofs.Yteihhpjneeaiaab.Rpu Go.Proofs.Yteihhpjneeaiaab.Krl Go.Proofs.Yteihhpjneeaiaab.Oa Go.Proofs.Yteihhpjneeaiaab.Ob Go.Proofs.Yteihhpjneeaiaab.Rel

set_option maxHeartbeats 400000 in
theorem compare_int (a b : Option Addr) (n m ca cb : Nat) (xs ys : List Int) (w : World) (ha : IsRow .i64 w a n ca xs) (hb : IsRow .i64 w b m cb ys) :
    Calls Try.prog 71 #[.slice a n ca, .slice b m cb, .func (.func 47) #[] #[]] w fun e w' => e = .returned (.int .i64 (cmpL xs ys)) ∧ w' = w := by
  have hmaxn : n ≤ 9223372036854775807 := by have := ha.fits; have := ha.max; unfold maxLen at *; omega
  have hmaxm : m ≤ 9223372036854775807 := by have := hb.fits; have := hb.max; unfold maxLen at *; omega
  have HAs : Hid (0 < n → ∃ b off, a = some ⟨b, off, none⟩ ∧ b < w.heap.size ∧ ∀ i, i < n → w.cell? ⟨b, off + i, none⟩ = some (.int .i64 (xs.getD i 0))) := ha.cells
  have HBs : Hid (0 < m → ∃ c off, b = some ⟨c, off, none⟩ ∧ c < w.heap.size ∧ ∀ i, i < m → w.cell? ⟨c, off + i, none⟩ = some (.int .i64 (ys.getD i 0))) := hb.cells
  have LA : Hid (xs.length = n) := ha.len
  have LB : Hid (ys.length = m) := hb.len
  clear ha hb
  go_enter Try.func71, Try.ntmps71
  go_wp2
  go_loop [13] (fun i => ∃ k : Nat, k ≤ n ∧ k ≤ m ∧ i = .int .i64 k ∧ xs.take k = ys.take k) (fun i => n - (intOf i).toNat)
  case atStart => exact ⟨0, Nat.zero_le _, Nat.zero_le _, rfl, rfl⟩
  case round =>
    obtain ⟨k, hk, hkm, rfl, heq⟩ := hrel
    have Heq : Hid (xs.take k = ys.take k) := heq
    clear heq
    by_cases hlt : k < n
    · obtain ⟨b1, o1, rfl, hb1, hc1⟩ := HAs.out (by omega)
      have h1 := hc1 k hlt
      by_cases hltm : k < m
      · obtain ⟨b2, o2, rfl, hb2, hc2⟩ := HBs.out (by omega)
        have h2 := hc2 k hltm
        have HXY : Hid ((xs.getD k 0 = ys.getD k 0 → xs.take (k + 1) = ys.take (k + 1)) ∧ (xs.getD k 0 ≠ ys.getD k 0 → cmpL xs ys = cmpI (xs.getD k 0) (ys.getD k 0))) :=
          ⟨fun e => eq_take_succ xs ys k (by rw [LA.out]; exact hlt) (by rw [LB.out]; exact hltm) Heq.out e, fun e => cmpL_diff Heq.out (by rw [LA.out]; exact hlt) (by rw [LB.out]; exact hltm) e⟩
        generalize xs.getD k 0 = x at h1 HXY
        generalize ys.getD k 0 = y at h2 HXY
        clear hc1 hc2
        have hc := cmpI_zero (x := x) (y := y)
        go_wp2_with fail
        refine (byNumber _ _ _).mono ?_
        rintro e w' ⟨rfl, rfl⟩
        by_cases hv : x = y
        · have F : Hid (xs.take (k + 1) = ys.take (k + 1)) := HXY.out.1 hv
          have e0 : cmpI x y = 0 := hc.2 hv
          rw [e0]
          clear HXY hc e0 hv
          go_wp2
          go_round
          case rel => exact ⟨k + 1, by omega, by omega, by go_num, F.out⟩
          case measure => simp [intOf]; omega
        · have F : Hid (cmpL xs ys = cmpI x y) := HXY.out.2 hv
          have hne : ¬ cmpI x y = 0 := fun h => hv (hc.1 h)
          clear HXY hc hv
          generalize cmpI x y = c at F hne ⊢
          have hnb : (c != 0) = true := by rw [bne_iff_ne]; exact hne
          clear hne
          go_wp2
          go_ret
          exact ⟨ret_int F.out.symm, rfl⟩
      · have F : Hid (cmpL xs ys = 1) := cmpL_long Heq.out (by rw [LA.out]; exact hlt) (by rw [LB.out]; omega)
        clear hc1
        go_wp2
        go_ret
        exact ⟨ret_int F.out.symm, rfl⟩
    · obtain rfl : k = n := by omega
      by_cases hlm : k < m
      · have F : Hid (cmpL xs ys = -1) := cmpL_short (by rw [LA.out]; exact Heq.out) (by rw [LA.out, LB.out]; exact hlm)
        go_wp2
        go_ret
        exact ⟨ret_int F.out.symm, rfl⟩
      · have F : Hid (cmpL xs ys = 0) := by
          show _ = _
          have h := Heq.out
          rw [List.take_of_length_le (by rw [LA.out]; omega), List.take_of_length_le (by rw [LB.out]; omega)] at h
          rw [h]
          exact cmpL_self _
        go_wp2
        go_ret
        exact ⟨ret_int F.out.symm, rfl⟩

theorem same_int (a b : Option Addr) (n m ca cb : Nat) (xs ys : List Int) (w : World) (ha : IsRow .i64 w a n ca xs) (hb : IsRow .i64 w b m cb ys) :
    Calls Try.prog 53 #[.slice a n ca, .slice b m cb, .func (.func 47) #[] #[]] w fun e w' => e = .returned (.bool (decide (xs = ys))) ∧ w' = w := by
  have HA : Hid (IsRow .i64 w a n ca xs) := ha
  have HB : Hid (IsRow .i64 w b m cb ys) := hb
  have HE : Hid ((cmpL xs ys == 0) = decide (xs = ys)) := by
    show _ = _
    rw [Bool.eq_iff_iff, beq_iff_eq, decide_eq_true_eq]
    exact ⟨cmpL_zero, fun h => by rw [h]; exact cmpL_self _⟩
  clear ha hb
  go_enter Try.func53, Try.ntmps53
  go_wp2_with fail
  refine (compare_int _ _ _ _ _ _ xs ys _ HA.out HB.out).mono ?_
  rintro e w' ⟨rfl, rfl⟩
  go_wp2
  go_ret
  exact ⟨ret_bool HE.out, rfl⟩

def CmpTo (p : Prop) (w : World) (e : Ending) (w' : World) : Prop := ∃ c : Int, e = .returned (.int .i64 c) ∧ (c = 0 ↔ p) ∧ w' = w
theorem ne_long {xs ys : List LV} {n m : Nat} (hx : xs.length = n) (hy : ys.length = m) (h : n ≠ m) : lplain xs ≠ lplain ys := fun e => h (by rw [← hx, ← hy, ← Oa.lplain_length xs, ← Oa.lplain_length ys, e])

set_option maxHeartbeats 800000 in
theorem compare_ls (a b : Option Addr) (n m ca cb : Nat) (xs ys : List LV) (w : World) (ha : IsLs w a n ca xs) (hb : IsLs w b m cb ys) :
    Calls Try.prog 72 #[.slice a n ca, .slice b m cb, .func (.func 39) #[] #[]] w (CmpTo (lplain xs = lplain ys) w) := by
  have hmaxn : n ≤ 9223372036854775807 := by have := ha.fits; have := ha.max; unfold maxLen at *; omega
  have hmaxm : m ≤ 9223372036854775807 := by have := hb.fits; have := hb.max; unfold maxLen at *; omega
  have HA : Hid (IsLs w a n ca xs) := ha
  have HB : Hid (IsLs w b m cb ys) := hb
  have LA : Hid (xs.length = n) := ha.len
  have LB : Hid (ys.length = m) := hb.len
  clear ha hb
  go_enter Try.func72, Try.ntmps72
  go_wp2
  go_loop [13] (fun i => ∃ k : Nat, k ≤ n ∧ k ≤ m ∧ i = .int .i64 k ∧ lplain (xs.take k) = lplain (ys.take k)) (fun i => n - (intOf i).toNat)
  case atStart => exact ⟨0, Nat.zero_le _, Nat.zero_le _, rfl, rfl⟩
  case round =>
    obtain ⟨k, hk, hkm, rfl, heq⟩ := hrel
    have Heq : Hid (lplain (xs.take k) = lplain (ys.take k)) := heq
    clear heq
    by_cases hlt : k < n
    · obtain ⟨b1, o1, rfl, hb1, hc1⟩ := HA.out.cells (by omega)
      have h1 := hc1 k hlt
      by_cases hltm : k < m
      · obtain ⟨b2, o2, rfl, hb2, hc2⟩ := HB.out.cells (by omega)
        have h2 := hc2 k hltm
        have kx : k < xs.length := by rw [LA.out]; exact hlt
        have ky : k < ys.length := by rw [LB.out]; exact hltm
        have r1 := HA.out.rows _ (getD_mem_ld kx)
        have r2 := HB.out.rows _ (getD_mem_ld ky)
        have HXY : Hid (((xs.getD k ld).zs = (ys.getD k ld).zs → lplain (xs.take (k + 1)) = lplain (ys.take (k + 1))) ∧ ((xs.getD k ld).zs ≠ (ys.getD k ld).zs → lplain xs ≠ lplain ys)) :=
          ⟨fun e => eq_take_ld xs ys k kx ky Heq.out e, fun e h => e (by rw [← lplain_get xs k kx, ← lplain_get ys k ky, h])⟩
        generalize xs.getD k ld = x at h1 r1 HXY
        generalize ys.getD k ld = y at h2 r2 HXY
        obtain ⟨xa, xn, xc, xv⟩ := x
        obtain ⟨ya, yn, yc, yv⟩ := y
        simp only at h1 h2 r1 r2
        have R1 : Hid (IsRow .i64 w xa xn xc xv) := r1
        have R2 : Hid (IsRow .i64 w ya yn yc yv) := r2
        have HF : Hid ((xv = yv → lplain (xs.take (k + 1)) = lplain (ys.take (k + 1))) ∧ (xv ≠ yv → lplain xs ≠ lplain ys)) := HXY.out
        clear hc1 hc2 r1 r2 HXY kx ky
        go_wp2_with fail
        refine (byNumbers _ _ _ _ _ _ xv yv _ R1.out R2.out).mono ?_
        rintro e w' ⟨rfl, rfl⟩
        by_cases hv : xv = yv
        · have F : Hid (lplain (xs.take (k + 1)) = lplain (ys.take (k + 1))) := HF.out.1 hv
          have e0 : cmpL xv yv = 0 := by rw [hv]; exact cmpL_self _
          rw [e0]
          clear HF e0 hv
          go_wp2
          go_round
          case rel => exact ⟨k + 1, by omega, by omega, by go_num, F.out⟩
          case measure => simp [intOf]; omega
        · have F : Hid (lplain xs ≠ lplain ys) := HF.out.2 hv
          have hne : ¬ cmpL xv yv = 0 := fun h => hv (cmpL_zero h)
          clear HF hv
          generalize cmpL xv yv = c at hne ⊢
          have HC : Hid (¬ c = 0) := hne
          have hnb : (c != 0) = true := by rw [bne_iff_ne]; exact hne
          clear hne
          go_wp2
          go_ret
          exact ⟨_, rfl, ⟨fun h => absurd h HC.out, fun h => absurd h F.out⟩, rfl⟩
      · have F : Hid (lplain xs ≠ lplain ys) := ne_long LA.out LB.out (by omega)
        clear hc1
        go_wp2
        go_ret
        exact ⟨1, rfl, ⟨fun h => absurd h (by decide), fun h => absurd h F.out⟩, rfl⟩
    · obtain rfl : k = n := by omega
      by_cases hlm : k < m
      · have F : Hid (lplain xs ≠ lplain ys) := ne_long LA.out LB.out (by omega)
        go_wp2
        go_ret
        exact ⟨-1, rfl, ⟨fun h => absurd h (by decide), fun h => absurd h F.out⟩, rfl⟩
      · have F : Hid (lplain xs = lplain ys) := by
          have h := Heq.out
          rwa [List.take_of_length_le (by rw [LA.out]; omega), List.take_of_length_le (by rw [LB.out]; omega)] at h
        go_wp2
        go_ret
        exact ⟨0, rfl, ⟨fun _ => F.out, fun _ => rfl⟩, rfl⟩

theorem same_ls (a b : Option Addr) (n m ca cb : Nat) (xs ys : List LV) (w : World) (ha : IsLs w a n ca xs) (hb : IsLs w b m cb ys) :
    Calls Try.prog 54 #[.slice a n ca, .slice b m cb, .func (.func 39) #[] #[]] w fun e w' => e = .returned (.bool (decide (lplain xs = lplain ys))) ∧ w' = w := by
  have HA : Hid (IsLs w a n ca xs) := ha
  have HB : Hid (IsLs w b m cb ys) := hb
  clear ha hb
  go_enter Try.func54, Try.ntmps54
  go_wp2_with fail
  refine (compare_ls _ _ _ _ _ _ xs ys _ HA.out HB.out).mono ?_
  rintro e w' ⟨c, rfl, hc, rfl⟩
  have HE : Hid ((c == 0) = decide (lplain xs = lplain ys)) := by
    show _ = _
    rw [Bool.eq_iff_iff, beq_iff_eq, decide_eq_true_eq]
    exact hc
  clear hc
  go_wp2
  go_ret
  exact ⟨ret_bool HE.out, rfl⟩

/-- Two relations in boxes: what is read of them later. -/
theorem start_two {w w1 : World} {ua ta va sa : Option Addr} {un uc tn tc vn vc sn sc : Nat} (hb : Below ((w.alloc (.cells #[.slice ua un uc, .slice ta tn tc] 27)).alloc (.cells #[.slice va vn vc, .slice sa sn sc] 27)).heap.size ((w.alloc (.cells #[.slice ua un uc, .slice ta tn tc] 27)).alloc (.cells #[.slice va vn vc, .slice sa sn sc] 27)) w1) :
    (w1.cell? ⟨w.heap.size, 0, none⟩ = some (.slice ua un uc) ∧ w1.cell? ⟨w.heap.size, 1, none⟩ = some (.slice ta tn tc) ∧ w1.cell? ⟨w.heap.size + 1, 0, none⟩ = some (.slice va vn vc) ∧ w1.cell? ⟨w.heap.size + 1, 1, none⟩ = some (.slice sa sn sc)) ∧ Below w.heap.size w w1 := by
  have hs2 : ((w.alloc (.cells #[.slice ua un uc, .slice ta tn tc] 27)).alloc (.cells #[.slice va vn vc, .slice sa sn sc] 27)).heap.size = w.heap.size + 2 := by simp
  have B2 : Below w.heap.size w ((w.alloc (.cells #[.slice ua un uc, .slice ta tn tc] 27)).alloc (.cells #[.slice va vn vc, .slice sa sn sc] 27)) := ((Below.refl _ _).alloc (Nat.le_refl _) _).alloc (by simp) _
  have bc := Frame.bcell hb
  rw [hs2] at bc
  refine ⟨⟨?_, ?_, ?_, ?_⟩, Frame.next B2 hb B2.size⟩
  · rw [bc.1 _ _ (by omega)]; go_simp
  · rw [bc.1 _ _ (by omega)]; go_simp
  · rw [bc.1 _ _ (by omega)]; go_simp
  · rw [bc.1 _ _ (by omega)]; go_simp
theorem two_kept {w w1 w2 : World} {x0 x1 y0 y1 : Value} (h : w1.cell? ⟨w.heap.size, 0, none⟩ = some x0 ∧ w1.cell? ⟨w.heap.size, 1, none⟩ = some x1 ∧ w1.cell? ⟨w.heap.size + 1, 0, none⟩ = some y0 ∧ w1.cell? ⟨w.heap.size + 1, 1, none⟩ = some y1) (hb : Below w1.heap.size w1 w2) : w2.cell? ⟨w.heap.size, 0, none⟩ = some x0 ∧ w2.cell? ⟨w.heap.size, 1, none⟩ = some x1 ∧ w2.cell? ⟨w.heap.size + 1, 0, none⟩ = some y0 ∧ w2.cell? ⟨w.heap.size + 1, 1, none⟩ = some y1 :=
  ⟨Frame.held_cell hb h.1, Frame.held_cell hb h.2.1, Frame.held_cell hb h.2.2.1, Frame.held_cell hb h.2.2.2⟩

set_option maxRecDepth 4000 in
set_option maxHeartbeats 1600000 in
theorem impl_haveSameNames (u t v s : Value) (a b : Rl) (w : World) (h1 : QIs w u t a) (h2 : QIs w v s b) : Calls Try.prog 26 #[.agg #[u, t], .agg #[v, s]] w fun e w' => e = .returned (.bool (twoB a b)) ∧ Below w.heap.size w w' := by
  have H1 : Hid (QIs w u t a) := h1
  have H2 : Hid (QIs w v s b) := h2
  obtain ⟨⟨ua, un, uc, rfl, hu, hun⟩, ta, tn, tc, rs, rfl, ht, hrs, htt⟩ := h1
  obtain ⟨⟨va, vn, vc, rfl, hv, hvn⟩, sa, sn, sc, qs, rfl, hs, hqs, hss⟩ := h2
  have HU : Hid (IsRow .i64 w ua un uc a.1) := hu
  have HV : Hid (IsRow .i64 w va vn vc b.1) := hv
  have B2 : Hid (Below w.heap.size w ((w.alloc (.cells #[.slice ua un uc, .slice ta tn tc] 27)).alloc (.cells #[.slice va vn vc, .slice sa sn sc] 27))) := ((Below.refl _ _).alloc (Nat.le_refl _) _).alloc (by simp) _
  clear hu ht hrs htt hv hs hqs hss
  cases hg : goodR a.1 a.2
  · have HG : Hid (goodR a.1 a.2 = false) := hg
    have F : Hid (twoB a b = false) := by show _ = _; unfold twoB; rw [hg]; rfl
    clear hg
    go_enter Try.func26, Try.ntmps26
    go_wp2_with fail
    refine (impl_GoodRelation _ _ a _ (qIs_below H1.out B2.out)).mono ?_
    rintro e w1 ⟨rfl, hb1⟩
    rw [HG.out]
    have B1 : Hid (Below w.heap.size w w1) := (start_two hb1).2
    clear hb1
    go_wp2
    go_ret
    exact ⟨ret_bool F.out.symm, B1.out⟩
  · have HG : Hid (goodR a.1 a.2 = true) := hg
    cases hk : goodR b.1 b.2
    · have HK : Hid (goodR b.1 b.2 = false) := hk
      have F : Hid (twoB a b = false) := by show _ = _; unfold twoB; rw [hk]; simp
      clear hg hk
      go_enter Try.func26, Try.ntmps26
      go_wp2_with fail
      refine (impl_GoodRelation _ _ a _ (qIs_below H1.out B2.out)).mono ?_
      rintro e w1 ⟨rfl, hb1⟩
      rw [HG.out]
      obtain ⟨⟨d0, d1, d2, d3⟩, b1⟩ := start_two hb1
      have B1 : Hid (Below w.heap.size w w1) := b1
      clear hb1 b1
      go_wp2_with fail
      refine (impl_GoodRelation _ _ b _ (qIs_below H2.out B1.out)).mono ?_
      rintro e w3 ⟨rfl, hb3⟩
      rw [HK.out]
      have B3 : Hid (Below w.heap.size w w3) := Frame.next B1.out hb3 B1.out.size
      clear hb3 d0 d1 d2 d3
      go_wp2
      go_ret
      exact ⟨ret_bool F.out.symm, B3.out⟩
    · have HK : Hid (goodR b.1 b.2 = true) := hk
      have F : Hid (twoB a b = decide (a.1 = b.1)) := by show _ = _; unfold twoB; rw [hg, hk]; rfl
      clear hg hk
      go_enter Try.func26, Try.ntmps26
      go_wp2_with fail
      refine (impl_GoodRelation _ _ a _ (qIs_below H1.out B2.out)).mono ?_
      rintro e w1 ⟨rfl, hb1⟩
      rw [HG.out]
      obtain ⟨⟨d0, d1, d2, d3⟩, b1⟩ := start_two hb1
      have C1 : Hid (w1.cell? ⟨w.heap.size, 0, none⟩ = some (.slice ua un uc) ∧ w1.cell? ⟨w.heap.size, 1, none⟩ = some (.slice ta tn tc) ∧ w1.cell? ⟨w.heap.size + 1, 0, none⟩ = some (.slice va vn vc) ∧ w1.cell? ⟨w.heap.size + 1, 1, none⟩ = some (.slice sa sn sc)) := ⟨d0, d1, d2, d3⟩
      have B1 : Hid (Below w.heap.size w w1) := b1
      clear hb1 b1
      go_wp2_with fail
      refine (impl_GoodRelation _ _ b _ (qIs_below H2.out B1.out)).mono ?_
      rintro e w3 ⟨rfl, hb3⟩
      rw [HK.out]
      have B3 : Hid (Below w.heap.size w w3) := Frame.next B1.out hb3 B1.out.size
      clear d0 d1 d2 d3
      obtain ⟨d0, d1, d2, d3⟩ := two_kept C1.out hb3
      clear hb3
      go_wp2_with fail
      refine (same_int _ _ _ _ _ _ a.1 b.1 _ (IsRow.below HU.out B3.out) (IsRow.below HV.out B3.out)).mono ?_
      rintro e w' ⟨rfl, rfl⟩
      go_wp2
      go_ret
      exact ⟨ret_bool F.out.symm, B3.out⟩

set_option maxRecDepth 4000 in
set_option maxHeartbeats 1600000 in
theorem impl_SameTuples (u t v s : Value) (a b : Rl) (w : World) (h1 : QIs w u t a) (h2 : QIs w v s b) : Calls Try.prog 19 #[.agg #[u, t], .agg #[v, s]] w fun e w' => e = .returned (.tuple #[.bool (sameV a b), .bool (joinB a b)]) ∧ Below w.heap.size w w' := by
  have H1 : Hid (QIs w u t a) := h1
  have H2 : Hid (QIs w v s b) := h2
  obtain ⟨⟨ua, un, uc, rfl, hu, hun⟩, ta, tn, tc, rs, rfl, ht, hrs, htt⟩ := h1
  obtain ⟨⟨va, vn, vc, rfl, hv, hvn⟩, sa, sn, sc, qs, rfl, hs, hqs, hss⟩ := h2
  have HU : Hid (IsRow .i64 w ua un uc a.1) := hu
  have HV : Hid (IsRow .i64 w va vn vc b.1) := hv
  have HT : Hid (IsLs w ta tn tc rs) := ht
  have HS : Hid (IsLs w sa sn sc qs) := hs
  have HRS : Hid (lplain rs = a.2) := hrs
  have HQS : Hid (lplain qs = b.2) := hqs
  have B2 : Hid (Below w.heap.size w ((w.alloc (.cells #[.slice ua un uc, .slice ta tn tc] 27)).alloc (.cells #[.slice va vn vc, .slice sa sn sc] 27))) := ((Below.refl _ _).alloc (Nat.le_refl _) _).alloc (by simp) _
  clear hu ht hrs htt hv hs hqs hss
  cases hg : goodR a.1 a.2
  · have HG : Hid (goodR a.1 a.2 = false) := hg
    have F : Hid (sameV a b = false ∧ joinB a b = false) := by show _ ∧ _; unfold sameV joinB; rw [hg]; exact ⟨rfl, rfl⟩
    clear hg
    go_enter Try.func19, Try.ntmps19
    go_wp2_with fail
    refine (impl_GoodRelation _ _ a _ (qIs_below H1.out B2.out)).mono ?_
    rintro e w1 ⟨rfl, hb1⟩
    rw [HG.out]
    have B1 : Hid (Below w.heap.size w w1) := (start_two hb1).2
    clear hb1
    go_wp2
    go_ret2
    rw [F.out.1, F.out.2]
    exact ⟨rfl, B1.out⟩
  · have HG : Hid (goodR a.1 a.2 = true) := hg
    cases hk : goodR b.1 b.2
    · have HK : Hid (goodR b.1 b.2 = false) := hk
      have F : Hid (sameV a b = false ∧ joinB a b = false) := by show _ ∧ _; unfold sameV joinB; rw [hg, hk]; exact ⟨rfl, rfl⟩
      clear hg hk
      go_enter Try.func19, Try.ntmps19
      go_wp2_with fail
      refine (impl_GoodRelation _ _ a _ (qIs_below H1.out B2.out)).mono ?_
      rintro e w1 ⟨rfl, hb1⟩
      rw [HG.out]
      obtain ⟨⟨d0, d1, d2, d3⟩, b1⟩ := start_two hb1
      have B1 : Hid (Below w.heap.size w w1) := b1
      clear hb1 b1
      go_wp2_with fail
      refine (impl_GoodRelation _ _ b _ (qIs_below H2.out B1.out)).mono ?_
      rintro e w3 ⟨rfl, hb3⟩
      rw [HK.out]
      have B3 : Hid (Below w.heap.size w w3) := Frame.next B1.out hb3 B1.out.size
      clear hb3 d0 d1 d2 d3
      go_wp2
      go_ret2
      rw [F.out.1, F.out.2]
      exact ⟨rfl, B3.out⟩
    · have HK : Hid (goodR b.1 b.2 = true) := hk
      have F : Hid (sameV a b = (decide (a.1 = b.1) && decide (a.2 = b.2)) ∧ joinB a b = true) := by show _ ∧ _; unfold sameV joinB; rw [hg, hk]; exact ⟨rfl, rfl⟩
      clear hg hk
      cases hd : decide (a.1 = b.1)
      all_goals
        have HD : Hid (decide (a.1 = b.1) = _) := hd
        clear hd
        go_enter Try.func19, Try.ntmps19
        go_wp2_with fail
        refine (impl_GoodRelation _ _ a _ (qIs_below H1.out B2.out)).mono ?_
        rintro e w1 ⟨rfl, hb1⟩
        rw [HG.out]
        obtain ⟨⟨d0, d1, d2, d3⟩, b1⟩ := start_two hb1
        have C1 : Hid (w1.cell? ⟨w.heap.size, 0, none⟩ = some (.slice ua un uc) ∧ w1.cell? ⟨w.heap.size, 1, none⟩ = some (.slice ta tn tc) ∧ w1.cell? ⟨w.heap.size + 1, 0, none⟩ = some (.slice va vn vc) ∧ w1.cell? ⟨w.heap.size + 1, 1, none⟩ = some (.slice sa sn sc)) := ⟨d0, d1, d2, d3⟩
        have B1 : Hid (Below w.heap.size w w1) := b1
        clear hb1 b1
        go_wp2_with fail
        refine (impl_GoodRelation _ _ b _ (qIs_below H2.out B1.out)).mono ?_
        rintro e w3 ⟨rfl, hb3⟩
        rw [HK.out]
        have B3 : Hid (Below w.heap.size w w3) := Frame.next B1.out hb3 B1.out.size
        clear d0 d1 d2 d3
        obtain ⟨d0, d1, d2, d3⟩ := two_kept C1.out hb3
        clear hb3
        go_wp2_with fail
        refine (same_int _ _ _ _ _ _ a.1 b.1 _ (IsRow.below HU.out B3.out) (IsRow.below HV.out B3.out)).mono ?_
        rintro e w' ⟨rfl, rfl⟩
        rw [HD.out]
      · go_wp2
        go_ret2
        rw [F.out.1, F.out.2, HD.out]
        exact ⟨rfl, B3.out⟩
      · have FD : Hid (decide (lplain rs = lplain qs) = decide (a.2 = b.2)) := by show _ = _; rw [HRS.out, HQS.out]
        go_wp2_with fail
        refine (same_ls _ _ _ _ _ _ rs qs _ (HT.out.below B3.out) (HS.out.below B3.out)).mono ?_
        rintro e w' ⟨rfl, rfl⟩
        rw [FD.out]
        go_wp2
        go_ret2
        rw [F.out.1, F.out.2, HD.out, Bool.true_and]
        exact ⟨rfl, B3.out⟩


end Go.Proofs.Yteihhpjneeaiaab.Oh
