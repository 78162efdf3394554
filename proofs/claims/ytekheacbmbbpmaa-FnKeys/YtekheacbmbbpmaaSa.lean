/-
  Contracts of the model's small functions on names and tuples.
-/
import Derived.Test.YtekheacbmbbpmaaKrl
import Derived.Test.YtekheacbmbbpmaaLst
import Derived.Test.YtekheacbmbbpmaaApp
namespace Go.Proofs.Ytekheacbmbbpmaa.Sa
open Go.RowKit
open Go.Proofs.Ytekheacbmbbpmaa.Frame Go.Proofs.Ytekheacbmbbpmaa.Mem Go.Proofs.Ytekheacbmbbpmaa.Ints Go.Proofs.Ytekheacbmbbpmaa.Kep Go.Proofs.Ytekheacbmbbpmaa.Lls Go.Proofs.Ytekheacbmbbpmaa.Rpu Go.Proofs.Ytekheacbmbbpmaa.Krl Go.Proofs.Ytekheacbmbbpmaa.Rel

set_option maxHeartbeats 400000 in
theorem spec_l3At (a : Option Addr) (n ca : Nat) (zs : List Int) (x : Int) (w : World) (ha : IsRow .i64 w a n ca zs) :
    Calls Try.prog 66 #[.slice a n ca, .int .i64 x] w fun e w' => e = .returned (.int .i64 (Lib.idxOf zs x)) ∧ w' = w := by
  have hmaxn : n ≤ 9223372036854775807 := by have := ha.fits; have := ha.max; unfold maxLen at *; omega
  have HAs : Hid (0 < n → ∃ b off, a = some ⟨b, off, none⟩ ∧ b < w.heap.size ∧ ∀ i, i < n → w.cell? ⟨b, off + i, none⟩ = some (.int .i64 (zs.getD i 0))) := ha.cells
  have LA : Hid (zs.length = n) := ha.len
  clear ha
  go_enter Try.func66, Try.ntmps66
  go_wp2
  go_loop [9] (fun i => ∃ k : Nat, k ≤ n ∧ i = .int .i64 k ∧ ∀ j, j < k → zs.getD j 0 ≠ x) (fun i => n - (intOf i).toNat)
  case atStart => exact ⟨0, Nat.zero_le _, rfl, fun j hj => absurd hj (by omega)⟩
  case round =>
    obtain ⟨k, hk, rfl, hall⟩ := hrel
    have Hall : Hid (∀ j, j < k → zs.getD j 0 ≠ x) := hall
    clear hall
    by_cases hlt : k < n
    · obtain ⟨b, off, rfl, hbl, hc⟩ := HAs.out (by omega)
      have hck := hc k hlt
      have HX : Hid ((zs.getD k 0 = x → Lib.idxOf zs x = k) ∧ (zs.getD k 0 ≠ x → ∀ j, j < k + 1 → zs.getD j 0 ≠ x)) :=
        ⟨fun e => idx_is (by rw [LA.out]; exact hlt) e Hall.out, fun e j hj => by
          by_cases h : j = k
          · rw [h]; exact e
          · exact Hall.out j (by omega)⟩
      generalize zs.getD k 0 = y at hck HX
      clear hc
      by_cases hv : y = x
      · have F : Hid (Lib.idxOf zs x = k) := HX.out.1 hv
        have hb : (y == x) = true := by rw [beq_iff_eq]; exact hv
        clear HX hv
        go_wp2
        go_ret
        exact ⟨ret_int F.out.symm, rfl⟩
      · have F : Hid (∀ j, j < k + 1 → zs.getD j 0 ≠ x) := HX.out.2 hv
        have hb : (y == x) = false := by rw [beq_eq_false_iff_ne]; exact hv
        clear HX hv
        go_wp2
        go_round
        case rel => exact ⟨k + 1, by omega, by go_num, F.out⟩
        case measure => simp [intOf]; omega
    · have F : Hid (Lib.idxOf zs x = -1) := by
        have := Lib.idxOf_miss zs n x (fun j hj => Hall.out j (by omega))
        rwa [List.take_of_length_le (by rw [LA.out]; omega)] at this
      go_wp2
      go_ret
      exact ⟨ret_int F.out.symm, rfl⟩

theorem lessL_prefix : ∀ (k : Nat) (xs ys : List Int), k ≤ xs.length → k ≤ ys.length → xs.take k = ys.take k → lessL xs ys = lessL (xs.drop k) (ys.drop k)
  | 0, _, _, _, _, _ => rfl
  | k + 1, [], _, h, _, _ => absurd h (by simp)
  | k + 1, _ :: _, [], _, h, _ => absurd h (by simp)
  | k + 1, x :: xs, y :: ys, h1, h2, h => by
    simp only [List.take_succ_cons, List.cons.injEq] at h
    rw [lessL_cons, if_pos h.1, lessL_prefix k xs ys (by simpa using h1) (by simpa using h2) h.2]
    rfl
theorem drop_getD {zs : List Int} {k : Nat} (h : k < zs.length) : zs.drop k = zs.getD k 0 :: zs.drop (k + 1) := by
  rw [List.drop_eq_getElem_cons h]
  simp [List.getD, h]
theorem lessL_diff {xs ys : List Int} {k : Nat} (h : xs.take k = ys.take k) (hx : k < xs.length) (hy : k < ys.length) (hn : xs.getD k 0 ≠ ys.getD k 0) : lessL xs ys = decide (xs.getD k 0 < ys.getD k 0) := by
  rw [lessL_prefix k xs ys (by omega) (by omega) h, drop_getD hx, drop_getD hy, lessL_cons, if_neg hn]

set_option maxHeartbeats 400000 in
theorem spec_l3Less (a b : Option Addr) (n m ca cb : Nat) (xs ys : List Int) (w : World) (ha : IsRow .i64 w a n ca xs) (hb : IsRow .i64 w b m cb ys) (hnm : n = m) :
    Calls Try.prog 65 #[.slice a n ca, .slice b m cb] w fun e w' => e = .returned (.bool (lessL xs ys)) ∧ Below w.heap.size w w' := by
  subst hnm
  have hmaxn : n ≤ 9223372036854775807 := by have := ha.fits; have := ha.max; unfold maxLen at *; omega
  have HAs : Hid (0 < n → ∃ b off, a = some ⟨b, off, none⟩ ∧ b < w.heap.size ∧ ∀ i, i < n → w.cell? ⟨b, off + i, none⟩ = some (.int .i64 (xs.getD i 0))) := ha.cells
  have HBs : Hid (0 < n → ∃ c off, b = some ⟨c, off, none⟩ ∧ c < w.heap.size ∧ ∀ i, i < n → w.cell? ⟨c, off + i, none⟩ = some (.int .i64 (ys.getD i 0))) := hb.cells
  have LA : Hid (xs.length = n) := ha.len
  have LB : Hid (ys.length = n) := hb.len
  clear ha hb
  go_enter Try.func65, Try.ntmps65
  go_wp2
  go_loopw [8] (fun i wr => ∃ k : Nat, k ≤ n ∧ i = .int .i64 k ∧ xs.take k = ys.take k ∧ Below w.heap.size w wr) (fun i _ => n - (intOf i).toNat)
  case atStart => exact ⟨0, Nat.zero_le _, rfl, rfl, Below.refl _ _⟩
  case round =>
    obtain ⟨k, hk, rfl, heq, hnx⟩ := hrel
    have Heq : Hid (xs.take k = ys.take k) := heq
    have Hn : Hid (Below w.heap.size w wr) := hnx
    by_cases hlt : k < n
    · obtain ⟨b1, o1, rfl, hb1, hc1⟩ := HAs.out (by omega)
      obtain ⟨b2, o2, rfl, hb2, hc2⟩ := HBs.out (by omega)
      have h1 : wr.cell? ⟨b1, o1 + k, none⟩ = some (.int .i64 (xs.getD k 0)) := by rw [hnx.cell (p := ⟨b1, o1 + k, none⟩) hb1]; exact hc1 k hlt
      have h2 : wr.cell? ⟨b2, o2 + k, none⟩ = some (.int .i64 (ys.getD k 0)) := by rw [hnx.cell (p := ⟨b2, o2 + k, none⟩) hb2]; exact hc2 k hlt
      have hkI : (k : Int) < (n : Int) := by omega
      have HXY : Hid ((xs.getD k 0 = ys.getD k 0 → xs.take (k + 1) = ys.take (k + 1)) ∧ (xs.getD k 0 ≠ ys.getD k 0 → lessL xs ys = decide (xs.getD k 0 < ys.getD k 0))) :=
        ⟨fun e => eq_take_succ xs ys k (by rw [LA.out]; exact hlt) (by rw [LB.out]; exact hlt) Heq.out e, fun e => lessL_diff Heq.out (by rw [LA.out]; exact hlt) (by rw [LB.out]; exact hlt) e⟩
      generalize xs.getD k 0 = x at h1 HXY
      generalize ys.getD k 0 = y at h2 HXY
      clear heq hnx hc1 hc2
      by_cases hv : x = y
      · have F : Hid (xs.take (k + 1) = ys.take (k + 1)) := HXY.out.1 hv
        subst hv
        clear HXY
        go_wp2_with fail
        go_quiet (fail)
        go_wp2
        go_roundw
        case rel => exact ⟨k + 1, by omega, by go_num, F.out, below_drewN Hn.out _⟩
        case measure => simp [intOf]; omega
      · have hvb : (x != y) = true := by rw [bne_iff_ne]; exact hv
        have F : Hid (lessL xs ys = decide (x < y)) := HXY.out.2 hv
        clear hv HXY
        go_wp2_with fail
        go_quiet (fail)
        go_wp2_with fail
        go_quiet (fail)
        go_wp2
        go_ret
        exact ⟨ret_bool F.out.symm, below_drewN (below_drewN Hn.out _) _⟩
    · have F : Hid (lessL xs ys = false) := by
        show _ = _
        have h := Heq.out
        rw [List.take_of_length_le (by rw [LA.out]; omega), List.take_of_length_le (by rw [LB.out]; omega)] at h
        rw [h]
        exact lessL_irrefl _
      clear heq hnx
      go_wp2
      go_ret
      exact ⟨ret_bool F.out.symm, Hn.out⟩

set_option maxHeartbeats 400000 in
theorem spec_l1Same (a b : Option Addr) (n m ca cb : Nat) (xs ys : List Int) (w : World) (ha : IsRow .i64 w a n ca xs) (hb : IsRow .i64 w b m cb ys) :
    Calls Try.prog 67 #[.slice a n ca, .slice b m cb] w fun e w' => e = .returned (.bool (decide (xs = ys))) ∧ Below w.heap.size w w' := by
  have la := ha.len
  have lb := hb.len
  have hmaxn : n ≤ 9223372036854775807 := by have := ha.fits; have := ha.max; unfold maxLen at *; omega
  have hmaxm : m ≤ 9223372036854775807 := by have := hb.fits; have := hb.max; unfold maxLen at *; omega
  by_cases hl : n = m
  · subst hl
    have HAs : Hid (0 < n → ∃ b off, a = some ⟨b, off, none⟩ ∧ b < w.heap.size ∧ ∀ i, i < n → w.cell? ⟨b, off + i, none⟩ = some (.int .i64 (xs.getD i 0))) := ha.cells
    have HBs : Hid (0 < n → ∃ c off, b = some ⟨c, off, none⟩ ∧ c < w.heap.size ∧ ∀ i, i < n → w.cell? ⟨c, off + i, none⟩ = some (.int .i64 (ys.getD i 0))) := hb.cells
    have LA : Hid (xs.length = n) := la
    have LB : Hid (ys.length = n) := lb
    clear la lb ha hb
    go_enter Try.func67, Try.ntmps67
    go_wp2
    go_loopw [13] (fun i wr => ∃ k : Nat, k ≤ n ∧ i = .int .i64 k ∧ xs.take k = ys.take k ∧ Below w.heap.size w wr) (fun i _ => n - (intOf i).toNat)
    case atStart => exact ⟨0, Nat.zero_le _, rfl, rfl, Below.refl _ _⟩
    case round =>
      obtain ⟨k, hk, rfl, heq, hnx⟩ := hrel
      have Heq : Hid (xs.take k = ys.take k) := heq
      have Hn : Hid (Below w.heap.size w wr) := hnx
      by_cases hlt : k < n
      · obtain ⟨b1, o1, rfl, hb1, hc1⟩ := HAs.out (by omega)
        obtain ⟨b2, o2, rfl, hb2, hc2⟩ := HBs.out (by omega)
        have h1 : wr.cell? ⟨b1, o1 + k, none⟩ = some (.int .i64 (xs.getD k 0)) := by rw [hnx.cell (p := ⟨b1, o1 + k, none⟩) hb1]; exact hc1 k hlt
        have h2 : wr.cell? ⟨b2, o2 + k, none⟩ = some (.int .i64 (ys.getD k 0)) := by rw [hnx.cell (p := ⟨b2, o2 + k, none⟩) hb2]; exact hc2 k hlt
        have hkI : (k : Int) < (n : Int) := by omega
        have HXY : Hid ((xs.getD k 0 = ys.getD k 0 → xs.take (k + 1) = ys.take (k + 1)) ∧ (xs.getD k 0 ≠ ys.getD k 0 → xs ≠ ys)) :=
          ⟨fun e => eq_take_succ xs ys k (by rw [LA.out]; exact hlt) (by rw [LB.out]; exact hlt) Heq.out e, fun e => ne_of_getD xs ys k e⟩
        generalize xs.getD k 0 = x at h1 HXY
        generalize ys.getD k 0 = y at h2 HXY
        clear heq hnx hc1 hc2
        by_cases hv : x = y
        · have F : Hid (xs.take (k + 1) = ys.take (k + 1)) := HXY.out.1 hv
          subst hv
          clear HXY
          go_wp2_with fail
          go_quiet (fail)
          go_wp2
          go_roundw
          case rel => exact ⟨k + 1, by omega, by go_num, F.out, below_drewN Hn.out _⟩
          case measure => simp [intOf]; omega
        · have hvb : (x != y) = true := by rw [bne_iff_ne]; exact hv
          have F : Hid (decide (xs = ys) = false) := decide_eq_false (HXY.out.2 hv)
          clear hv HXY
          go_wp2_with fail
          go_quiet (fail)
          go_wp2
          go_ret
          exact ⟨ret_bool F.out.symm, below_drewN Hn.out _⟩
      · clear heq
        have F : Hid (decide (xs = ys) = true) := decide_eq_true (by
          have h := Heq.out
          rwa [List.take_of_length_le (by rw [LA.out]; omega), List.take_of_length_le (by rw [LB.out]; omega)] at h)
        clear hnx
        go_wp2
        go_ret
        exact ⟨ret_bool F.out.symm, Hn.out⟩
  · have e : decide (xs = ys) = false := decide_eq_false (fun h => hl (by rw [← la, ← lb, h]))
    rw [e]
    have hne : ((n : Int) != (m : Int)) = true := by rw [bne_iff_ne]; omega
    clear e ha hb la lb hl
    go_enter Try.func67, Try.ntmps67
    go_wp2
    go_ret
    exact ⟨rfl, Below.refl _ _⟩

theorem rise_no_in {lo hi : Int} {zs : List Int} {k : Nat} (h : k < zs.length) (e : Val.inB (zs.getD k 0) lo hi = false) : riseB lo hi zs = false := by
  unfold riseB
  have : allI lo hi zs = false := Lst.all_take_false _ zs k h e
  rw [this, Bool.false_and]
theorem rise_no_up {lo hi : Int} {zs : List Int} (h : ¬ UpN zs) : riseB lo hi zs = false := by
  unfold riseB
  rw [decide_eq_false h, Bool.and_false]

set_option maxHeartbeats 400000 in
theorem spec_l1Rising (a : Option Addr) (n ca : Nat) (zs : List Int) (lo hi : Int) (w : World) (ha : IsRow .i64 w a n ca zs) :
    Calls Try.prog 63 #[.slice a n ca, .int .i64 lo, .int .i64 hi] w fun e w' => e = .returned (.bool (riseB lo hi zs)) ∧ w' = w := by
  have hmaxn : n ≤ 9223372036854775807 := by have := ha.fits; have := ha.max; unfold maxLen at *; omega
  have HAs : Hid (0 < n → ∃ b off, a = some ⟨b, off, none⟩ ∧ b < w.heap.size ∧ ∀ i, i < n → w.cell? ⟨b, off + i, none⟩ = some (.int .i64 (zs.getD i 0))) := ha.cells
  have LA : Hid (zs.length = n) := ha.len
  clear ha
  go_enter Try.func63, Try.ntmps63
  go_wp2
  go_loop [11] (fun i => ∃ k : Nat, k ≤ n ∧ i = .int .i64 k ∧ allI lo hi (zs.take k) = true ∧ UpN (zs.take k)) (fun i => n - (intOf i).toNat)
  case atStart => exact ⟨0, Nat.zero_le _, rfl, rfl, by simp [UpN]⟩
  case round =>
    obtain ⟨k, hk, rfl, hall, hup⟩ := hrel
    have Hall : Hid (allI lo hi (zs.take k) = true) := hall
    have Hup : Hid (UpN (zs.take k)) := hup
    clear hall hup
    by_cases hlt : k < n
    · obtain ⟨b, off, rfl, hbl, hc⟩ := HAs.out (by omega)
      have hck := hc k hlt
      have hkl : k < zs.length := by rw [LA.out]; exact hlt
      have hprev : 0 < k → w.cell? ⟨b, off + (k - 1), none⟩ = some (.int .i64 (zs.getD (k - 1) 0)) := fun h => hc (k - 1) (by omega)
      have HIN : Hid ((Val.inB (zs.getD k 0) lo hi = false → riseB lo hi zs = false) ∧ (Val.inB (zs.getD k 0) lo hi = true → allI lo hi (zs.take (k + 1)) = true)) :=
        ⟨fun e => rise_no_in hkl e, fun e => Lst.all_take_succ _ zs k hkl e Hall.out⟩
      have HUP : Hid ((k = 0 ∨ zs.getD (k - 1) 0 < zs.getD k 0 → UpN (zs.take (k + 1))) ∧ (0 < k → ¬ zs.getD (k - 1) 0 < zs.getD k 0 → riseB lo hi zs = false)) :=
        ⟨fun h => upN_step hkl Hup.out (fun h0 => by rcases h with h | h; omega; exact h), fun h0 h => rise_no_up (upN_not h0 hkl (by omega))⟩
      generalize zs.getD k 0 = x at hck HIN HUP
      generalize zs.getD (k - 1) 0 = y at hprev HUP
      clear hc hkl
      cases hin : Val.inB x lo hi
      · have Hin : Hid (Val.inB x lo hi = false) := hin
        have F : Hid (riseB lo hi zs = false) := HIN.out.1 hin
        clear hin HIN HUP hprev
        go_wp2_with fail
        refine (Val.spec_In _ _ _ _).mono ?_
        rintro e w' ⟨rfl, rfl⟩
        rw [Hin.out]
        go_wp2_with fail
        go_ret
        exact ⟨ret_bool F.out.symm, rfl⟩
      · have Hin : Hid (Val.inB x lo hi = true) := hin
        have FA : Hid (allI lo hi (zs.take (k + 1)) = true) := HIN.out.2 hin
        clear hin HIN
        by_cases h0 : k = 0
        · have FU : Hid (UpN (zs.take (k + 1))) := HUP.out.1 (Or.inl h0)
          have hk0 : ¬ (0 : Int) < (k : Int) := by omega
          clear HUP hprev h0
          go_wp2_with fail
          refine (Val.spec_In _ _ _ _).mono ?_
          rintro e w' ⟨rfl, rfl⟩
          rw [Hin.out]
          go_wp2_with fail
          go_round
          case rel => exact ⟨k + 1, by omega, by go_num, FA.out, FU.out⟩
          case measure => simp [intOf]; omega
        · obtain ⟨p, hp⟩ : ∃ p, p = k - 1 := ⟨_, rfl⟩
          rw [← hp] at hprev
          have hpc := hprev (by omega)
          have hwr : IntKind.i64.wrap ((k : Int) - 1) = (p : Int) := by simp [IntKind.wrap, IntKind.bits, IntKind.signed]; omega
          have hk0 : (0 : Int) < (k : Int) := by omega
          have hpn : (p : Int) < (n : Int) := by omega
          by_cases hv : y < x
          · have FU : Hid (UpN (zs.take (k + 1))) := HUP.out.1 (Or.inr hv)
            have hge : ¬ x ≤ y := by omega
            clear HUP hprev h0 hp hv
            go_wp2_with fail
            refine (Val.spec_In _ _ _ _).mono ?_
            rintro e w' ⟨rfl, rfl⟩
            rw [Hin.out]
            go_wp2_with fail
            go_round
            case rel => exact ⟨k + 1, by omega, by go_num, FA.out, FU.out⟩
            case measure => simp [intOf]; omega
          · have F : Hid (riseB lo hi zs = false) := HUP.out.2 (by omega) hv
            have hge : x ≤ y := by omega
            clear HUP hprev h0 hp hv
            go_wp2_with fail
            refine (Val.spec_In _ _ _ _).mono ?_
            rintro e w' ⟨rfl, rfl⟩
            rw [Hin.out]
            go_wp2_with fail
            go_ret
            exact ⟨ret_bool F.out.symm, rfl⟩
    · have F : Hid (riseB lo hi zs = true) := by
        have h := Hall.out
        have h' := Hup.out
        rw [List.take_of_length_le (by rw [LA.out]; omega)] at h h'
        show _ = _
        unfold riseB
        rw [h, decide_eq_true h']
        rfl
      go_wp2
      go_ret
      exact ⟨ret_bool F.out.symm, rfl⟩

theorem sub_no {ns some : List Int} {k : Nat} (h : k < some.length) (e : ¬ 0 ≤ Lib.idxOf ns (some.getD k 0)) : subB ns some = false := by
  unfold subB
  have : (some.all fun n => decide (0 ≤ Lib.idxOf ns n)) = false := Lst.all_take_false _ some k h (decide_eq_false e)
  rw [this, Bool.false_and]

set_option maxHeartbeats 400000 in
theorem spec_l3Sub (a b : Option Addr) (n m ca cb : Nat) (xs zs : List Int) (w : World) (ha : IsRow .i64 w a n ca xs) (hb : IsRow .i64 w b m cb zs) :
    Calls Try.prog 41 #[.slice a n ca, .slice b m cb] w fun e w' => e = .returned (.bool (subB xs zs)) ∧ w' = w := by
  have hmaxm : m ≤ 9223372036854775807 := by have := hb.fits; have := hb.max; unfold maxLen at *; omega
  have HA : Hid (IsRow .i64 w a n ca xs) := ha
  have HB : Hid (IsRow .i64 w b m cb zs) := hb
  have LB : Hid (zs.length = m) := hb.len
  clear ha hb
  go_enter Try.func41, Try.ntmps41
  go_wp2
  go_loop [9] (fun i => ∃ k : Nat, k ≤ m ∧ i = .int .i64 k ∧ ((zs.take k).all fun n => decide (0 ≤ Lib.idxOf xs n)) = true) (fun i => m - (intOf i).toNat)
  case atStart => exact ⟨0, Nat.zero_le _, rfl, rfl⟩
  case round =>
    obtain ⟨k, hk, rfl, hall⟩ := hrel
    have Hall : Hid (((zs.take k).all fun n => decide (0 ≤ Lib.idxOf xs n)) = true) := hall
    clear hall
    by_cases hlt : k < m
    · obtain ⟨c, off, rfl, hbl, hc⟩ := HB.out.cells (by omega)
      have hck := hc k hlt
      have hkl : k < zs.length := by rw [LB.out]; exact hlt
      have HX : Hid ((¬ 0 ≤ Lib.idxOf xs (zs.getD k 0) → subB xs zs = false) ∧ (0 ≤ Lib.idxOf xs (zs.getD k 0) → ((zs.take (k + 1)).all fun n => decide (0 ≤ Lib.idxOf xs n)) = true)) :=
        ⟨fun e => sub_no hkl e, fun e => Lst.all_take_succ _ zs k hkl (decide_eq_true e) Hall.out⟩
      generalize zs.getD k 0 = x at hck HX
      clear hc hkl
      go_wp2_with fail
      refine (spec_l3At _ _ _ xs x _ HA.out).mono ?_
      rintro e w' ⟨rfl, rfl⟩
      by_cases hv : 0 ≤ Lib.idxOf xs x
      · have F : Hid (((zs.take (k + 1)).all fun n => decide (0 ≤ Lib.idxOf xs n)) = true) := HX.out.2 hv
        have hv' : ¬ Lib.idxOf xs x < 0 := by omega
        clear HX hv
        go_wp2
        go_round
        case rel => exact ⟨k + 1, by omega, by go_num, F.out⟩
        case measure => simp [intOf]; omega
      · have F : Hid (subB xs zs = false) := HX.out.1 (by omega)
        have hv' : Lib.idxOf xs x < 0 := by omega
        clear HX hv
        go_wp2
        go_ret
        exact ⟨ret_bool F.out.symm, rfl⟩
    · have F : Hid (subB xs zs = riseB 0 20 zs) := by
        have h := Hall.out
        rw [List.take_of_length_le (by rw [LB.out]; omega)] at h
        show _ = _
        unfold subB
        rw [h, Bool.true_and]
      go_wp2_with fail
      refine (spec_l1Rising _ _ _ zs 0 20 _ HB.out).mono ?_
      rintro e w' ⟨rfl, rfl⟩
      go_wp2
      go_ret
      exact ⟨ret_bool F.out.symm, rfl⟩


end Go.Proofs.Ytekheacbmbbpmaa.Sa
