/-
  Contracts of small functions on lists of integers: l1Has, l1Same, slices.Index, slices.Contains.
-/
import Derived.Test.YteihgbiifcgipaaLst
import Derived.Test.YteihgbiifcgipaaMii
namespace Go.Proofs.Yteihgbiifcgipaa.Ihl
open Go.RowKit
open Go.Proofs.Yteihgbiifcgipaa.Frame Go.Proofs.Yteihgbiifcgipaa.Mem Go.Proofs.Yteihgbiifcgipaa.Ints Go.Proofs.Yteihgbiifcgipaa.Mii

set_option maxHeartbeats 400000 in
theorem l1Has (a : Option Addr) (n ca : Nat) (zs : List Int) (x : Int) (w : World) (ha : IsRow .i64 w a n ca zs) :
    Calls Try.prog 73 #[.slice a n ca, .int .i64 x] w fun e w' => e = .returned (.bool (decide (x ∈ zs))) ∧ w' = w := by
  have hmaxn : n ≤ 9223372036854775807 := by have := ha.fits; have := ha.max; unfold maxLen at *; omega
  have HAs : Hid (0 < n → ∃ b off, a = some ⟨b, off, none⟩ ∧ b < w.heap.size ∧ ∀ i, i < n → w.cell? ⟨b, off + i, none⟩ = some (.int .i64 (zs.getD i 0))) := ha.cells
  have LA : Hid (zs.length = n) := ha.len
  clear ha
  go_enter Try.func73, Try.ntmps73
  go_wp2
  go_loop [9] (fun i => ∃ k : Nat, k ≤ n ∧ i = .int .i64 k ∧ x ∉ zs.take k) (fun i => n - (intOf i).toNat)
  case atStart => exact ⟨0, Nat.zero_le _, rfl, by simp⟩
  case round =>
    obtain ⟨k, hk, rfl, hall⟩ := hrel
    have Hall : Hid (x ∉ zs.take k) := hall
    clear hall
    by_cases hlt : k < n
    · obtain ⟨b, off, rfl, hbl, hc⟩ := HAs.out (by omega)
      have hck := hc k hlt
      have hkl : k < zs.length := by rw [LA.out]; exact hlt
      have HX : Hid ((zs.getD k 0 = x → decide (x ∈ zs) = true) ∧ (zs.getD k 0 ≠ x → x ∉ zs.take (k + 1))) :=
        ⟨fun e => decide_eq_true (by rw [← e]; exact getD_mem hkl), fun e h => by
          rw [take_succ_getD hkl, List.mem_append, List.mem_singleton] at h
          rcases h with h | h
          · exact Hall.out h
          · exact e h.symm⟩
      generalize zs.getD k 0 = y at hck HX
      clear hc hkl
      by_cases hv : y = x
      · have F : Hid (decide (x ∈ zs) = true) := HX.out.1 hv
        have hb : (y == x) = true := by rw [beq_iff_eq]; exact hv
        clear HX hv
        go_wp2
        go_ret
        exact ⟨ret_bool F.out.symm, rfl⟩
      · have F : Hid (x ∉ zs.take (k + 1)) := HX.out.2 hv
        have hb : (y == x) = false := by rw [beq_eq_false_iff_ne]; exact hv
        clear HX hv
        go_wp2
        go_round
        case rel => exact ⟨k + 1, by omega, by go_num, F.out⟩
        case measure => simp [intOf]; omega
    · have F : Hid (decide (x ∈ zs) = false) := decide_eq_false (by
        have := Hall.out
        rwa [List.take_of_length_le (by rw [LA.out]; omega)] at this)
      go_wp2
      go_ret
      exact ⟨ret_bool F.out.symm, rfl⟩

set_option maxHeartbeats 400000 in
theorem spec_l1Same (a b : Option Addr) (n m ca cb : Nat) (xs ys : List Int) (w : World) (ha : IsRow .i64 w a n ca xs) (hb : IsRow .i64 w b m cb ys) :
    Calls Try.prog 66 #[.slice a n ca, .slice b m cb] w fun e w' => e = .returned (.bool (decide (xs = ys))) ∧ Below w.heap.size w w' := by
  have la := ha.len
  have lb := hb.len
  have hmaxn : n ≤ 9223372036854775807 := by have := ha.fits; have := ha.max; unfold maxLen at *; omega
  have hmaxm : m ≤ 9223372036854775807 := by have := hb.fits; have := hb.max; unfold maxLen at *; omega
  by_cases hl : n = m
  · subst hl
    have HAs : Hid (0 < n → ∃ b off, a = some ⟨b, off, none⟩ ∧ b < w.heap.size ∧ ∀ i, i < n → w.cell? ⟨b, off + i, none⟩ = some (.int .i64 (xs.getD i 0))) := ha.cells
    have HBs : Hid (0 < n → ∃ c off, b = some ⟨c, off, none⟩ ∧ c < w.heap.size ∧ ∀ i, i < n → w.cell? ⟨c, off + i, none⟩ = some (.int .i64 (ys.getD i 0))) := hb.cells
    have LA : Hid (xs.length = n) := la
    have LB : Hid (ys.length = n) := lb
    clear la lb ha hb
    go_enter Try.func66, Try.ntmps66
    go_wp2
    go_loopw [13] (fun i wr => ∃ k : Nat, k ≤ n ∧ i = .int .i64 k ∧ xs.take k = ys.take k ∧ Below w.heap.size w wr) (fun i _ => n - (intOf i).toNat)
    case atStart => exact ⟨0, Nat.zero_le _, rfl, rfl, Below.refl _ _⟩
    case round =>
      obtain ⟨k, hk, rfl, heq, hnx⟩ := hrel
      have Heq : Hid (xs.take k = ys.take k) := heq
      have Hn : Hid (Below w.heap.size w wr) := hnx
      by_cases hlt : k < n
      · obtain ⟨b1, o1, rfl, hb1, hc1⟩ := HAs.out (by omega)
        obtain ⟨b2, o2, rfl, hb2, hc2⟩ := HBs.out (by omega)
        have h1 : wr.cell? ⟨b1, o1 + k, none⟩ = some (.int .i64 (xs.getD k 0)) := by rw [hnx.cell (p := ⟨b1, o1 + k, none⟩) hb1]; exact hc1 k hlt
        have h2 : wr.cell? ⟨b2, o2 + k, none⟩ = some (.int .i64 (ys.getD k 0)) := by rw [hnx.cell (p := ⟨b2, o2 + k, none⟩) hb2]; exact hc2 k hlt
        have hkI : (k : Int) < (n : Int) := by omega
        have HXY : Hid ((xs.getD k 0 = ys.getD k 0 → xs.take (k + 1) = ys.take (k + 1)) ∧ (xs.getD k 0 ≠ ys.getD k 0 → xs ≠ ys)) :=
          ⟨fun e => eq_take_succ xs ys k (by rw [LA.out]; exact hlt) (by rw [LB.out]; exact hlt) Heq.out e, fun e => ne_of_getD xs ys k e⟩
        generalize xs.getD k 0 = x at h1 HXY
        generalize ys.getD k 0 = y at h2 HXY
        clear heq hnx hc1 hc2
        by_cases hv : x = y
        · have F : Hid (xs.take (k + 1) = ys.take (k + 1)) := HXY.out.1 hv
          subst hv
          clear HXY
          go_wp2_with fail
          go_quiet (fail)
          go_wp2
          go_roundw
          case rel => exact ⟨k + 1, by omega, by go_num, F.out, below_drewN Hn.out _⟩
          case measure => simp [intOf]; omega
        · have hvb : (x != y) = true := by rw [bne_iff_ne]; exact hv
          have F : Hid (decide (xs = ys) = false) := decide_eq_false (HXY.out.2 hv)
          clear hv HXY
          go_wp2_with fail
          go_quiet (fail)
          go_wp2
          go_ret
          exact ⟨ret_bool F.out.symm, below_drewN Hn.out _⟩
      · clear heq
        have F : Hid (decide (xs = ys) = true) := decide_eq_true (by
          have h := Heq.out
          rwa [List.take_of_length_le (by rw [LA.out]; omega), List.take_of_length_le (by rw [LB.out]; omega)] at h)
        clear hnx
        go_wp2
        go_ret
        exact ⟨ret_bool F.out.symm, Hn.out⟩
  · have e : decide (xs = ys) = false := decide_eq_false (fun h => hl (by rw [← la, ← lb, h]))
    rw [e]
    have hne : ((n : Int) != (m : Int)) = true := by rw [bne_iff_ne]; omega
    clear e ha hb la lb hl
    go_enter Try.func66, Try.ntmps66
    go_wp2
    go_ret
    exact ⟨rfl, Below.refl _ _⟩

def IdxB (i : Int) (b : Bool) : Prop := decide (0 ≤ i) = b

set_option maxHeartbeats 400000 in
theorem slices_Index (a : Option Addr) (n ca : Nat) (zs : List Int) (x : Int) (w : World) (ha : IsRow .i64 w a n ca zs) :
    Calls Try.prog 80 #[.slice a n ca, .int .i64 x] w fun e w' => ∃ i : Int, e = .returned (.int .i64 i) ∧ IdxB i (decide (x ∈ zs)) ∧ w' = w := by
  have hmaxn : n ≤ 9223372036854775807 := by have := ha.fits; have := ha.max; unfold maxLen at *; omega
  have HAs : Hid (0 < n → ∃ b off, a = some ⟨b, off, none⟩ ∧ b < w.heap.size ∧ ∀ i, i < n → w.cell? ⟨b, off + i, none⟩ = some (.int .i64 (zs.getD i 0))) := ha.cells
  have LA : Hid (zs.length = n) := ha.len
  clear ha
  go_enter Try.func80, Try.ntmps80
  go_wp2
  go_loop [8] (fun i => ∃ k : Nat, k ≤ n ∧ i = .int .i64 k ∧ x ∉ zs.take k) (fun i => n - (intOf i).toNat)
  case atStart => exact ⟨0, Nat.zero_le _, rfl, by simp⟩
  case round =>
    obtain ⟨k, hk, rfl, hall⟩ := hrel
    have Hall : Hid (x ∉ zs.take k) := hall
    clear hall
    by_cases hlt : k < n
    · obtain ⟨b, off, rfl, hbl, hc⟩ := HAs.out (by omega)
      have hck := hc k hlt
      have hkl : k < zs.length := by rw [LA.out]; exact hlt
      have HX : Hid ((zs.getD k 0 = x → decide (x ∈ zs) = true) ∧ (zs.getD k 0 ≠ x → x ∉ zs.take (k + 1))) :=
        ⟨fun e => decide_eq_true (by rw [← e]; exact getD_mem hkl), fun e h => by
          rw [take_succ_getD hkl, List.mem_append, List.mem_singleton] at h
          rcases h with h | h
          · exact Hall.out h
          · exact e h.symm⟩
      generalize zs.getD k 0 = y at hck HX
      clear hc hkl
      by_cases hv : y = x
      · have F : Hid (decide (x ∈ zs) = true) := HX.out.1 hv
        have hb : (y == x) = true := by rw [beq_iff_eq]; exact hv
        clear HX hv
        go_wp2
        go_ret
        exact ⟨_, rfl, (decide_eq_true (by omega)).trans F.out.symm, rfl⟩
      · have F : Hid (x ∉ zs.take (k + 1)) := HX.out.2 hv
        have hb : (y == x) = false := by rw [beq_eq_false_iff_ne]; exact hv
        clear HX hv
        go_wp2
        go_round
        case rel => exact ⟨k + 1, by omega, by go_num, F.out⟩
        case measure => simp [intOf]; omega
    · have F : Hid (decide (x ∈ zs) = false) := decide_eq_false (by
        have h := Hall.out
        rwa [List.take_of_length_le (by rw [LA.out]; omega)] at h)
      go_wp2
      go_ret
      exact ⟨_, rfl, (decide_eq_false (by omega)).trans F.out.symm, rfl⟩

theorem slices_Contains (a : Option Addr) (n ca : Nat) (zs : List Int) (x : Int) (w : World) (ha : IsRow .i64 w a n ca zs) :
    Calls Try.prog 74 #[.slice a n ca, .int .i64 x] w fun e w' => e = .returned (.bool (decide (x ∈ zs))) ∧ w' = w := by
  have HA : Hid (IsRow .i64 w a n ca zs) := ha
  clear ha
  go_enter Try.func74, Try.ntmps74
  go_wp2_with fail
  refine (slices_Index a n ca zs x _ HA.out).mono ?_
  rintro e w1 ⟨i, rfl, hd, hw'⟩; have hw'' := hw'.symm; clear hw'; subst hw''
  have HD : Hid (decide (0 ≤ i) = decide (x ∈ zs)) := hd
  clear hd
  by_cases h0 : 0 ≤ i
  · have F : Hid (decide (x ∈ zs) = true) := by show _ = _; rw [← HD.out]; exact decide_eq_true h0
    go_wp2
    go_ret
    exact ⟨ret_bool (by rw [F.out]), rfl⟩
  · have F : Hid (decide (x ∈ zs) = false) := by show _ = _; rw [← HD.out]; exact decide_eq_false h0
    go_wp2
    go_ret
    exact ⟨ret_bool (by rw [F.out]; first | done | exact decide_eq_false (by omega)), rfl⟩


end Go.Proofs.Yteihgbiifcgipaa.Ihl
