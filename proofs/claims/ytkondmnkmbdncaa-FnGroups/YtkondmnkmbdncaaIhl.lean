/-
  Contracts of small functions on lists of integers: l1Has, l1Same, slices.Index, slices.Contains.
-/
import Derived.Test.YtkondmnkmbdncaaLst
import Derived.Test.YtkondmnkmbdncaaMii
namespace Go.Proofs.Ytkondmnkmbdncaa.Ihl
open Go.RowKit
open Go.Proofs.Ytkondmnkmbdncaa.Frame Go.Proofs.Ytkondmnkmbdncaa.Mem Go.Proofs.Ytkondmnkmbdncaa.Ints Go.Proofs.Ytkondmnkmbdncaa.Mii

set_option maxHeartbeats 400000 in
theorem l1Has (a : Option Addr) (n ca : Nat) (zs : List Int) (x : Int) (w : World) (ha : IsRow .i64 w a n ca zs) :
    Calls Try.prog 101 #[.slice a n ca, .int .i64 x] w fun e w' => e = .returned (.bool (decide (x ∈ zs))) ∧ w' = w := by
  have hmaxn : n ≤ 9223372036854775807 := by have := ha.fits; have := ha.max; unfold maxLen at *; omega
  have HAs : Hid (0 < n → ∃ b off, a = some ⟨b, off, none⟩ ∧ b < w.heap.size ∧ ∀ i, i < n → w.cell? ⟨b, off + i, none⟩ = some (.int .i64 (zs.getD i 0))) := ha.cells
  have LA : Hid (zs.length = n) := ha.len
  clear ha
  go_enter Try.func101, Try.ntmps101
  go_wp2
  go_loop [9] (fun i => ∃ k : Nat, k ≤ n ∧ i = .int .i64 k ∧ x ∉ zs.take k) (fun i => n - (intOf i).toNat)
  case atStart => exact ⟨0, Nat.zero_le _, rfl, by simp⟩
  case round =>
    obtain ⟨k, hk, rfl, hall⟩ := hrel
    have Hall : Hid (x ∉ zs.take k) := hall
    clear hall
    by_cases hlt : k < n
    · obtain ⟨b, off, rfl, hbl, hc⟩ := HAs.out (by omega)
      have hck := hc k hlt
      have hkl : k < zs.length := by rw [LA.out]; exact hlt
      have HX : Hid ((zs.getD k 0 = x → decide (x ∈ zs) = true) ∧ (zs.getD k 0 ≠ x → x ∉ zs.take (k + 1))) :=
        ⟨fun e => decide_eq_true (by rw [← e]; exact getD_mem hkl), fun e h => by
          rw [take_succ_getD hkl, List.mem_append, List.mem_singleton] at h
          rcases h with h | h
          · exact Hall.out h
          · exact e h.symm⟩
      generalize zs.getD k 0 = y at hck HX
      clear hc hkl
      by_cases hv : y = x
      · have F : Hid (decide (x ∈ zs) = true) := HX.out.1 hv
        have hb : (y == x) = true := by rw [beq_iff_eq]; exact hv
        clear HX hv
        go_wp2
        go_ret
        exact ⟨ret_bool F.out.symm, rfl⟩
      · have F : Hid (x ∉ zs.take (k + 1)) := HX.out.2 hv
        have hb : (y == x) = false := by rw [beq_eq_false_iff_ne]; exact hv
        clear HX hv
        go_wp2
        go_round
        case rel => exact ⟨k + 1, by omega, by go_num, F.out⟩
        case measure => simp [intOf]; omega
    · have F : Hid (decide (x ∈ zs) = false) := decide_eq_false (by
        have := Hall.out
        rwa [List.take_of_length_le (by rw [LA.out]; omega)] at this)
      go_wp2
      go_ret
      exact ⟨ret_bool F.out.symm, rfl⟩

def IdxB (i : Int) (b : Bool) : Prop := decide (0 ≤ i) = b

set_option maxHeartbeats 400000 in
theorem slices_Index (a : Option Addr) (n ca : Nat) (zs : List Int) (x : Int) (w : World) (ha : IsRow .i64 w a n ca zs) :
    Calls Try.prog 140 #[.slice a n ca, .int .i64 x] w fun e w' => ∃ i : Int, e = .returned (.int .i64 i) ∧ IdxB i (decide (x ∈ zs)) ∧ w' = w := by
  have hmaxn : n ≤ 9223372036854775807 := by have := ha.fits; have := ha.max; unfold maxLen at *; omega
  have HAs : Hid (0 < n → ∃ b off, a = some ⟨b, off, none⟩ ∧ b < w.heap.size ∧ ∀ i, i < n → w.cell? ⟨b, off + i, none⟩ = some (.int .i64 (zs.getD i 0))) := ha.cells
  have LA : Hid (zs.length = n) := ha.len
  clear ha
  go_enter Try.func140, Try.ntmps140
  go_wp2
  go_loop [8] (fun i => ∃ k : Nat, k ≤ n ∧ i = .int .i64 k ∧ x ∉ zs.take k) (fun i => n - (intOf i).toNat)
  case atStart => exact ⟨0, Nat.zero_le _, rfl, by simp⟩
  case round =>
    obtain ⟨k, hk, rfl, hall⟩ := hrel
    have Hall : Hid (x ∉ zs.take k) := hall
    clear hall
    by_cases hlt : k < n
    · obtain ⟨b, off, rfl, hbl, hc⟩ := HAs.out (by omega)
      have hck := hc k hlt
      have hkl : k < zs.length := by rw [LA.out]; exact hlt
      have HX : Hid ((zs.getD k 0 = x → decide (x ∈ zs) = true) ∧ (zs.getD k 0 ≠ x → x ∉ zs.take (k + 1))) :=
        ⟨fun e => decide_eq_true (by rw [← e]; exact getD_mem hkl), fun e h => by
          rw [take_succ_getD hkl, List.mem_append, List.mem_singleton] at h
          rcases h with h | h
          · exact Hall.out h
          · exact e h.symm⟩
      generalize zs.getD k 0 = y at hck HX
      clear hc hkl
      by_cases hv : y = x
      · have F : Hid (decide (x ∈ zs) = true) := HX.out.1 hv
        have hb : (y == x) = true := by rw [beq_iff_eq]; exact hv
        clear HX hv
        go_wp2
        go_ret
        exact ⟨_, rfl, (decide_eq_true (by omega)).trans F.out.symm, rfl⟩
      · have F : Hid (x ∉ zs.take (k + 1)) := HX.out.2 hv
        have hb : (y == x) = false := by rw [beq_eq_false_iff_ne]; exact hv
        clear HX hv
        go_wp2
        go_round
        case rel => exact ⟨k + 1, by omega, by go_num, F.out⟩
        case measure => simp [intOf]; omega
    · have F : Hid (decide (x ∈ zs) = false) := decide_eq_false (by
        have h := Hall.out
        rwa [List.take_of_length_le (by rw [LA.out]; omega)] at h)
      go_wp2
      go_ret
      exact ⟨_, rfl, (decide_eq_false (by omega)).trans F.out.symm, rfl⟩

theorem slices_Contains (a : Option Addr) (n ca : Nat) (zs : List Int) (x : Int) (w : World) (ha : IsRow .i64 w a n ca zs) :
    Calls Try.prog 111 #[.slice a n ca, .int .i64 x] w fun e w' => e = .returned (.bool (decide (x ∈ zs))) ∧ w' = w := by
  have HA : Hid (IsRow .i64 w a n ca zs) := ha
  clear ha
  go_enter Try.func111, Try.ntmps111
  go_wp2_with fail
  refine (slices_Index a n ca zs x _ HA.out).mono ?_
  rintro e w1 ⟨i, rfl, hd, hw'⟩; have hw'' := hw'.symm; clear hw'; subst hw''
  have HD : Hid (decide (0 ≤ i) = decide (x ∈ zs)) := hd
  clear hd
  by_cases h0 : 0 ≤ i
  · have F : Hid (decide (x ∈ zs) = true) := by show _ = _; rw [← HD.out]; exact decide_eq_true h0
    go_wp2
    go_ret
    exact ⟨ret_bool (by rw [F.out]), rfl⟩
  · have F : Hid (decide (x ∈ zs) = false) := by show _ = _; rw [← HD.out]; exact decide_eq_false h0
    go_wp2
    go_ret
    exact ⟨ret_bool (by rw [F.out]; first | done | exact decide_eq_false (by omega)), rfl⟩


end Go.Proofs.Ytkondmnkmbdncaa.Ihl
