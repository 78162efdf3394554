/-
  Contracts of the model's small functions on lists of integers.
-/
import Derived.Test.YtekheacbmbbpmaaInts
import Derived.Test.YtekheacbmbbpmaaVal
namespace Go.Proofs.Ytekheacbmbbpmaa.Lst
open Go.RowKit
open Go.Proofs.Ytekheacbmbbpmaa.Frame Go.Proofs.Ytekheacbmbbpmaa.Mem Go.Proofs.Ytekheacbmbbpmaa.Ints

theorem ret_pair {x x' : Int} {y y' : Bool} (h : x = x') (k : y = y') : Ending.returned (.tuple #[.int .i64 x, .bool y]) = .returned (.tuple #[.int .i64 x', .bool y']) := by rw [h, k]

def allIn (lo hi : Int) (zs : List Int) : Bool := zs.all fun z => Val.inB z lo hi

theorem all_take_false (f : Int → Bool) (zs : List Int) (k : Nat) (h : k < zs.length) (e : f (zs.getD k 0) = false) : zs.all f = false := by
  rw [List.all_eq_false]
  exact ⟨_, getD_mem h, by rw [e]; exact Bool.false_ne_true⟩
theorem all_take_succ (f : Int → Bool) (zs : List Int) (k : Nat) (h : k < zs.length) (e : f (zs.getD k 0) = true) (hk : (zs.take k).all f = true) : (zs.take (k + 1)).all f = true := by
  rw [take_succ_getD h, List.all_append, hk]
  simp only [Bool.true_and, List.all_cons, List.all_nil, Bool.and_true]
  exact e

set_option maxHeartbeats 400000 in
theorem spec_l1All (a : Option Addr) (n ca : Nat) (zs : List Int) (lo hi : Int) (w : World) (ha : IsRow .i64 w a n ca zs) (hn : n ≤ 1048576) :
    Calls Try.prog 64 #[.slice a n ca, .int .i64 lo, .int .i64 hi] w fun e w' => e = .returned (.bool (allIn lo hi zs)) ∧ w' = w := by
  have la := ha.len
  have HAs : Hid (0 < n → ∃ b off, a = some ⟨b, off, none⟩ ∧ b < w.heap.size ∧ ∀ i, i < n → w.cell? ⟨b, off + i, none⟩ = some (.int .i64 (zs.getD i 0))) := ha.cells
  have LA : Hid (zs.length = n) := la
  clear la ha
  go_enter Try.func64, Try.ntmps64
  go_wp2
  go_loop [11] (fun i => ∃ k : Nat, k ≤ n ∧ i = .int .i64 k ∧ allIn lo hi (zs.take k) = true) (fun i => n - (intOf i).toNat)
  case atStart => exact ⟨0, Nat.zero_le _, rfl, rfl⟩
  case round =>
    obtain ⟨k, hk, rfl, hall⟩ := hrel
    have Hall : Hid (allIn lo hi (zs.take k) = true) := hall
    clear hall
    by_cases hlt : k < n
    · obtain ⟨b, off, rfl, hbl, hc⟩ := HAs.out (by omega)
      have hck := hc k hlt
      have hkl : k < zs.length := by rw [LA.out]; exact hlt
      generalize hx : zs.getD k 0 = x at hck
      have HX : Hid (zs.getD k 0 = x) := hx
      clear hc hx
      cases hin : Val.inB x lo hi
      · have Hin : Hid (Val.inB x lo hi = false) := hin
        clear hin
        go_wp2_with fail
        refine (Val.spec_In _ _ _ _).mono ?_
        rintro e w' ⟨rfl, rfl⟩
        rw [Hin.out]
        go_wp2_with fail
        go_ret
        exact ⟨ret_bool (all_take_false _ zs k (by rw [LA.out]; exact hlt) (by rw [HX.out]; exact Hin.out)).symm, rfl⟩
      · have Hin : Hid (Val.inB x lo hi = true) := hin
        clear hin
        go_wp2_with fail
        refine (Val.spec_In _ _ _ _).mono ?_
        rintro e w' ⟨rfl, rfl⟩
        rw [Hin.out]
        go_wp2_with fail
        go_round
        case rel => exact ⟨k + 1, by omega, by go_num, all_take_succ _ zs k (by rw [LA.out]; exact hlt) (by rw [HX.out]; exact Hin.out) Hall.out⟩
        case measure => simp [intOf]; omega
    · go_wp2
      go_ret
      have h := Hall.out
      rw [List.take_of_length_le (by rw [LA.out]; omega)] at h
      exact ⟨ret_bool h.symm, rfl⟩


end Go.Proofs.Ytekheacbmbbpmaa.Lst
