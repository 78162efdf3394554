/-
  Contracts of chapter 1's functions on one value: of the program and of the model.
-/
import Derived.Test.YtekheacbmbbpmaaFrame
import Derived.Deep.RegionHeld3
import Derived.Deep.QuietTactic
import Derived.BigQuiet
import Derived.Deep.DrawnRows
import Derived.Outline
namespace Go.Proofs.Ytekheacbmbbpmaa.Val
open Go.ChangeShapes Go.WideShapes Go.ChangeAt Go.RowKit

def inB (n lo hi : Int) : Bool := decide (lo ≤ n ∧ n ≤ hi)
def goodV (b : Bool) (n : Int) : Bool := inB n (-1000) 1000 && (!b || decide (n = 0))

theorem spec_In (n lo hi : Int) (w : World) : Calls Try.prog 47 #[.int .i64 n, .int .i64 lo, .int .i64 hi] w fun e w' => e = .returned (.bool (inB n lo hi)) ∧ w' = w := by
  by_cases h0 : lo ≤ n
  · by_cases h2 : n ≤ hi
    · have e : inB n lo hi = true := by unfold inB; simp [h0, h2]
      rw [e]
      go_enter Try.func47, Try.ntmps47
      go_wp2
      go_ret
      exact ⟨rfl, rfl⟩
    · have e : inB n lo hi = false := by unfold inB; simp [h2]
      rw [e]
      go_enter Try.func47, Try.ntmps47
      go_wp2
      go_ret
      exact ⟨rfl, rfl⟩
  · have e : inB n lo hi = false := by unfold inB; simp [h0]
    rw [e]
    go_enter Try.func47, Try.ntmps47
    go_wp2
    go_ret
    exact ⟨rfl, rfl⟩

theorem impl_isInBound (n : Int) (w : World) : Calls Try.prog 73 #[.int .i64 n] w fun e w' => e = .returned (.bool (inB n (-1000) 1000)) ∧ w' = w := by
  by_cases h0 : -1000 ≤ n
  · by_cases h2 : n ≤ 1000
    · have e : inB n (-1000) 1000 = true := by unfold inB; simp [h0, h2]
      rw [e]
      go_enter Try.func73, Try.ntmps73
      go_wp2
      go_ret
      exact ⟨rfl, rfl⟩
    · have e : inB n (-1000) 1000 = false := by unfold inB; simp [h2]
      rw [e]
      go_enter Try.func73, Try.ntmps73
      go_wp2
      go_ret
      exact ⟨rfl, rfl⟩
  · have e : inB n (-1000) 1000 = false := by unfold inB; simp [h0]
    rw [e]
    go_enter Try.func73, Try.ntmps73
    go_wp2
    go_ret
    exact ⟨rfl, rfl⟩

end Go.Proofs.Ytekheacbmbbpmaa.Val
