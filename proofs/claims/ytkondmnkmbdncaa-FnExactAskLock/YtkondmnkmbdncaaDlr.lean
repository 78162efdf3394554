/-
  Contracts of isDealer and isItem.
-/
import Derived.Test.YtkondmnkmbdncaaVal
import Derived.Test.YtkondmnkmbdncaaMem
namespace Go.Proofs.Ytkondmnkmbdncaa.Dlr
open Go.RowKit
open Go.Proofs.Ytkondmnkmbdncaa.Frame Go.Proofs.Ytkondmnkmbdncaa.Mem Go.Proofs.Ytkondmnkmbdncaa.Val

theorem isDealer (n : Int) (w : World) : Calls Try.prog 72 #[.int .i64 n] w fun e w' => e = .returned (.bool (inB n 0 3)) ∧ w' = w := by
  by_cases h0 : 0 ≤ n
  · by_cases h2 : n ≤ 3
    · have e : inB n 0 3 = true := by unfold inB; simp [h0, h2]
      have h4 : n < 4 := by omega
      rw [e]
      go_enter Try.func72, Try.ntmps72
      go_wp2
      go_ret
      exact ⟨rfl, rfl⟩
    · have e : inB n 0 3 = false := by unfold inB; simp [h2]
      have h4 : ¬ n < 4 := by omega
      rw [e]
      go_enter Try.func72, Try.ntmps72
      go_wp2
      go_ret
      exact ⟨rfl, rfl⟩
  · have e : inB n 0 3 = false := by unfold inB; simp [h0]
    rw [e]
    go_enter Try.func72, Try.ntmps72
    go_wp2
    go_ret
    exact ⟨rfl, rfl⟩

theorem isItem (n : Int) (w : World) : Calls Try.prog 112 #[.int .i64 n] w fun e w' => e = .returned (.bool (inB n 0 3)) ∧ w' = w := by
  by_cases h0 : 0 ≤ n
  · by_cases h2 : n ≤ 3
    · have e : inB n 0 3 = true := by unfold inB; simp [h0, h2]
      have h4 : n < 4 := by omega
      rw [e]
      go_enter Try.func112, Try.ntmps112
      go_wp2
      go_ret
      exact ⟨rfl, rfl⟩
    · have e : inB n 0 3 = false := by unfold inB; simp [h2]
      have h4 : ¬ n < 4 := by omega
      rw [e]
      go_enter Try.func112, Try.ntmps112
      go_wp2
      go_ret
      exact ⟨rfl, rfl⟩
  · have e : inB n 0 3 = false := by unfold inB; simp [h0]
    rw [e]
    go_enter Try.func112, Try.ntmps112
    go_wp2
    go_ret
    exact ⟨rfl, rfl⟩

theorem inB_iff {n lo hi : Int} : inB n lo hi = true ↔ lo ≤ n ∧ n ≤ hi := by unfold inB; rw [decide_eq_true_eq]


end Go.Proofs.Ytkondmnkmbdncaa.Dlr
