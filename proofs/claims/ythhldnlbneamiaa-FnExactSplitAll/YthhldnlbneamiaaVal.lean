/-
  Contracts of chapter 1's functions on one value: of the program and of the model.
-/
import Derived.Test.YthhldnlbneamiaaFrame
import Derived.Deep.RegionHeld3
import Derived.Deep.QuietTactic
import Derived.BigQuiet
import Derived.Deep.DrawnRows
import Derived.Outline
namespace Go.Proofs.Ythhldnlbneamiaa.Val
open Go.ChangeShapes Go.WideShapes Go.ChangeAt Go.RowKit

def inB (n lo hi : Int) : Bool := decide (lo ≤ n ∧ n ≤ hi)
def goodV (b : Bool) (n : Int) : Bool := inB n (-1000) 1000 && (!b || decide (n = 0))

theorem spec_In (n lo hi : Int) (w : World) : Calls Try.prog 131 #[.int .i64 n, .int .i64 lo, .int .i64 hi] w fun e w' => e = .returned (.bool (inB n lo hi)) ∧ w' = w := by
  by_cases h0 : lo ≤ n
  · by_cases h2 : n ≤ hi
    · have e : inB n lo hi = true := by unfold inB; simp [h0, h2]
      rw [e]
      go_enter Try.func131, Try.ntmps131
      go_wp2
      go_ret
      exact ⟨rfl, rfl⟩
    · have e : inB n lo hi = false := by unfold inB; simp [h2]
      rw [e]
      go_enter Try.func131, Try.ntmps131
      go_wp2
      go_ret
      exact ⟨rfl, rfl⟩
  · have e : inB n lo hi = false := by unfold inB; simp [h0]
    rw [e]
    go_enter Try.func131, Try.ntmps131
    go_wp2
    go_ret
    exact ⟨rfl, rfl⟩

theorem impl_isInBound (n : Int) (w : World) : Calls Try.prog 172 #[.int .i64 n] w fun e w' => e = .returned (.bool (inB n (-1000) 1000)) ∧ w' = w := by
  by_cases h0 : -1000 ≤ n
  · by_cases h2 : n ≤ 1000
    · have e : inB n (-1000) 1000 = true := by unfold inB; simp [h0, h2]
      rw [e]
      go_enter Try.func172, Try.ntmps172
      go_wp2
      go_ret
      exact ⟨rfl, rfl⟩
    · have e : inB n (-1000) 1000 = false := by unfold inB; simp [h2]
      rw [e]
      go_enter Try.func172, Try.ntmps172
      go_wp2
      go_ret
      exact ⟨rfl, rfl⟩
  · have e : inB n (-1000) 1000 = false := by unfold inB; simp [h0]
    rw [e]
    go_enter Try.func172, Try.ntmps172
    go_wp2
    go_ret
    exact ⟨rfl, rfl⟩

theorem toValue (b : Bool) (n : Int) (w : World) : Calls Try.prog 119 #[.agg #[.bool b, .int .i64 n]] w fun e w' => e = .returned (.agg #[.bool b, .int .i64 n]) ∧ Below w.heap.size w w' := by
  go_enter Try.func119, Try.ntmps119
  go_wp2
  exact bodyPost_ret (v := .agg #[.bool b, .int .i64 n]) (by simp [results, Try.results119, go_sem]) rfl ⟨rfl, (((Below.refl _ _).alloc (Nat.le_refl _) _).alloc (by simp) _).alloc (by simp; omega) _⟩

theorem impl_GoodValue (b : Bool) (n : Int) (w : World) : Calls Try.prog 161 #[.agg #[.bool b, .int .i64 n]] w fun e w' => e = .returned (.bool (goodV b n)) ∧ Below w.heap.size w w' := by
  cases b
  · have e : goodV false n = inB n (-1000) 1000 := by unfold goodV; simp
    rw [e]
    go_enter Try.func161, Try.ntmps161
    go_wp2_with fail
    refine (impl_isInBound _ _).mono ?_
    rintro e w' ⟨rfl, rfl⟩
    go_wp2
    go_ret
    exact ⟨rfl, (Below.refl _ _).alloc (Nat.le_refl _) _⟩
  · have e : goodV true n = (n == 0) := by
      unfold goodV inB
      by_cases h : n = 0
      · subst h; rfl
      · simp [h]
    rw [e]
    go_enter Try.func161, Try.ntmps161
    go_wp2
    go_ret
    exact ⟨rfl, (Below.refl _ _).alloc (Nat.le_refl _) _⟩

theorem spec_GoodValue (b : Bool) (n : Int) (w : World) : Calls Try.prog 159 #[.agg #[.bool b, .int .i64 n]] w fun e w' => e = .returned (.bool (goodV b n)) ∧ Below w.heap.size w w' := by
  cases hi : inB n (-1000) 1000
  · have Hi : Hid (inB n (-1000) 1000 = false) := hi
    have e : goodV b n = false := by unfold goodV; simp [hi]
    rw [e]
    clear hi e
    go_enter Try.func159, Try.ntmps159
    go_wp2_with fail
    refine (spec_In _ _ _ _).mono ?_
    rintro e w' ⟨rfl, rfl⟩
    rw [Hi.out]
    go_wp2
    go_ret
    exact ⟨rfl, (Below.refl _ _).alloc (Nat.le_refl _) _⟩
  · have Hi : Hid (inB n (-1000) 1000 = true) := hi
    have e : goodV b n = (!b || (n == 0)) := by unfold goodV; simp only [hi, Bool.true_and]; rfl
    rw [e]
    clear hi e
    cases b
    all_goals
      go_enter Try.func159, Try.ntmps159
      go_wp2_with fail
      refine (spec_In _ _ _ _).mono ?_
      rintro e w' ⟨rfl, rfl⟩
      rw [Hi.out]
      go_wp2
      go_ret
      exact ⟨rfl, (Below.refl _ _).alloc (Nat.le_refl _) _⟩

end Go.Proofs.Ythhldnlbneamiaa.Val
