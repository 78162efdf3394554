/-
  Contracts of chapter 1's functions on truths, of the program and of the model.
-/
import Derived.Test.YtbjpfmnkapmohaaDoorFrame
namespace Go.Proofs.YtbjpfmnkapmohaaDoor.Tr
open Go.ChangeShapes Go.WideShapes Go.ChangeAt Go.RowKit

def isT (a : Int) : Bool := decide (0 ≤ a ∧ a ≤ 2)
def andV (a b : Int) : Int := if isT a && isT b then (if a < b then a else b) else 0
def orV (a b : Int) : Int := if isT a && isT b then (if b < a then a else b) else 0
def notV (a : Int) : Int := if isT a then 2 - a else 0

def AndTab (w : World) : Prop :=
  w.cell? ⟨0, 0, none⟩ = some (.int .i64 0) ∧ w.cell? ⟨0, 1, none⟩ = some (.int .i64 0) ∧ w.cell? ⟨0, 2, none⟩ = some (.int .i64 0) ∧ w.cell? ⟨0, 3, none⟩ = some (.int .i64 0) ∧ w.cell? ⟨0, 4, none⟩ = some (.int .i64 1) ∧ w.cell? ⟨0, 5, none⟩ = some (.int .i64 1) ∧ w.cell? ⟨0, 6, none⟩ = some (.int .i64 0) ∧ w.cell? ⟨0, 7, none⟩ = some (.int .i64 1) ∧ w.cell? ⟨0, 8, none⟩ = some (.int .i64 2)

def OrTab (w : World) : Prop :=
  w.cell? ⟨1, 0, none⟩ = some (.int .i64 0) ∧ w.cell? ⟨1, 1, none⟩ = some (.int .i64 1) ∧ w.cell? ⟨1, 2, none⟩ = some (.int .i64 2) ∧ w.cell? ⟨1, 3, none⟩ = some (.int .i64 1) ∧ w.cell? ⟨1, 4, none⟩ = some (.int .i64 1) ∧ w.cell? ⟨1, 5, none⟩ = some (.int .i64 2) ∧ w.cell? ⟨1, 6, none⟩ = some (.int .i64 2) ∧ w.cell? ⟨1, 7, none⟩ = some (.int .i64 2) ∧ w.cell? ⟨1, 8, none⟩ = some (.int .i64 2)

def NotTab (w : World) : Prop :=
  w.cell? ⟨2, 0, none⟩ = some (.int .i64 2) ∧ w.cell? ⟨2, 1, none⟩ = some (.int .i64 1) ∧ w.cell? ⟨2, 2, none⟩ = some (.int .i64 0)

theorem AndTab.below {w w' : World} (h : AndTab w) (hb : Below w.heap.size w w') : AndTab w' := by
  -- 0
  obtain ⟨t0, t1, t2, t3, t4, t5, t6, t7, t8⟩ := h
  refine ⟨?_, ?_, ?_, ?_, ?_, ?_, ?_, ?_, ?_⟩
  all_goals rw [(Frame.bcell hb).1 _ _ (Frame.cell_lt t0)]; assumption

theorem OrTab.below {w w' : World} (h : OrTab w) (hb : Below w.heap.size w w') : OrTab w' := by
  -- 1
  obtain ⟨t0, t1, t2, t3, t4, t5, t6, t7, t8⟩ := h
  refine ⟨?_, ?_, ?_, ?_, ?_, ?_, ?_, ?_, ?_⟩
  all_goals rw [(Frame.bcell hb).1 _ _ (Frame.cell_lt t0)]; assumption

theorem NotTab.below {w w' : World} (h : NotTab w) (hb : Below w.heap.size w w') : NotTab w' := by
  -- 2
  obtain ⟨t0, t1, t2⟩ := h
  refine ⟨?_, ?_, ?_⟩
  all_goals rw [(Frame.bcell hb).1 _ _ (Frame.cell_lt t0)]; assumption


theorem tru_cases {a : Int} (h : isT a = true) : a = 0 ∨ a = 1 ∨ a = 2 := by
  unfold isT at h
  simp only [decide_eq_true_eq] at h
  omega

theorem impl_isTruth (a : Int) (w : World) : Calls Tryd.prog 29 #[.int .i64 a] w fun e w' => e = .returned (.bool (isT a)) ∧ w' = w := by
  by_cases h0 : 0 ≤ a
  · by_cases h2 : a ≤ 2
    · have e : isT a = true := by unfold isT; simp [h0, h2]
      rw [e]
      go_enter Tryd.func29, Tryd.ntmps29
      go_wp2
      go_ret
      exact ⟨rfl, rfl⟩
    · have e : isT a = false := by unfold isT; simp [h2]
      rw [e]
      go_enter Tryd.func29, Tryd.ntmps29
      go_wp2
      go_ret
      exact ⟨rfl, rfl⟩
  · have e : isT a = false := by unfold isT; simp [h0]
    rw [e]
    go_enter Tryd.func29, Tryd.ntmps29
    go_wp2
    go_ret
    exact ⟨rfl, rfl⟩

theorem spec_isTruth (a : Int) (w : World) : Calls Tryd.prog 30 #[.int .i64 a] w fun e w' => e = .returned (.bool (isT a)) ∧ w' = w := by
  by_cases h0 : 0 ≤ a
  · by_cases h2 : a ≤ 2
    · have e : isT a = true := by unfold isT; simp [h0, h2]
      rw [e]
      go_enter Tryd.func30, Tryd.ntmps30
      go_wp2
      go_ret
      exact ⟨rfl, rfl⟩
    · have e : isT a = false := by unfold isT; simp [h2]
      rw [e]
      go_enter Tryd.func30, Tryd.ntmps30
      go_wp2
      go_ret
      exact ⟨rfl, rfl⟩
  · have e : isT a = false := by unfold isT; simp [h0]
    rw [e]
    go_enter Tryd.func30, Tryd.ntmps30
    go_wp2
    go_ret
    exact ⟨rfl, rfl⟩

theorem impl_AndOf (a b : Int) (w : World) (hT : AndTab w) : Calls Tryd.prog 6 #[.int .i64 a, .int .i64 b] w fun e w' => e = .returned (.tuple #[.int .i64 (andV a b), .bool (isT a && isT b)]) ∧ w' = w := by
  cases ha : isT a
  · have hv : andV a b = 0 := by unfold andV; simp [ha]
    rw [hv]
    have Ha : Hid (isT a = false) := ha
    clear ha
    go_enter Tryd.func6, Tryd.ntmps6
    go_wp2_with fail
    refine (impl_isTruth _ _).mono ?_
    rintro e w' ⟨rfl, rfl⟩
    rw [Ha.out]
    go_wp2_with fail
    go_ret2
    exact ⟨rfl, rfl⟩
  · cases hb : isT b
    · have hv : andV a b = 0 := by unfold andV; simp [hb]
      rw [hv]
      have Ha : Hid (isT a = true) := ha
      have Hb : Hid (isT b = false) := hb
      clear ha hb
      go_enter Tryd.func6, Tryd.ntmps6
      go_wp2_with fail
      refine (impl_isTruth _ _).mono ?_
      rintro e w' ⟨rfl, rfl⟩
      rw [Ha.out]
      go_wp2_with fail
      refine (impl_isTruth _ _).mono ?_
      rintro e w' ⟨rfl, rfl⟩
      rw [Hb.out]
      go_wp2_with fail
      go_ret2
      exact ⟨rfl, rfl⟩
    · obtain ⟨t0, t1, t2, t3, t4, t5, t6, t7, t8⟩ := hT
      rcases tru_cases ha with rfl | rfl | rfl <;> rcases tru_cases hb with rfl | rfl | rfl <;> clear ha hb
      all_goals
        go_enter Tryd.func6, Tryd.ntmps6
        go_wp2
        go_ret2
        exact ⟨rfl, rfl⟩

theorem spec_AndOf (a b : Int) (w : World) : Calls Tryd.prog 7 #[.int .i64 a, .int .i64 b] w fun e w' => e = .returned (.tuple #[.int .i64 (andV a b), .bool (isT a && isT b)]) ∧ w' = w := by
  cases ha : isT a
  · have hv : andV a b = 0 := by unfold andV; simp [ha]
    rw [hv]
    have Ha : Hid (isT a = false) := ha
    clear ha
    go_enter Tryd.func7, Tryd.ntmps7
    go_wp2_with fail
    refine (spec_isTruth _ _).mono ?_
    rintro e w' ⟨rfl, rfl⟩
    rw [Ha.out]
    go_wp2_with fail
    go_ret2
    exact ⟨rfl, rfl⟩
  · cases hb : isT b
    · have hv : andV a b = 0 := by unfold andV; simp [hb]
      rw [hv]
      have Ha : Hid (isT a = true) := ha
      have Hb : Hid (isT b = false) := hb
      clear ha hb
      go_enter Tryd.func7, Tryd.ntmps7
      go_wp2_with fail
      refine (spec_isTruth _ _).mono ?_
      rintro e w' ⟨rfl, rfl⟩
      rw [Ha.out]
      go_wp2_with fail
      refine (spec_isTruth _ _).mono ?_
      rintro e w' ⟨rfl, rfl⟩
      rw [Hb.out]
      go_wp2_with fail
      go_ret2
      exact ⟨rfl, rfl⟩
    · rcases tru_cases ha with rfl | rfl | rfl <;> rcases tru_cases hb with rfl | rfl | rfl <;> clear ha hb
      all_goals
        go_enter Tryd.func7, Tryd.ntmps7
        go_wp2
        go_ret2
        exact ⟨rfl, rfl⟩

theorem impl_OrOf (a b : Int) (w : World) (hT : OrTab w) : Calls Tryd.prog 8 #[.int .i64 a, .int .i64 b] w fun e w' => e = .returned (.tuple #[.int .i64 (orV a b), .bool (isT a && isT b)]) ∧ w' = w := by
  cases ha : isT a
  · have hv : orV a b = 0 := by unfold orV; simp [ha]
    rw [hv]
    have Ha : Hid (isT a = false) := ha
    clear ha
    go_enter Tryd.func8, Tryd.ntmps8
    go_wp2_with fail
    refine (impl_isTruth _ _).mono ?_
    rintro e w' ⟨rfl, rfl⟩
    rw [Ha.out]
    go_wp2_with fail
    go_ret2
    exact ⟨rfl, rfl⟩
  · cases hb : isT b
    · have hv : orV a b = 0 := by unfold orV; simp [hb]
      rw [hv]
      have Ha : Hid (isT a = true) := ha
      have Hb : Hid (isT b = false) := hb
      clear ha hb
      go_enter Tryd.func8, Tryd.ntmps8
      go_wp2_with fail
      refine (impl_isTruth _ _).mono ?_
      rintro e w' ⟨rfl, rfl⟩
      rw [Ha.out]
      go_wp2_with fail
      refine (impl_isTruth _ _).mono ?_
      rintro e w' ⟨rfl, rfl⟩
      rw [Hb.out]
      go_wp2_with fail
      go_ret2
      exact ⟨rfl, rfl⟩
    · obtain ⟨t0, t1, t2, t3, t4, t5, t6, t7, t8⟩ := hT
      rcases tru_cases ha with rfl | rfl | rfl <;> rcases tru_cases hb with rfl | rfl | rfl <;> clear ha hb
      all_goals
        go_enter Tryd.func8, Tryd.ntmps8
        go_wp2
        go_ret2
        exact ⟨rfl, rfl⟩

theorem spec_OrOf (a b : Int) (w : World) : Calls Tryd.prog 9 #[.int .i64 a, .int .i64 b] w fun e w' => e = .returned (.tuple #[.int .i64 (orV a b), .bool (isT a && isT b)]) ∧ w' = w := by
  cases ha : isT a
  · have hv : orV a b = 0 := by unfold orV; simp [ha]
    rw [hv]
    have Ha : Hid (isT a = false) := ha
    clear ha
    go_enter Tryd.func9, Tryd.ntmps9
    go_wp2_with fail
    refine (spec_isTruth _ _).mono ?_
    rintro e w' ⟨rfl, rfl⟩
    rw [Ha.out]
    go_wp2_with fail
    go_ret2
    exact ⟨rfl, rfl⟩
  · cases hb : isT b
    · have hv : orV a b = 0 := by unfold orV; simp [hb]
      rw [hv]
      have Ha : Hid (isT a = true) := ha
      have Hb : Hid (isT b = false) := hb
      clear ha hb
      go_enter Tryd.func9, Tryd.ntmps9
      go_wp2_with fail
      refine (spec_isTruth _ _).mono ?_
      rintro e w' ⟨rfl, rfl⟩
      rw [Ha.out]
      go_wp2_with fail
      refine (spec_isTruth _ _).mono ?_
      rintro e w' ⟨rfl, rfl⟩
      rw [Hb.out]
      go_wp2_with fail
      go_ret2
      exact ⟨rfl, rfl⟩
    · rcases tru_cases ha with rfl | rfl | rfl <;> rcases tru_cases hb with rfl | rfl | rfl <;> clear ha hb
      all_goals
        go_enter Tryd.func9, Tryd.ntmps9
        go_wp2
        go_ret2
        exact ⟨rfl, rfl⟩

theorem impl_NotOf (a : Int) (w : World) (hT : NotTab w) : Calls Tryd.prog 10 #[.int .i64 a] w fun e w' => e = .returned (.tuple #[.int .i64 (notV a), .bool (isT a)]) ∧ w' = w := by
  cases ha : isT a
  · have hv : notV a = 0 := by unfold notV; simp [ha]
    rw [hv]
    have Ha : Hid (isT a = false) := ha
    clear ha
    go_enter Tryd.func10, Tryd.ntmps10
    go_wp2_with fail
    refine (impl_isTruth _ _).mono ?_
    rintro e w' ⟨rfl, rfl⟩
    rw [Ha.out]
    go_wp2_with fail
    go_ret2
    exact ⟨rfl, rfl⟩
  · obtain ⟨t0, t1, t2⟩ := hT
    rcases tru_cases ha with rfl | rfl | rfl <;> clear ha
    all_goals
      go_enter Tryd.func10, Tryd.ntmps10
      go_wp2
      go_ret2
      exact ⟨rfl, rfl⟩

theorem spec_NotOf (a : Int) (w : World) : Calls Tryd.prog 13 #[.int .i64 a] w fun e w' => e = .returned (.tuple #[.int .i64 (notV a), .bool (isT a)]) ∧ w' = w := by
  cases ha : isT a
  · have hv : notV a = 0 := by unfold notV; simp [ha]
    rw [hv]
    have Ha : Hid (isT a = false) := ha
    clear ha
    go_enter Tryd.func13, Tryd.ntmps13
    go_wp2_with fail
    refine (spec_isTruth _ _).mono ?_
    rintro e w' ⟨rfl, rfl⟩
    rw [Ha.out]
    go_wp2_with fail
    go_ret2
    exact ⟨rfl, rfl⟩
  · rcases tru_cases ha with rfl | rfl | rfl <;> clear ha
    all_goals
      go_enter Tryd.func13, Tryd.ntmps13
      go_wp2
      go_ret2
      exact ⟨rfl, rfl⟩


end Go.Proofs.YtbjpfmnkapmohaaDoor.Tr
