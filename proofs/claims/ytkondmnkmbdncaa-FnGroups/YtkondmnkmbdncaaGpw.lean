/-
  Groups made one each (no program): which of those ahead a group leads to.
-/
import Derived.Test.YtkondmnkmbdncaaGpv
namespace Go.Proofs.Ytkondmnkmbdncaa.Gpw
open Go.Proofs.Ytkondmnkmbdncaa.Rel Go.Proofs.Ytkondmnkmbdncaa.Gpu Go.Proofs.Ytkondmnkmbdncaa.Gpb Go.Proofs.Ytkondmnkmbdncaa.Gpv

def leadB (xs : Ll) (g h : List Int) : Bool := g.any fun x => (gRow xs x).any fun y => decide (y ∈ h)
theorem lead_iff {xs : Ll} {g h : List Int} : leadB xs g h = true ↔ ∃ x ∈ g, ∃ y ∈ gRow xs x, y ∈ h := by
  unfold leadB
  rw [List.any_eq_true]
  constructor
  · rintro ⟨x, hx, hy⟩
    obtain ⟨y, hy1, hy2⟩ := List.any_eq_true.1 hy
    exact ⟨x, hx, y, hy1, of_decide_eq_true hy2⟩
  · rintro ⟨x, hx, y, hy1, hy2⟩
    exact ⟨x, hx, List.any_eq_true.2 ⟨y, hy1, decide_eq_true hy2⟩⟩
noncomputable def shrinkRow (xs gs : Ll) (i : Nat) : List Int := (numN i).filter fun k => leadB xs (gs.getD i []) (gs.getD k.toNat [])
noncomputable def shrinkN (xs : Ll) : Ll := (List.range (groupsN xs).length).map fun i => shrinkRow xs (groupsN xs) i
noncomputable def shrinkV (xs : Ll) : Ll := bif goodG xs then shrinkN xs else []

theorem groups_up {xs : Ll} : ∀ (f : Nat) (left : List Int), UpN left → ∀ g ∈ groupsL xs f left, UpN g
  | 0, _, _, g, h => by cases h
  | f + 1, left, hu, g, h => by
    rw [groupsL] at h
    split at h
    · cases h
    · rename_i k _
      rcases List.mem_cons.1 h with rfl | h
      · exact up_filter hu _
      · exact groups_up f _ (up_filter hu _) g h
theorem ahead {xs : Ll} : ∀ (f : Nat) (left : List Int) (i k : Nat), i < k → ∀ x ∈ (groupsL xs f left).getD i [], ∀ y ∈ gRow xs x, y ∉ (groupsL xs f left).getD k []
  | 0, _, _, _, _, x, hx, _, _ => by simp [groupsL] at hx
  | f + 1, left, i, k, hik, x, hx, y, hy => by
    rw [groupsL] at hx ⊢
    split at hx
    · simp at hx
    · rename_i r hr
      have hready := List.find?_some hr
      rw [ready_iff] at hready
      match k, hik with
      | k + 1, hik =>
        intro hk
        simp only [List.getD_cons_succ] at hk
        match i with
        | 0 =>
          simp only [List.getD_cons_zero] at hx
          obtain ⟨hx1, hx2⟩ := List.mem_filter.1 hx
          have hyg : y ∈ left.filter fun o => !togB xs r o := by
            by_cases hl : k < (groupsL xs f (left.filter fun o => !togB xs r o)).length
            · simp only [List.getD, List.getElem?_eq_getElem hl, Option.getD_some] at hk
              exact (groups_mem xs f _ _ (List.getElem_mem hl)).2 y hk
            · rw [List.getD, List.getElem?_eq_none (by omega)] at hk
              simp at hk
          obtain ⟨hy1, hy2⟩ := List.mem_filter.1 hyg
          have hry : Rch xs r y := (togB_iff.1 hx2).1.step hy
          rw [togB_iff.2 ⟨hry, hready y hy1 hry⟩] at hy2
          cases hy2
        | i + 1 =>
          simp only [List.getD_cons_succ] at hx
          exact ahead f _ i k (by omega) x hx y hy hk

/-- The model asks all the others, the program those ahead. -/
theorem row_as (xs : Ll) {i : Nat} (hi : i < (groupsN xs).length) : ((numN (groupsN xs).length).filter fun k => decide (k ≠ (i : Int)) && leadB xs ((groupsN xs).getD i []) ((groupsN xs).getD k.toNat [])) = shrinkRow xs (groupsN xs) i := by
  unfold shrinkRow
  refine upN_told (up_filter (up_numN _) _) (up_filter (up_numN _) _) fun s => ?_
  rw [List.mem_filter, List.mem_filter, mem_numN, mem_numN, Bool.and_eq_true, decide_eq_true_eq]
  constructor
  · rintro ⟨⟨h0, h1⟩, h2, h3⟩
    refine ⟨⟨h0, ?_⟩, h3⟩
    by_cases hlt : s < (i : Int)
    · exact hlt
    · exfalso
      obtain ⟨x, hx, y, hy, hyk⟩ := lead_iff.1 h3
      exact ahead xs.length (numN xs.length) i s.toNat (by omega) x hx y hy hyk
  · rintro ⟨⟨h0, h1⟩, h3⟩
    exact ⟨⟨h0, by omega⟩, by omega, h3⟩
theorem shrink_len (xs : Ll) : (shrinkN xs).length = (groupsN xs).length := by simp [shrinkN]
theorem row_few (xs gs : Ll) (i : Nat) : (shrinkRow xs gs i).length ≤ i := by
  have := List.length_filter_le (fun k => leadB xs (gs.getD i []) (gs.getD k.toNat [])) (numN i)
  rwa [numN_length] at this
theorem shrink_total {xs : Ll} (hg : GoodP xs) : ((shrinkN xs).length : Int) + ((shrinkN xs).map fun x => (x.length : Int)).sum ≤ 1000 := by
  have h := Nat.le_trans (groups_len xs xs.length (numN xs.length)) hg.few
  refine few_total (n := 12) (by rw [shrink_len]; exact h) (fun g hg' => ?_) (Nat.le_refl _)
  obtain ⟨i, hi, rfl⟩ := List.mem_map.1 hg'
  have h1 := List.mem_range.1 hi
  have h2 := row_few xs (groupsN xs) i
  have h3 : (groupsN xs).length ≤ 12 := h
  omega


end Go.Proofs.Ytkondmnkmbdncaa.Gpw
