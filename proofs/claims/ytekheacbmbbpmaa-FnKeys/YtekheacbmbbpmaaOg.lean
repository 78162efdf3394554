/-
  Contract of the program's Project.
-/
import Derived.Test.YtekheacbmbbpmaaOe
import Derived.Test.YtekheacbmbbpmaaOf
namespace Go.Proofs.Ytekheacbmbbpmaa.Og
open Go.RowKit
open Go.Proofs.Ytekheacbmbbpmaa.Frame Go.Proofs.Ytekheacbmbbpmaa.Mem Go.Proofs.Ytekheacbmbbpmaa.Ints Go.Proofs.Ytekheacbmbbpmaa.Kep Go.Proofs.Ytekheacbmbbpmaa.Lls Go.Proofs.Ytekheacbmbbpmaa.Rpu Go.Proofs.Ytekheacbmbbpmaa.Krl Go.Proofs.Ytekheacbmbbpmaa.Oa Go.Proofs.Ytekheacbmbbpmaa.Ob Go.Proofs.Ytekheacbmbbpmaa.Oe Go.Proofs.Ytekheacbmbbpmaa.Of Go.Proofs.Ytekheacbmbbpmaa.Told Go.Proofs.Ytekheacbmbbpmaa.Rel

theorem project_no {r : Rl} {names : List Int} (h : projectB r names = false) : projectV r names = ([], []) ∧ projectG r names = false := by
  unfold projectV projectG
  rw [h]
  exact ⟨rfl, rfl⟩
theorem project_yes {r : Rl} {names : List Int} (h : projectB r names = true) : projectV r names = tellV names (projectL r names) ∧ projectG r names = tellG names (projectL r names) := by
  unfold projectV projectG
  rw [h]
  exact ⟨rfl, rfl⟩
theorem sub_is {r : Rl} {ws : List Int} (h : Rel.Good r.1 r.2) : subB r.1 ws = true ↔ UpN ws ∧ ∀ z ∈ ws, z ∈ r.1 := by
  unfold subB riseB
  rw [Bool.and_eq_true, Bool.and_eq_true, List.all_eq_true, allI_iff, decide_eq_true_eq]
  constructor
  · rintro ⟨h1, _, h3⟩
    exact ⟨h3, fun z hz => (idx_nonneg r.1 z).1 (of_decide_eq_true (h1 z hz))⟩
  · rintro ⟨h1, h2⟩
    exact ⟨fun z hz => decide_eq_true ((idx_nonneg r.1 z).2 (h2 z hz)), fun z hz => h.inN z (h2 z hz), h1⟩
theorem project_not {r : Rl} {ws : List Int} (h : Rel.Good r.1 r.2) (hn : ¬ (UpN ws ∧ ∀ z ∈ ws, z ∈ r.1)) : projectB r ws = false := by
  unfold projectB
  have : subB r.1 ws = false := by rw [Bool.eq_false_iff]; exact fun hh => hn ((sub_is h).1 hh)
  rw [this, Bool.and_false]
theorem project_is {r : Rl} {ws : List Int} (h : Rel.Good r.1 r.2) (hn : UpN ws ∧ ∀ z ∈ ws, z ∈ r.1) : projectB r ws = true := by
  unfold projectB
  rw [good_iff.2 h, (sub_is h).2 hn]
  rfl
theorem up_few {ws ns : List Int} (hw : UpN ws) (hn : UpN ns) (h : ∀ z ∈ ws, z ∈ ns) : ws.length ≤ ns.length := by
  induction ns generalizing ws with
  | nil =>
    cases ws with
    | nil => exact Nat.le_refl _
    | cons x ws => exact absurd (h x (by simp)) (by simp)
  | cons n ns ih =>
    unfold UpN at hn
    rw [List.pairwise_cons] at hn
    cases ws with
    | nil => simp
    | cons x ws =>
      unfold UpN at hw
      have hw' := hw
      rw [List.pairwise_cons] at hw
      rcases List.mem_cons.1 (h x (by simp)) with rfl | hx
      · have := ih (ws := ws) hw.2 hn.2 (fun z hz => by
          rcases List.mem_cons.1 (h z (by simp [hz])) with rfl | h'
          · have := hw.1 _ hz; omega
          · exact h')
        simp only [List.length_cons]
        omega
      · have := ih (ws := x :: ws) hw' hn.2 (fun z hz => by
          rcases List.mem_cons.1 (h z hz) with rfl | h'
          · have h1 := hn.1 x hx
            rcases List.mem_cons.1 hz with rfl | h2
            · omega
            · have := hw.1 _ h2; omega
          · exact h')
        simp only [List.length_cons] at *
        omega

/-- What the functions that begin with a relation in a box and an answer in one are told at the start. -/
theorem start2 {w : World} {ua ta : Option Addr} {un uc tn tc : Nat} {w7 : World} (hb7 : Below ((w.alloc (.cells #[.slice ua un uc, .slice ta tn tc] 42)).alloc (.cells #[.slice none 0 0, .slice none 0 0] 42)).heap.size ((w.alloc (.cells #[.slice ua un uc, .slice ta tn tc] 42)).alloc (.cells #[.slice none 0 0, .slice none 0 0] 42)) w7) :
    (w7.cell? ⟨w.heap.size, 0, none⟩ = some (.slice ua un uc) ∧ w7.cell? ⟨w.heap.size, 1, none⟩ = some (.slice ta tn tc)) ∧ (w7.cell? ⟨w.heap.size + 1, 0, none⟩ = some (.slice none 0 0) ∧ w7.cell? ⟨w.heap.size + 1, 1, none⟩ = some (.slice none 0 0) ∧ w7.frozen? ⟨w.heap.size + 1, 0, none⟩ = false ∧ w7.frozen? ⟨w.heap.size + 1, 1, none⟩ = false ∧ w.heap.size + 1 + 1 ≤ w7.heap.size) ∧ Below w.heap.size w w7 := by
  have hs2 : ((w.alloc (.cells #[.slice ua un uc, .slice ta tn tc] 42)).alloc (.cells #[.slice none 0 0, .slice none 0 0] 42)).heap.size = w.heap.size + 2 := by simp
  have B2 : Below w.heap.size w ((w.alloc (.cells #[.slice ua un uc, .slice ta tn tc] 42)).alloc (.cells #[.slice none 0 0, .slice none 0 0] 42)) := ((Below.refl _ _).alloc (Nat.le_refl _) _).alloc (by simp) _
  have bc := Frame.bcell hb7
  rw [hs2] at bc
  refine ⟨⟨?_, ?_⟩, ⟨?_, ?_, ?_, ?_, bc.2.2⟩, Frame.next B2 hb7 B2.size⟩
  · rw [bc.1 _ _ (by omega)]; go_simp
  · rw [bc.1 _ _ (by omega)]; go_simp
  · rw [bc.1 _ _ (by omega)]; go_simp
  · rw [bc.1 _ _ (by omega)]; go_simp
  · rw [bc.2.1 _ _ (by omega)]; go_simp
  · rw [bc.2.1 _ _ (by omega)]; go_simp
theorem told_none {w w1 : World} {b : Nat} {v0 v1 : Value} (hb : w.heap.size ≤ b) (hB : Below w.heap.size w w1) : RTold ([], []) false w (.returned (.tuple #[.agg #[.slice none 0 0, .slice none 0 0], .bool false])) ((w1.setCell ⟨b, 0, none⟩ v0).setCell ⟨b, 1, none⟩ v1) :=
  ⟨_, _, _, _, _, _, rfl, own_none _ _ _, (hB.setCell hb _).setCell hb _⟩


end Go.Proofs.Ytekheacbmbbpmaa.Og
