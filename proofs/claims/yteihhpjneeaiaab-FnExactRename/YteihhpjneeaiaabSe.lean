/-
  Contract of the model's Project.
-/
import Derived.Test.YteihhpjneeaiaabSd
namespace Go.Proofs.Yteihhpjneeaiaab.Se
open Go.RowKit
open Go.Proofs.Yteihhpjneeaiaab.Frame Go.Proofs.Yteihhpjneeaiaab.Mem Go.Proofs.Yteihhpjneeaiaab.Ints Go.Proofs.Yteihhpjneeaiaab.Kep Go.Proofs.Yteihhpjneeaiaab.Lls Go.Proofs.Yteihhpjneeaiaab.Rpu Go.Proofs.Yteihhpjneeaiaab.Krl Go.Proofs.Yteihhpjneeaiaab.Sa Go.Proofs.Yteihhpjneeaiaab.Sb Go.Proofs.Yteihhpjneeaiaab.Sc Go.Proofs.Yteihhpjneeaiaab.Sd Go.Proofs.Yteihhpjneeaiaab.Mis Go.Proofs.Yteihhpjneeaiaab.Told Go.Proofs.Yteihhpjneeaiaab.Rel

theorem project_no {r : Rl} {names : List Int} (h : projectB r names = false) : projectV r names = ([], []) ∧ projectG r names = false := by
  unfold projectV projectG
  rw [h]
  exact ⟨rfl, rfl⟩
theorem project_yes {r : Rl} {names : List Int} (h : projectB r names = true) : projectV r names = tellV names (projectL r names) ∧ projectG r names = tellG names (projectL r names) := by
  unfold projectV projectG
  rw [h]
  exact ⟨rfl, rfl⟩
theorem sub_mem {ns ws : List Int} (h : subB ns ws = true) : ∀ z ∈ ws, z ∈ ns := by
  unfold subB at h
  rw [Bool.and_eq_true, List.all_eq_true] at h
  intro z hz
  exact (idx_nonneg ns z).1 (of_decide_eq_true (h.1 z hz))
theorem sub_up {ns ws : List Int} (h : subB ns ws = true) : UpN ws := by
  unfold subB riseB at h
  rw [Bool.and_eq_true, Bool.and_eq_true, decide_eq_true_eq] at h
  exact h.2.2
/-- Names that rise within other names that rise are as many at most. -/
theorem up_few {ws ns : List Int} (hw : UpN ws) (hn : UpN ns) (h : ∀ z ∈ ws, z ∈ ns) : ws.length ≤ ns.length := by
  induction ns generalizing ws with
  | nil =>
    cases ws with
    | nil => exact Nat.le_refl _
    | cons x ws => exact absurd (h x (by simp)) (by simp)
  | cons n ns ih =>
    unfold UpN at hn
    rw [List.pairwise_cons] at hn
    cases ws with
    | nil => simp
    | cons x ws =>
      unfold UpN at hw
      have hw' := hw
      rw [List.pairwise_cons] at hw
      rcases List.mem_cons.1 (h x (by simp)) with rfl | hx
      · have := ih (ws := ws) hw.2 hn.2 (fun z hz => by
          rcases List.mem_cons.1 (h z (by simp [hz])) with rfl | h'
          · have := hw.1 _ hz; omega
          · exact h')
        simp only [List.length_cons]
        omega
      · have := ih (ws := x :: ws) hw' hn.2 (fun z hz => by
          rcases List.mem_cons.1 (h z hz) with rfl | h'
          · have h1 := hn.1 x hx
            rcases List.mem_cons.1 hz with rfl | h2
            · omega
            · have := hw.1 _ h2; omega
          · exact h')
        simp only [List.length_cons] at *
        omega
theorem lplain_len {rs : List LV} : (lplain rs).length = rs.length := by simp [lplain]


end Go.Proofs.Yteihhpjneeaiaab.Se
