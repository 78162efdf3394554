/-
  Contracts of the program's has on tuples, and of what it keeps for WithoutOf.
-/
import Derived.Test.YtekheacbmbbpmaaOf
import Derived.Test.YtekheacbmbbpmaaOe
import Derived.Test.YtekheacbmbbpmaaOh
namespace Go.Proofs.Ytekheacbmbbpmaa.Oi
open Go.RowKit
open Go.Proofs.Ytekheacbmbbpmaa.Frame Go.Proofs.Ytekheacbmbbpmaa.Mem Go.Proofs.Ytekheacbmbbpmaa.Ints Go.Proofs.Ytekheacbmbbpmaa.Kep Go.Proofs.Ytekheacbmbbpmaa.Lls Go.Proofs.Ytekheacbmbbpmaa.Rpu Go.Proofs.Ytekheacbmbbpmaa.Krl Go.Proofs.Ytekheacbmbbpmaa.Oa Go.Proofs.Ytekheacbmbbpmaa.Ob Go.Proofs.Ytekheacbmbbpmaa.Oe Go.Proofs.Ytekheacbmbbpmaa.Oh Go.Proofs.Ytekheacbmbbpmaa.Mis Go.Proofs.Ytekheacbmbbpmaa.Told Go.Proofs.Ytekheacbmbbpmaa.Rel

theorem strict_get {ts : Rel.Ll} (h : Strict ts) {i j : Nat} (hij : i < j) (hj : j < ts.length) : cmpL (ts.getD i []) (ts.getD j []) < 0 := by
  have := (List.pairwise_iff_getElem.1 h) i j (by omega) hj hij
  simpa [List.getD, hj, show i < ts.length by omega] using this
theorem found_ls {ts : Rel.Ll} {x : List Int} {k : Nat} (h1 : ∀ t, t < k → cmpL (ts.getD t []) x < 0) (h2 : ∀ t, k ≤ t → t < ts.length → ¬ cmpL (ts.getD t []) x < 0) (hu : Strict ts) : decide (x ∈ ts) = (decide (k < ts.length) && decide (ts.getD k [] = x)) := by
  rw [Bool.eq_iff_iff, Bool.and_eq_true, decide_eq_true_eq, decide_eq_true_eq, decide_eq_true_eq]
  constructor
  · intro hx
    obtain ⟨i, hi, e⟩ := List.getElem_of_mem hx
    have e' : ts.getD i [] = x := by simp [List.getD, hi, e]
    have hki : ¬ i < k := fun h => by
      have := h1 i h
      rw [e', cmpL_self] at this
      omega
    have hk : k < ts.length := by omega
    refine ⟨hk, ?_⟩
    by_cases hik : i = k
    · rw [← hik]; exact e'
    · have h3 := strict_get hu (i := k) (j := i) (by omega) hi
      rw [e'] at h3
      exact absurd h3 (h2 k (Nat.le_refl _) hk)
  · rintro ⟨hk, e⟩
    rw [← e]
    exact getD_mem_l hk


end Go.Proofs.Ytekheacbmbbpmaa.Oi
