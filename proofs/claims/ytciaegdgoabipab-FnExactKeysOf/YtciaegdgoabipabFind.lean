/-
  Contract of the model's FindRow.
-/
import Derived.Test.YtciaegdgoabipabGtab
import Derived.Test.YtciaegdgoabipabCpy
namespace Go.Proofs.Ytciaegdgoabipab.Find
open Go.RowKit
open Go.Proofs.Ytciaegdgoabipab.Frame Go.Proofs.Ytciaegdgoabipab.Mem Go.Proofs.Ytciaegdgoabipab.Vals Go.Proofs.Ytciaegdgoabipab.Rws Go.Proofs.Ytciaegdgoabipab.Val Go.Proofs.Ytciaegdgoabipab.Tab Go.Proofs.Ytciaegdgoabipab.Reg Go.Proofs.Ytciaegdgoabipab.Gtab Go.Proofs.Ytciaegdgoabipab.Cpy

theorem find_some (key : Int) (rs : List RowV) (h : 0 ≤ find key rs) : ∃ k, k < rs.length ∧ find key rs = (k : Int) := by
  have aux : ∀ (rs : List RowV) (i : Nat), findTo key rs i = -1 ∨ ∃ k, k < rs.length ∧ findTo key rs i = ((i + k : Nat) : Int) := by
    intro rs
    induction rs with
    | nil => intro i; exact Or.inl rfl
    | cons r rs ih =>
      intro i
      by_cases e : r.key = key
      · exact Or.inr ⟨0, by simp, by rw [findTo, if_pos e]; rfl⟩
      · rcases ih (i + 1) with h | ⟨k, hk, h⟩
        · exact Or.inl (by rw [findTo, if_neg e, h])
        · exact Or.inr ⟨k + 1, by simp; omega, by rw [findTo, if_neg e, h]; congr 1; omega⟩
  rcases aux rs 0 with h' | ⟨k, hk, h'⟩
  · rw [find, h'] at h; omega
  · exact ⟨k, hk, by rw [find, h', Nat.zero_add]⟩

/-- Is a key found, and where: what FindRow tells. -/
def foundB (key : Int) (rs : List RowV) : Bool := goodT rs && decide (0 ≤ find key rs)

def foundR (key : Int) (rs : List RowV) : RowV := rs.getD (find key rs).toNat rd

end Go.Proofs.Ytciaegdgoabipab.Find
