/-
  Contracts of slices.Grow (at nil) and slices.Concat (of two lists of tuples), and of the program's UnionOf.
-/
import Derived.Test.YtekheacbmbbpmaaOj
import Derived.Lib.AppendZerosOnto
import Derived.Lib.SliceRun
namespace Go.Proofs.Ytekheacbmbbpmaa.Ok
open Go.RowKit
open Go.Proofs.Ytekheacbmbbpmaa.Frame Go.Proofs.Ytekheacbmbbpmaa.Mem Go.Proofs.Ytekheacbmbbpmaa.Ints Go.Proofs.Ytekheacbmbbpmaa.Kep Go.Proofs.Ytekheacbmbbpmaa.Lls Go.Proofs.Ytekheacbmbbpmaa.Rpu Go.Proofs.Ytekheacbmbbpmaa.Krl Go.Proofs.Ytekheacbmbbpmaa.Oa Go.Proofs.Ytekheacbmbbpmaa.Ob Go.Proofs.Ytekheacbmbbpmaa.Oe Go.Proofs.Ytekheacbmbbpmaa.Og Go.Proofs.Ytekheacbmbbpmaa.Oh Go.Proofs.Ytekheacbmbbpmaa.Mis Go.Proofs.Ytekheacbmbbpmaa.Told Go.Proofs.Ytekheacbmbbpmaa.Rel

theorem union_no {a b : Rl} (h : twoB a b = false) : unionV a b = ([], []) ∧ unionG a b = false := by
  unfold unionV unionG
  rw [h]
  exact ⟨rfl, rfl⟩
theorem union_yes {a b : Rl} (h : twoB a b = true) : unionV a b = tellV a.1 (a.2 ++ b.2) ∧ unionG a b = tellG a.1 (a.2 ++ b.2) := by
  unfold unionV unionG
  rw [h]
  exact ⟨rfl, rfl⟩
theorem far2 {w : World} {b b' o : Nat} {v v0 v1 : Value} (h : w.cell? ⟨b', o, none⟩ = some v) (hb : b ≠ b') : ((w.setCell ⟨b, 0, none⟩ v0).setCell ⟨b, 1, none⟩ v1).cell? ⟨b', o, none⟩ = some v := by
  rw [World.cell?_setCell_far _ _ _ _ hb, World.cell?_setCell_far _ _ _ _ hb]
  exact h


end Go.Proofs.Ytekheacbmbbpmaa.Ok
