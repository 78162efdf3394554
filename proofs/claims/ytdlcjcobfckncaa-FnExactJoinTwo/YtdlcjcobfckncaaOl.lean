/-
  Contracts of slices.Clone at []int and of the program's Rename.
-/
import Derived.Test.YtdlcjcobfckncaaOg
import Derived.Test.YtdlcjcobfckncaaReq
import Derived.Lib.SliceRun
namespace Go.Proofs.Ytdlcjcobfckncaa.Ol
open Go.RowKit
open Go.Proofs.Ytdlcjcobfckncaa.Frame Go.Proofs.Ytdlcjcobfckncaa.Mem Go.Proofs.Ytdlcjcobfckncaa.Ints Go.Proofs.Ytdlcjcobfckncaa.Kep Go.Proofs.Ytdlcjcobfckncaa.Lls Go.Proofs.Ytdlcjcobfckncaa.Rpu Go.Proofs.Ytdlcjcobfckncaa.Krl Go.Proofs.Ytdlcjcobfckncaa.Oa Go.Proofs.Ytdlcjcobfckncaa.Ob Go.Proofs.Ytdlcjcobfckncaa.Oc Go.Proofs.Ytdlcjcobfckncaa.Od Go.Proofs.Ytdlcjcobfckncaa.Oe Go.Proofs.Ytdlcjcobfckncaa.Of Go.Proofs.Ytdlcjcobfckncaa.Og Go.Proofs.Ytdlcjcobfckncaa.Mis Go.Proofs.Ytdlcjcobfckncaa.Told Go.Proofs.Ytdlcjcobfckncaa.Rel Go.Proofs.Ytdlcjcobfckncaa.Req

theorem far2 {w : World} {b b' o : Nat} {v v0 v1 : Value} (h : w.cell? ⟨b', o, none⟩ = some v) (hb : b ≠ b') : ((w.setCell ⟨b, 0, none⟩ v0).setCell ⟨b, 1, none⟩ v1).cell? ⟨b', o, none⟩ = some v := by
  rw [World.cell?_setCell_far _ _ _ _ hb, World.cell?_setCell_far _ _ _ _ hb]
  exact h
theorem small_prod {n m : Nat} (hn : n ≤ 60) (hm : m ≤ 6) : n * (m + 1) ≤ 1048576 := by
  have h1 : n * (m + 1) ≤ 60 * 7 := Nat.mul_le_mul (by omega) (by omega)
  omega
theorem own_row {w : World} {base : Nat} {a : Option Addr} {n c : Nat} {zs : List Int} (h : w.ownsRow base 3 1 (.slice a n c) n (ints .i64 zs)) (hw : ∀ z ∈ zs, (Lit.int .i64 z).wf = true) : IsRow .i64 w a n c zs := by
  obtain ⟨a', c', e, hr⟩ := isRow_own h hw
  cases e
  exact hr
theorem rename_no {r : Rl} {x y : Int} (h : renameB r x y = false) : renameV r x y = ([], []) ∧ renameG r x y = false := by
  unfold renameV renameG
  rw [h]
  exact ⟨rfl, rfl⟩
theorem rename_yes {r : Rl} {x y : Int} (h : renameB r x y = true) : renameV r x y = tellV (renameN r x y) (renameL r x y) ∧ renameG r x y = tellG (renameN r x y) (renameL r x y) := by
  unfold renameV renameG
  rw [h]
  exact ⟨rfl, rfl⟩
theorem renameB_is (r : Rl) (x y : Int) : renameB r x y = (goodR r.1 r.2 && decide (x ∈ r.1) && !decide (y ∈ r.1) && Val.inB y 0 20) := by
  unfold renameB
  have e : ∀ z, decide (0 ≤ Lib.idxOf r.1 z) = decide (z ∈ r.1) := fun z => decide_eq_decide.2 (idx_nonneg _ _)
  rw [e, e]


end Go.Proofs.Ytdlcjcobfckncaa.Ol
