/-
  The first bad list of columns, in the model: contracts of l6Bad, BadIn.
-/
import Derived.Test.YtekheacbmbbpmaaBsp
import Derived.Test.YtekheacbmbbpmaaSpy
namespace Go.Proofs.Ytekheacbmbbpmaa.Bsq
open Go.RowKit
open Go.Proofs.Ytekheacbmbbpmaa.Frame Go.Proofs.Ytekheacbmbbpmaa.Mem Go.Proofs.Ytekheacbmbbpmaa.Ints Go.Proofs.Ytekheacbmbbpmaa.Kep Go.Proofs.Ytekheacbmbbpmaa.Lls Go.Proofs.Ytekheacbmbbpmaa.Mis Go.Proofs.Ytekheacbmbbpmaa.Dls Go.Proofs.Ytekheacbmbbpmaa.Dlk Go.Proofs.Ytekheacbmbbpmaa.Csa Go.Proofs.Ytekheacbmbbpmaa.Csb Go.Proofs.Ytekheacbmbbpmaa.Csd Go.Proofs.Ytekheacbmbbpmaa.Csf Go.Proofs.Ytekheacbmbbpmaa.Csg Go.Proofs.Ytekheacbmbbpmaa.Ssc Go.Proofs.Ytekheacbmbbpmaa.Spx Go.Proofs.Ytekheacbmbbpmaa.Spy Go.Proofs.Ytekheacbmbbpmaa.Bpu Go.Proofs.Ytekheacbmbbpmaa.Bsp
open Go.Proofs.Ytekheacbmbbpmaa.Rel hiding Ll
open Go.Proofs.Ytekheacbmbbpmaa.Cpu hiding Dp

/-- A box that holds no sentence. -/
structure Nob (w : World) (b : Nat) : Prop where
  c0 : w.cell? ⟨b, 0, none⟩ = some (.slice none 0 0)
  c1 : w.cell? ⟨b, 1, none⟩ = some (.slice none 0 0)
  f0 : w.frozen? ⟨b, 0, none⟩ = false
  f1 : w.frozen? ⟨b, 1, none⟩ = false
theorem Nob.below {w w' : World} {b : Nat} (h : Nob w b) (hb : Below w.heap.size w w') : Nob w' b :=
  ⟨Frame.held_cell hb h.c0, Frame.held_cell hb h.c1, (hb.frozen (p := ⟨b, 0, none⟩) (Frame.cell_lt h.c0)).trans h.f0, (hb.frozen (p := ⟨b, 1, none⟩) (Frame.cell_lt h.c1)).trans h.f1⟩
theorem Nob.made (w : World) (t : TypeId) : Nob (w.alloc (.cells #[.slice none 0 0, .slice none 0 0] t)) w.heap.size := by
  refine ⟨?_, ?_, ?_, ?_⟩ <;> go_simp
/-- What a way that tells a sentence tells. -/
def DepR (d : Dp) (ok : Bool) (w : World) (e : Ending) (w' : World) : Prop := ∃ ua un uc ta tn tc, e = .returned (.tuple #[.agg #[.slice ua un uc, .slice ta tn tc], .bool ok]) ∧ EOwn w' w.heap.size w'.heap.size (.slice ua un uc) (.slice ta tn tc) d ∧ Below w.heap.size w w'
theorem eOwn_none (w : World) (lo hi : Nat) : EOwn w lo hi (.slice none 0 0) (.slice none 0 0) ([], []) := ⟨iOwn_nil _ _ _, iOwn_nil _ _ _, fun x y hx _ => by cases hx⟩
theorem depR_no {w w1 : World} {b : Nat} {v0 v1 : Value} (hb : w.heap.size ≤ b) (hB : Below w.heap.size w w1) : DepR ([], []) false w (.returned (.tuple #[.agg #[.slice none 0 0, .slice none 0 0], .bool false])) ((w1.setCell ⟨b, 0, none⟩ v0).setCell ⟨b, 1, none⟩ v1) :=
  ⟨_, _, _, _, _, _, rfl, eOwn_none _ _ _, (hB.setCell hb _).setCell hb _⟩
theorem depR_yes {w w1 : World} {d : Dp} {b lo : Nat} {ua ta : Option Addr} {un uc tn tc : Nat} {v0 v1 : Value} (h : EOwn w1 lo w1.heap.size (.slice ua un uc) (.slice ta tn tc) d) (hb : b < lo) (hw : w.heap.size ≤ b) (hB : Below w.heap.size w w1) : DepR d true w (.returned (.tuple #[.agg #[.slice ua un uc, .slice ta tn tc], .bool true])) ((w1.setCell ⟨b, 0, none⟩ v0).setCell ⟨b, 1, none⟩ v1) :=
  ⟨_, _, _, _, _, _, rfl, eOwn_wide (eOwn_set (eOwn_set h _ _ hb) _ _ hb) (by omega) (by simp), (hB.setCell hw _).setCell hw _⟩


end Go.Proofs.Ytekheacbmbbpmaa.Bsq
