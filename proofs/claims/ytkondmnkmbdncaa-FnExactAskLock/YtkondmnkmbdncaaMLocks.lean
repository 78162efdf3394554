/-
  Where the result of a drawn statement, a struct Locks, and its box lie when all its orders come together. Written by gen/gen_made.py. It speaks of no program but for the struct's own text.
-/
import Derived.Test.YtkondmnkmbdncaaSLocks
import Derived.Sort.AtCall
namespace Go.Proofs.Ytkondmnkmbdncaa.MLocks
open Go.RowKit
open Go.Proofs.Ytkondmnkmbdncaa.Frame Go.Proofs.Ytkondmnkmbdncaa.Mem

/-- The result and its box, somewhere behind D. -/
def Made (D : World) (r : SLocks.D) (a0 : Option Addr) (n0 c0 : Nat) (a1 : Option Addr) (n1 c1 : Nat) (a2 : Option Addr) (n2 c2 : Nat) (W : World) (k : Nat) : Prop :=
  Below D.heap.size D W ∧ (W.cell? ⟨k, 0, none⟩ = some (.slice a0 n0 c0) ∧ W.cell? ⟨k, 1, none⟩ = some (.slice a1 n1 c1) ∧ W.cell? ⟨k, 2, none⟩ = some (.slice a2 n2 c2)) ∧
    ∃ lo hi, SLocks.SOwn W lo hi (.slice a0 n0 c0) (.slice a1 n1 c1) (.slice a2 n2 c2) r ∧ D.heap.size ≤ lo ∧ lo ≤ hi ∧ hi ≤ W.heap.size ∧ (k < lo ∨ hi ≤ k) ∧ D.heap.size ≤ k ∧ k < W.heap.size

/-- The box is made behind the call. -/
theorem made_new {D V w : World} {r : SLocks.D} {a0 : Option Addr} {n0 c0 : Nat} {a1 : Option Addr} {n1 c1 : Nat} {a2 : Option Addr} {n2 c2 : Nat} (T : TypeId) (hD : Below D.heap.size D w) (ho : SLocks.SOwn w V.heap.size w.heap.size (.slice a0 n0 c0) (.slice a1 n1 c1) (.slice a2 n2 c2) r)
    (hV : D.heap.size ≤ V.heap.size) (hb : V.heap.size ≤ w.heap.size) : Made D r a0 n0 c0 a1 n1 c1 a2 n2 c2 (w.alloc (.cells #[.slice a0 n0 c0, .slice a1 n1 c1, .slice a2 n2 c2] T)) w.heap.size := by
  refine ⟨hD.alloc hD.size _, ⟨by rw [World.cell?_alloc_at _ _ _ _ rfl]; rfl, by rw [World.cell?_alloc_at _ _ _ _ rfl]; rfl, by rw [World.cell?_alloc_at _ _ _ _ rfl]; rfl⟩, _, _, SLocks.sOwn_below ho ((Below.refl _ _).alloc (Nat.le_refl _) _), hV, hb, ?_, Or.inr (Nat.le_refl _), hD.size, ?_⟩ <;> simp

/-- The box was made ahead of the call. -/
theorem made_set {D V w : World} {r : SLocks.D} {a0 : Option Addr} {n0 c0 : Nat} {a1 : Option Addr} {n1 c1 : Nat} {a2 : Option Addr} {n2 c2 : Nat} {k : Nat} {v0 v1 v2 : Value} (hD : Below D.heap.size D w) (ho : SLocks.SOwn w V.heap.size w.heap.size (.slice a0 n0 c0) (.slice a1 n1 c1) (.slice a2 n2 c2) r)
    (hV : D.heap.size ≤ V.heap.size) (hb : V.heap.size ≤ w.heap.size) (h0 : w.cell? ⟨k, 0, none⟩ = some v0) (h1 : w.cell? ⟨k, 1, none⟩ = some v1) (h2 : w.cell? ⟨k, 2, none⟩ = some v2) (hk : D.heap.size ≤ k) (hkV : k < V.heap.size) :
    Made D r a0 n0 c0 a1 n1 c1 a2 n2 c2 (((w.setCell ⟨k, 0, none⟩ (.slice a0 n0 c0)).setCell ⟨k, 1, none⟩ (.slice a1 n1 c1)).setCell ⟨k, 2, none⟩ (.slice a2 n2 c2)) k := by
  have hs : (((w.setCell ⟨k, 0, none⟩ (.slice a0 n0 c0)).setCell ⟨k, 1, none⟩ (.slice a1 n1 c1)).setCell ⟨k, 2, none⟩ (.slice a2 n2 c2)).heap.size = w.heap.size := by simp [World.setCell]
  refine ⟨(((hD.setCell (p := ⟨k, 0, none⟩) hk _).setCell (p := ⟨k, 1, none⟩) hk _).setCell (p := ⟨k, 2, none⟩) hk _), ⟨?_, ?_, ?_⟩, _, _, (SLocks.sOwn_set (SLocks.sOwn_set (SLocks.sOwn_set ho 0 _ hkV) 1 _ hkV) 2 _ hkV), hV, hb, by rw [hs]; exact Nat.le_refl _, Or.inl hkV, hk, by rw [hs]; omega⟩
  · rw [World.cell?_setCell_other _ _ _ _ (by simp)]; rw [World.cell?_setCell_other _ _ _ _ (by simp)]; exact World.cell?_setCell_same _ _ _ h0
  · rw [World.cell?_setCell_other _ _ _ _ (by simp)]; exact World.cell?_setCell_same _ _ _ ((World.cell?_setCell_other _ _ _ _ (by simp)).trans h1)
  · exact World.cell?_setCell_same _ _ _ ((World.cell?_setCell_other _ _ _ _ (by simp)).trans ((World.cell?_setCell_other _ _ _ _ (by simp)).trans h2))


end Go.Proofs.Ytkondmnkmbdncaa.MLocks
