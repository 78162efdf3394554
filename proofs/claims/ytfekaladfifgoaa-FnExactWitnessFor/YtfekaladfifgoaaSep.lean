/-
  The walk's word for a call that is told by one of its arguments; and: where the orders of a drawn statement with a struct's result come together.
-/
import Derived.Test.YtfekaladfifgoaaFrame
import Derived.Test.YtfekaladfifgoaaKrl
import Derived.Sort.AtCall
namespace Go.Proofs.Ytfekaladfifgoaa.Sep
open Go.ChangeShapes Go.WideShapes Go.ChangeAt Go.RowKit

/-- What is known of a statement that is found only on the way: it follows of F. The arguments: the three relations' slices, the world, the result's box. -/
structure Later (F : Option Addr → Nat → Nat → Option Addr → Nat → Nat → World → Nat → Prop) (M : Option Addr → Nat → Nat → Option Addr → Nat → Nat → Option Addr → Nat → Nat → Option Addr → Nat → Nat → Option Addr → Nat → Nat → Option Addr → Nat → Nat → World → Nat → Prop) : Prop where
  out : ∀ a1 a2 a3 a4 a5 a6 b1 b2 b3 b4 b5 b6 c1 c2 c3 c4 c5 c6 W k, F c1 c2 c3 c4 c5 c6 W k → M a1 a2 a3 a4 a5 a6 b1 b2 b3 b4 b5 b6 c1 c2 c3 c4 c5 c6 W k

/-- What all orders leave to be shown is shown once. -/
theorem later {G : Prop} (F : Option Addr → Nat → Nat → Option Addr → Nat → Nat → World → Nat → Prop) {M : Option Addr → Nat → Nat → Option Addr → Nat → Nat → Option Addr → Nat → Nat → Option Addr → Nat → Nat → Option Addr → Nat → Nat → Option Addr → Nat → Nat → World → Nat → Prop} (k : Later F M → G)
    (pf : ∀ a1 a2 a3 a4 a5 a6 b1 b2 b3 b4 b5 b6 c1 c2 c3 c4 c5 c6 W k, F c1 c2 c3 c4 c5 c6 W k → M a1 a2 a3 a4 a5 a6 b1 b2 b3 b4 b5 b6 c1 c2 c3 c4 c5 c6 W k) : G := k ⟨pf⟩

/-- The result and its box, somewhere behind D. -/
def Made (D : World) (r : Rel.Rl) (a : Option Addr) (n c : Nat) (a' : Option Addr) (n' c' : Nat) (W : World) (k : Nat) : Prop :=
  Below D.heap.size D W ∧ (W.cell? ⟨k, 0, none⟩ = some (.slice a n c) ∧ W.cell? ⟨k, 1, none⟩ = some (.slice a' n' c')) ∧
    ∃ lo hi, Krl.QOwn W lo hi (.slice a n c) (.slice a' n' c') r ∧ D.heap.size ≤ lo ∧ lo ≤ hi ∧ hi ≤ W.heap.size ∧ (k < lo ∨ hi ≤ k) ∧ D.heap.size ≤ k ∧ k < W.heap.size

/-- The box is made behind the call. -/
theorem made_new {D V w : World} {r : Rel.Rl} {a : Option Addr} {n c : Nat} {a' : Option Addr} {n' c' : Nat} (T : TypeId) (hD : Below D.heap.size D w) (ho : Krl.QOwn w V.heap.size w.heap.size (.slice a n c) (.slice a' n' c') r)
    (hV : D.heap.size ≤ V.heap.size) (hb : V.heap.size ≤ w.heap.size) : Made D r a n c a' n' c' (w.alloc (.cells #[.slice a n c, .slice a' n' c'] T)) w.heap.size := by
  refine ⟨hD.alloc hD.size _, ⟨by rw [World.cell?_alloc_at _ _ _ _ rfl]; rfl, by rw [World.cell?_alloc_at _ _ _ _ rfl]; rfl⟩, _, _, Krl.qOwn_below ho ((Below.refl _ _).alloc (Nat.le_refl _) _), hV, hb, ?_, Or.inr (Nat.le_refl _), hD.size, ?_⟩ <;> simp

/-- The box was made ahead of the call. -/
theorem made_set {D V w : World} {r : Rel.Rl} {a : Option Addr} {n c : Nat} {a' : Option Addr} {n' c' : Nat} {k : Nat} {v v' : Value} (hD : Below D.heap.size D w) (ho : Krl.QOwn w V.heap.size w.heap.size (.slice a n c) (.slice a' n' c') r)
    (hV : D.heap.size ≤ V.heap.size) (hb : V.heap.size ≤ w.heap.size) (h0 : w.cell? ⟨k, 0, none⟩ = some v) (h1 : w.cell? ⟨k, 1, none⟩ = some v') (hk : D.heap.size ≤ k) (hkV : k < V.heap.size) :
    Made D r a n c a' n' c' ((w.setCell ⟨k, 0, none⟩ (.slice a n c)).setCell ⟨k, 1, none⟩ (.slice a' n' c')) k := by
  have hs : ((w.setCell ⟨k, 0, none⟩ (.slice a n c)).setCell ⟨k, 1, none⟩ (.slice a' n' c')).heap.size = w.heap.size := by simp [World.setCell]
  refine ⟨(hD.setCell (p := ⟨k, 0, none⟩) hk _).setCell (p := ⟨k, 1, none⟩) hk _, ⟨?_, ?_⟩, _, _, Krl.qOwn_set (Krl.qOwn_set ho 0 _ hkV) 1 _ hkV, hV, hb, by rw [hs]; exact Nat.le_refl _, Or.inl hkV, hk, by rw [hs]; omega⟩
  · rw [World.cell?_setCell_other _ _ _ _ (by simp)]; exact World.cell?_setCell_same _ _ _ h0
  · exact World.cell?_setCell_same _ _ _ ((World.cell?_setCell_other _ _ _ _ (by simp)).trans h1)


end Go.Proofs.Ytfekaladfifgoaa.Sep
