/-
  What a drawn statement leaves of the world that it began in: steps. It speaks of no program.
-/
import Derived.Test.YtekheacbmbbpmaaMem
namespace Go.Proofs.Ytekheacbmbbpmaa.Ivb
open Go.RowKit
open Go.Proofs.Ytekheacbmbbpmaa.Frame Go.Proofs.Ytekheacbmbbpmaa.Mem

theorem bw_refl (D : World) : Below D.heap.size D D := Below.refl _ _
theorem bw_set {D W : World} (b i : Nat) (v : Value) (hb : D.heap.size ≤ b) (h : Below D.heap.size D W) : Below D.heap.size D (W.setCell ⟨b, i, none⟩ v) := h.setCell hb _
theorem bw_made {D W : World} (o : Obj) (h : Below D.heap.size D W) : Below D.heap.size D (W.alloc o) := h.alloc h.size _
theorem bw_drew {D W : World} (h : Below D.heap.size D W) : Below D.heap.size D W.drew := h.drew
theorem bw_call {D W W' : World} (h : Below D.heap.size D W) (hb : Below W.heap.size W W') : Below D.heap.size D W' := Frame.next h hb h.size

theorem far2 {W : World} {b b' o : Nat} {v v0 v1 : Value} (h : W.cell? ⟨b', o, none⟩ = some v) (hb : b ≠ b') : ((W.setCell ⟨b, 0, none⟩ v0).setCell ⟨b, 1, none⟩ v1).cell? ⟨b', o, none⟩ = some v := by
  rw [World.cell?_setCell_far _ _ _ _ hb, World.cell?_setCell_far _ _ _ _ hb]
  exact h


end Go.Proofs.Ytekheacbmbbpmaa.Ivb
