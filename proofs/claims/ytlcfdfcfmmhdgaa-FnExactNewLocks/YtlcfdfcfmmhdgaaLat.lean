/-
  Where the orders of a drawn region come together: what is left is told by a world and some blocks' numbers. It speaks of no program.
-/
import Derived.Test.YtlcfdfcfmmhdgaaMem
namespace Go.Proofs.Ytlcfdfcfmmhdgaa.Lat
open Go.RowKit
open Go.Proofs.Ytlcfdfcfmmhdgaa.Frame Go.Proofs.Ytlcfdfcfmmhdgaa.Mem

structure L3 (F M : World → Nat → Nat → Nat → Prop) : Prop where
  out : ∀ W a b c, F W a b c → M W a b c
/-- What all orders leave to be shown is shown once: three blocks. -/
theorem later3 {G : Prop} (F : World → Nat → Nat → Nat → Prop) {M : World → Nat → Nat → Nat → Prop} (k : L3 F M → G) (pf : ∀ W a b c, F W a b c → M W a b c) : G := k ⟨pf⟩
structure L2 (F M : World → Nat → Nat → Prop) : Prop where
  out : ∀ W a b, F W a b → M W a b
theorem later2 {G : Prop} (F : World → Nat → Nat → Prop) {M : World → Nat → Nat → Prop} (k : L2 F M → G) (pf : ∀ W a b, F W a b → M W a b) : G := k ⟨pf⟩
structure L1 (F M : World → Nat → Prop) : Prop where
  out : ∀ W a, F W a → M W a
theorem later1 {G : Prop} (F : World → Nat → Prop) {M : World → Nat → Prop} (k : L1 F M → G) (pf : ∀ W a, F W a → M W a) : G := k ⟨pf⟩

/-- A row of zero values, just made. -/
theorem made_own (V : World) (base : Nat) (e : TypeId) (z : Value) (n : Nat) (hb : base ≤ V.heap.size) (hn : n ≤ maxLen) (hz : (madeCells #[z] n).size = n) :
    (V.alloc (.cells (madeCells #[z] n) e)).ownsRow base e 1 (.slice (some ⟨V.heap.size, 0, none⟩) n n) n (madeCells #[z] n).toList := by
  refine ⟨by rw [Array.length_toList, hz]; omega, .inr ⟨V.heap.size, n, _, rfl, hb, heap_alloc_new V _, Nat.le_refl _, hn, by rw [hz]; omega, ?_⟩⟩
  rw [List.take_of_length_le]
  simp [hz]


end Go.Proofs.Ytlcfdfcfmmhdgaa.Lat
