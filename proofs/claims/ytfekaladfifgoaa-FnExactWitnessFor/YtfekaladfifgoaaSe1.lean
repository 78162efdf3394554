/-
  Where the orders of a drawn statement come together that converts a list and a struct of two lists and tells a relation.
-/
import Derived.Test.YtfekaladfifgoaaSep
namespace Go.Proofs.Ytfekaladfifgoaa.Se1
open Go.RowKit

/-- What is known of a statement that is found only on the way: it follows of F. The arguments: the list, the struct's slices, the result's slices, the world, the result's box. -/
structure Later1 (F : Option Addr → Nat → Nat → Option Addr → Nat → Nat → World → Nat → Prop) (M : Value → Option Addr → Nat → Nat → Option Addr → Nat → Nat → Option Addr → Nat → Nat → Option Addr → Nat → Nat → World → Nat → Prop) : Prop where
  out : ∀ u b1 b2 b3 b4 b5 b6 c1 c2 c3 c4 c5 c6 W k, F c1 c2 c3 c4 c5 c6 W k → M u b1 b2 b3 b4 b5 b6 c1 c2 c3 c4 c5 c6 W k

theorem later1 {G : Prop} (F : Option Addr → Nat → Nat → Option Addr → Nat → Nat → World → Nat → Prop) {M : Value → Option Addr → Nat → Nat → Option Addr → Nat → Nat → Option Addr → Nat → Nat → Option Addr → Nat → Nat → World → Nat → Prop} (k : Later1 F M → G)
    (pf : ∀ u b1 b2 b3 b4 b5 b6 c1 c2 c3 c4 c5 c6 W k, F c1 c2 c3 c4 c5 c6 W k → M u b1 b2 b3 b4 b5 b6 c1 c2 c3 c4 c5 c6 W k) : G := k ⟨pf⟩


end Go.Proofs.Ytfekaladfifgoaa.Se1
