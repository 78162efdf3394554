/-
  Wrappers of GoodLocks.
-/
import Derived.Test.YtkondmnkmbdncaaLkc
namespace Go.Proofs.Ytkondmnkmbdncaa.Lkn
open Go.RowKit
open Go.Proofs.Ytkondmnkmbdncaa.Frame Go.Proofs.Ytkondmnkmbdncaa.Lkp
open Go.Proofs.Ytkondmnkmbdncaa.SLocks (D SIs)

theorem impl_GoodLocks (u0 u1 u2 : Value) (d : D) (w : World) (h : SIs w u0 u1 u2 d) : Calls Try.prog 22 #[.agg #[u0, u1, u2]] w fun e w' => e = .returned (.bool (goodK d)) ∧ Below w.heap.size w w' := by
  obtain ⟨a0, n0, c0, e0⟩ := Krl.lIs_slice h.1; subst e0
  obtain ⟨a1, n1, c1, e1⟩ := Krl.iIs_slice h.2.1; subst e1
  obtain ⟨a2, n2, c2, e2⟩ := Krl.iIs_slice h.2.2; subst e2
  exact Lkb.impl_Good a0 a1 a2 n0 c0 n1 c1 n2 c2 d w h
theorem spec_GoodLocks (u0 u1 u2 : Value) (d : D) (w : World) (h : SIs w u0 u1 u2 d) : Calls Try.prog 67 #[.agg #[u0, u1, u2]] w fun e w' => e = .returned (.bool (goodK d)) ∧ Below w.heap.size w w' := by
  obtain ⟨a0, n0, c0, e0⟩ := Krl.lIs_slice h.1; subst e0
  obtain ⟨a1, n1, c1, e1⟩ := Krl.iIs_slice h.2.1; subst e1
  obtain ⟨a2, n2, c2, e2⟩ := Krl.iIs_slice h.2.2; subst e2
  exact Lkc.spec_Good a0 a1 a2 n0 c0 n1 c1 n2 c2 d w h


end Go.Proofs.Ytkondmnkmbdncaa.Lkn
