/-
  From what a law is told of its arguments to the struct Locks. Written by gen/gen_open.py.
-/
import Derived.Test.YtkondmnkmbdncaaOpr
namespace Go.Proofs.Ytkondmnkmbdncaa.OLocks
open Go.ChangeShapes Go.WideShapes Go.ChangeAt Go.RowKit Go.Deep
open Go.Proofs.Ytkondmnkmbdncaa.Frame Go.Proofs.Ytkondmnkmbdncaa.Mem

set_option maxRecDepth 20000 in
theorem locks_of {H : Type} {enc : TypeId × Value → H} {W : World} {base : Nat} {v : Value} {d : DataW H} {p : List MemPlace}
    (hv : Value.okWide Try.prog W .any base 55 v) (h : DataW.Trod enc Try.prog W 0 (fun _ => true) true 55 v d p) : ∃ (a0 : Option Addr) (n0 : Nat) (c0 : Nat) (r0 : List Lls.LV) (a1 : Option Addr) (n1 : Nat) (c1 : Nat) (r1 : List Int) (a2 : Option Addr) (n2 : Nat) (c2 : Nat) (r2 : List Int), v = .agg #[.slice a0 n0 c0, .slice a1 n1 c1, .slice a2 n2 c2] ∧ Lls.IsLs W a0 n0 c0 r0 ∧ IsRow .i64 W a1 n1 c1 r1 ∧ IsRow .i64 W a2 n2 c2 r2 := by
  obtain ⟨v0, v1, v2, y0, y1, y2, m, rfl, rfl, rfl, h0, h1, h2⟩ := Joins.open_agg3 Try.underlying55 (by kernel_rfl) (by kernel_rfl) hv h
  obtain ⟨a0, n0, c0, r0, rfl, f0⟩ := Opr.ls_of Try.underlying23 (by kernel_rfl) Try.underlying24 Try.underlying3 (by kernel_rfl) h0
  obtain ⟨a1, n1, c1, r1, rfl, f1⟩ := Opr.ints_of Try.underlying24 Try.underlying3 (by kernel_rfl) h1
  obtain ⟨a2, n2, c2, r2, rfl, f2⟩ := Opr.ints_of Try.underlying24 Try.underlying3 (by kernel_rfl) h2
  exact ⟨a0, n0, c0, r0, a1, n1, c1, r1, a2, n2, c2, r2, rfl, f0, f1, f2⟩


end Go.Proofs.Ytkondmnkmbdncaa.OLocks
