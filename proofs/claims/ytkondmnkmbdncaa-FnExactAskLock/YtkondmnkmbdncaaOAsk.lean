/-
  From what a law is told of its arguments to the struct Ask. Written by gen/gen_open.py.
-/
import Derived.Test.YtkondmnkmbdncaaOpr
namespace Go.Proofs.Ytkondmnkmbdncaa.OAsk
open Go.ChangeShapes Go.WideShapes Go.ChangeAt Go.RowKit Go.Deep
open Go.Proofs.Ytkondmnkmbdncaa.Frame Go.Proofs.Ytkondmnkmbdncaa.Mem

set_option maxRecDepth 20000 in
theorem ask_of {H : Type} {enc : TypeId × Value → H} {W : World} {base : Nat} {v : Value} {d : DataW H} {p : List MemPlace}
    (hv : Value.okWide Try.prog W .any base 56 v) (h : DataW.Trod enc Try.prog W 0 (fun _ => true) true 56 v d p) : ∃ (z0 : Int) (z1 : Int) (z2 : Bool) (z3 : Bool), v = .agg #[.int .i64 z0, .int .i64 z1, .bool z2, .bool z3] ∧ (Lit.int .i64 z0).wf = true ∧ (Lit.int .i64 z1).wf = true := by
  obtain ⟨v0, v1, v2, v3, y0, y1, y2, y3, m, rfl, rfl, rfl, h0, h1, h2, h3⟩ := Joins.open_agg4 Try.underlying56 (by kernel_rfl) (by kernel_rfl) hv h
  obtain ⟨z0, e0, _, f0⟩ := DataW.trod_int Try.underlying3 h0
  simp at e0
  subst e0
  obtain ⟨z1, e1, _, f1⟩ := DataW.trod_int Try.underlying3 h1
  simp at e1
  subst e1
  obtain ⟨z2, e2, _⟩ := DataW.trod_bool Try.underlying4 h2
  simp at e2
  subst e2
  obtain ⟨z3, e3, _⟩ := DataW.trod_bool Try.underlying4 h3
  simp at e3
  subst e3
  exact ⟨z0, z1, z2, z3, rfl, f0, f1⟩


end Go.Proofs.Ytkondmnkmbdncaa.OAsk
