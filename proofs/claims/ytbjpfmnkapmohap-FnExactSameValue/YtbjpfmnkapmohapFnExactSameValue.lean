/-
  Proved: at every two values the law FnExactSameValue returns true, and its arguments read afterwards as they did.
-/
import Derived.Test.YtbjpfmnkapmohapFrame
import Derived.Test.YtbjpfmnkapmohapSame
namespace Go.Proofs.Ytbjpfmnkapmohap.fnExactSameValue
open Go.ChangeShapes Go.WideShapes Go.ChangeAt Go.RowKit

theorem own : ownKnob Try.prog.godebug = none := by kernel_rfl
theorem laidOut : laidOutB Try.prog = true := by kernel_rfl

theorem walk (ab : Bool) (an : Int) (bb : Bool) (bn : Int) (w : World) (_ha : (Lit.int .i64 an).wf = true) (_hb : (Lit.int .i64 bn).wf = true) :
    Calls Try.prog 3 #[.agg #[.bool ab, .int .i64 an], .agg #[.bool bb, .int .i64 bn]] w fun e w' => e = .returned (.bool true) ∧ Below w.heap.size w w' := by
  go_enter Try.func3, Try.ntmps3
  go_wp2_with fail
  generalize hW : (w.alloc (Obj.cells #[Value.bool ab, Value.int IntKind.i64 an] 23)).alloc (Obj.cells #[Value.bool bb, Value.int IntKind.i64 bn] 23) = W
  have bW : Below w.heap.size w W := by rw [← hW]; exact Same.below2 _ _ _
  have sW : W.heap.size = w.heap.size + 2 := by rw [← hW]; simp
  have c0 : W.cell? ⟨w.heap.size, 0, none⟩ = some (.bool ab) := by rw [← hW]; simp
  have c1 : W.cell? ⟨w.heap.size, 1, none⟩ = some (.int .i64 an) := by rw [← hW]; simp
  have c2 : W.cell? ⟨w.heap.size + 1, 0, none⟩ = some (.bool bb) := by rw [← hW]; simp
  have c3 : W.cell? ⟨w.heap.size + 1, 1, none⟩ = some (.int .i64 bn) := by rw [← hW]; simp
  clear hW sW
  go_region_held3 (fun w' => Below W.heap.size W w' ∧ w'.cell? ⟨w.heap.size, 0, none⟩ = some (.bool ab) ∧ w'.cell? ⟨w.heap.size, 1, none⟩ = some (.int .i64 an) ∧ w'.cell? ⟨w.heap.size + 1, 0, none⟩ = some (.bool bb) ∧ w'.cell? ⟨w.heap.size + 1, 1, none⟩ = some (.int .i64 bn))
    (first | exact ⟨(Below.refl _ _).drew, c0, c1, c2, c3⟩ | exact (fun kb => ⟨kb, Frame.held_cell kb c0, Frame.held_cell kb c1, Frame.held_cell kb c2, Frame.held_cell kb c3⟩) (Frame.held_next ‹Below W.heap.size W _ ∧ _› hb))
    (first
      | (go_at_call 7; refine (Val.toValue _ _ _).mono ?_; rintro e w1 ⟨rfl, hb⟩)
      | (go_at_call 6; refine (Same.spec_SameValue _ _ _ _ _).mono ?_; rintro e w1 ⟨rfl, hb⟩))
  obtain ⟨b1, d0, d1, d2, d3⟩ := ‹Below W.heap.size W w1 ∧ _›
  have b1' := Frame.next bW b1 bW.size
  clear c0 c1 c2 c3 b1 bW hb
  go_wp2_with fail
  go_region_held3 (fun w' => Below w1.heap.size w1 w' ∧ w'.cell? ⟨w.heap.size, 0, none⟩ = some (.bool ab) ∧ w'.cell? ⟨w.heap.size, 1, none⟩ = some (.int .i64 an) ∧ w'.cell? ⟨w.heap.size + 1, 0, none⟩ = some (.bool bb) ∧ w'.cell? ⟨w.heap.size + 1, 1, none⟩ = some (.int .i64 bn))
    (first | exact ⟨(Below.refl _ _).drew, d0, d1, d2, d3⟩ | exact (fun kb => ⟨kb, Frame.held_cell kb d0, Frame.held_cell kb d1, Frame.held_cell kb d2, Frame.held_cell kb d3⟩) (Frame.held_next ‹Below w1.heap.size w1 _ ∧ _› hb))
    (first
      | (go_at_call 7; refine (Val.toValue _ _ _).mono ?_; rintro e w2 ⟨rfl, hb⟩)
      | (go_at_call 8; refine (Same.impl_SameValue _ _ _ _ _).mono ?_; rintro e w2 ⟨rfl, hb⟩))
  have b2 := Frame.next b1' (And.left ‹Below w1.heap.size w1 _ ∧ _›) b1'.size
  go_wp2
  go_ret
  exact ⟨rfl, b2⟩

theorem contract (H : Type) (enc : TypeId × Value → H) (W : World) (base : Nat) (args : Array Value) (ds gs : List (DataW H)) (before : List MemPlace)
    (hval0 : ∀ (j : Nat) t v, Try.f3.params[j]? = some t → args[j]? = some v → Value.okWide Try.prog W .any base t v)
    (hW : DataW.Whole enc Try.prog Try.f3.params.toList Rows.fnExactSameValueSpec.vars false W args.toList ds gs before) :
    Calls Try.prog 3 args W fun e W' => ∃ v, e = .returned v ∧ Rows.fnExactSameValueSpec.post enc Try.prog Try.f3 false true false false W args v W' := by
  refine Frame.law_calls (tb := 4) laidOut (by kernel_rfl) (by kernel_rfl) (by kernel_rfl) Try.underlying4 hW (fun ds gs h1 h2 => ?_) ?_
  · rw [Try.params3] at h1
    match ds, gs, h1, h2 with
    | [_, _], [], _, _ => rfl
  · obtain ⟨p, q, hA0, _, _, _, _⟩ := hW
    have hval : ∀ (j : Nat) t v, Try.f3.params[j]? = some t → args[j]? = some v → Value.okWide Try.prog W .any base t v := hval0
    have hA : DataW.TrodAll enc Try.prog W 0 (fun _ => true) true Try.f3.params.toList args.toList ds p := hA0
    rw [Try.params3] at hA hval
    obtain ⟨v0, vs0, d0, ds0, p0, q0, hargs, rfl, rfl, h0, r0⟩ := trodAll_cons hA
    obtain ⟨v1, vs1, d1, ds1, p1, q1, rfl, rfl, rfl, h1, r1⟩ := trodAll_cons r0
    obtain ⟨rfl, rfl, rfl⟩ := trodAll_nil r1
    obtain rfl : args = #[v0, v1] := by cases args; simp_all
    obtain ⟨b0, n0, rfl, w0⟩ := Frame.value_of Try.underlying23 (by kernel_rfl) (by kernel_rfl) Try.underlying4 Try.underlying3 (hval 0 23 v0 rfl rfl) h0
    obtain ⟨b1, n1, rfl, w1⟩ := Frame.value_of Try.underlying23 (by kernel_rfl) (by kernel_rfl) Try.underlying4 Try.underlying3 (hval 1 23 v1 rfl rfl) h1
    exact walk b0 n0 b1 n1 W w0 w1

set_option maxRecDepth 100000 in
theorem lifted (os : Os) (started : os.Started) (H : Type) (enc : TypeId × Value → H) :
    ReturnsInHanded {} Try.checked os 3 .any (Rows.fnExactSameValueSpec.pre6 enc Try.prog Try.f3 Rows.fnExactSameValueRow.domain false) (Rows.fnExactSameValueSpec.post enc Try.prog Try.f3 false true false false) := by
  refine returnsInHanded_of_change (C := Try.checked) own started (by kernel_rfl) Try.func3
    (ChangeSpec.witness6 (enc := enc) (C := Try.checked) false ⟨#[], #[.agg #[.bool false, .int .i64 0], .agg #[.bool false, .int .i64 0]], []⟩ 8 (by kernel_rfl) (by kernel_rfl) (by kernel_rfl) (by kernel_rfl)) ?_
  intro W base args ds gs before hval hW _ _
  exact contract H enc W base args ds gs before hval hW

/-- The statement. -/
theorem proved : Rows.FnExactSameValueSaid :=
  OpenClaim.holds_of_wide 3 Try.f3 rfl rfl rfl rfl rfl rfl rfl ⟨rfl, rfl, rfl, rfl, rfl⟩ rfl rfl rfl rfl rfl (by kernel_rfl) Try.func3 (by kernel_rfl)
    (of_decide_eq_true (by kernel_rfl)) (by unfold Func.isWrapper; first | (rw [if_pos (by decide +kernel)]; kernel_rfl) | (rw [if_neg (by decide +kernel)]; exact ⟨rfl, rfl⟩))
    (fun os started H enc _ => lifted os started H enc)
#print axioms proved
end Go.Proofs.Ytbjpfmnkapmohap.fnExactSameValue
