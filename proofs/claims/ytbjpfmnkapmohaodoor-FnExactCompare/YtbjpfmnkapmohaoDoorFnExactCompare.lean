/-
  Proved: at every kind and every two values the law FnExactCompare returns true, and its arguments read afterwards as they did; the package table that it reads starts as the program's text lays it (the card ties it).
-/
import Derived.Test.YtbjpfmnkapmohaoDoorFrame
import Derived.Test.YtbjpfmnkapmohaoDoorCmp
import Derived.Test.YtbjpfmnkapmohaoDoorCards
import Derived.Test.YtbjpfmnkapmohaoDoorTie
import Derived.LaidMore
namespace Go.Proofs.YtbjpfmnkapmohaoDoor.fnExactCompare
open Go.ChangeShapes Go.WideShapes Go.ChangeAt Go.RowKit

theorem own : ownKnob Tryd.prog.godebug = none := by kernel_rfl
theorem laidOut : laidOutB Tryd.prog = true := by kernel_rfl

theorem table0 {W : World} (h : laidMetH Tryd.prog Rows.fnExactCompareRow.laid W) : Cmp.CmpTab W := by
  have c := Frame.tab2_cell (n := "loop.example/g00641/impl.toldByKind") (k := .i64) (zss := [[0, 2, 0], [2, 0, 0], [0, 0, 2]]) (g := 3) (t := 35) (e := 34) (u := 3) (m := 3) (r := 3) h (by kernel_rfl) (by simp [Rows.fnExactCompareRow, Rows.laid_loop_example_g00641_impl_toldByKind, Lib.tabData])
    (by kernel_rfl) (by kernel_rfl) Tryd.underlying35 Tryd.underlying34 Tryd.underlying3 (by kernel_rfl) (by kernel_rfl)
  exact ⟨c 0 0 (by decide) (by decide) (by decide), c 0 1 (by decide) (by decide) (by decide), c 0 2 (by decide) (by decide) (by decide), c 1 0 (by decide) (by decide) (by decide), c 1 1 (by decide) (by decide) (by decide), c 1 2 (by decide) (by decide) (by decide), c 2 0 (by decide) (by decide) (by decide), c 2 1 (by decide) (by decide) (by decide), c 2 2 (by decide) (by decide) (by decide)⟩

theorem walk (k : Int) (ab : Bool) (an : Int) (bb : Bool) (bn : Int) (w : World) (_hk : (Lit.int .i64 k).wf = true) (_ha : (Lit.int .i64 an).wf = true) (_hb : (Lit.int .i64 bn).wf = true) (hT : Cmp.CmpTab w) :
    Calls Tryd.prog 6 #[.int .i64 k, .agg #[.bool ab, .int .i64 an], .agg #[.bool bb, .int .i64 bn]] w fun e w' => e = .returned (.bool true) ∧ Below w.heap.size w w' := by
  have HT : Hid (Cmp.CmpTab w) := hT
  clear hT
  go_enter Tryd.func6, Tryd.ntmps6
  go_wp2_with fail
  generalize hW : (w.alloc (Obj.cells #[Value.bool ab, Value.int IntKind.i64 an] 28)).alloc (Obj.cells #[Value.bool bb, Value.int IntKind.i64 bn] 28) = W
  have bW : Below w.heap.size w W := by rw [← hW]; exact Cmp.below2 _ _ _
  have sW : W.heap.size = w.heap.size + 2 := by rw [← hW]; simp
  have c0 : W.cell? ⟨w.heap.size, 0, none⟩ = some (.bool ab) := by rw [← hW]; simp
  have c1 : W.cell? ⟨w.heap.size, 1, none⟩ = some (.int .i64 an) := by rw [← hW]; simp
  have c2 : W.cell? ⟨w.heap.size + 1, 0, none⟩ = some (.bool bb) := by rw [← hW]; simp
  have c3 : W.cell? ⟨w.heap.size + 1, 1, none⟩ = some (.int .i64 bn) := by rw [← hW]; simp
  clear hW sW
  go_region_held3 (fun w' => Below W.heap.size W w' ∧ w'.cell? ⟨w.heap.size, 0, none⟩ = some (.bool ab) ∧ w'.cell? ⟨w.heap.size, 1, none⟩ = some (.int .i64 an) ∧ w'.cell? ⟨w.heap.size + 1, 0, none⟩ = some (.bool bb) ∧ w'.cell? ⟨w.heap.size + 1, 1, none⟩ = some (.int .i64 bn))
    (first | exact ⟨(Below.refl _ _).drew, c0, c1, c2, c3⟩ | exact (fun kb => ⟨kb, Frame.held_cell kb c0, Frame.held_cell kb c1, Frame.held_cell kb c2, Frame.held_cell kb c3⟩) (Frame.held_next ‹Below W.heap.size W _ ∧ _› hb))
    (first
      | (go_at_call 14; refine (Val.toValue _ _ _).mono ?_; rintro e w1 ⟨rfl, hb⟩)
      | (go_at_call 13; refine (Cmp.spec_Compare _ _ _ _ _ _).mono ?_; rintro e w1 ⟨rfl, hb⟩))
  obtain ⟨b1, d0, d1, d2, d3⟩ := ‹Below W.heap.size W w1 ∧ _›
  have b1' := Frame.next bW b1 bW.size
  clear c0 c1 c2 c3 b1 bW hb
  go_wp2_with fail
  go_region_held3 (fun w' => Below w1.heap.size w1 w' ∧ w'.cell? ⟨w.heap.size, 0, none⟩ = some (.bool ab) ∧ w'.cell? ⟨w.heap.size, 1, none⟩ = some (.int .i64 an) ∧ w'.cell? ⟨w.heap.size + 1, 0, none⟩ = some (.bool bb) ∧ w'.cell? ⟨w.heap.size + 1, 1, none⟩ = some (.int .i64 bn))
    (first | exact ⟨(Below.refl _ _).drew, d0, d1, d2, d3⟩ | exact (fun kb => ⟨kb, Frame.held_cell kb d0, Frame.held_cell kb d1, Frame.held_cell kb d2, Frame.held_cell kb d3⟩) (Frame.held_next ‹Below w1.heap.size w1 _ ∧ _› hb))
    (first
      | (go_at_call 14; refine (Val.toValue _ _ _).mono ?_; rintro e w2 ⟨rfl, hb⟩)
      | (go_at_call 15; refine (Cmp.impl_Compare _ _ _ _ _ _ ?_).mono ?_; exact HT.out.below (Frame.next b1' (And.left ‹Below w1.heap.size w1 _ ∧ _›) b1'.size); rintro e w2 ⟨rfl, hb⟩))
  have b2 := Frame.next b1' (And.left ‹Below w1.heap.size w1 _ ∧ _›) b1'.size
  go_wp2
  go_ret
  exact ⟨rfl, b2⟩

theorem contract (H : Type) (enc : TypeId × Value → H) (W : World) (base : Nat) (args : Array Value) (ds gs : List (DataW H)) (before : List MemPlace)
    (hval0 : ∀ (j : Nat) t v, Tryd.f6.params[j]? = some t → args[j]? = some v → Value.okWide Tryd.prog W .any base t v)
    (hW : DataW.Whole enc Tryd.prog Tryd.f6.params.toList Rows.fnExactCompareSpec.vars false W args.toList ds gs before) (hL : laidMetH Tryd.prog Rows.fnExactCompareRow.laid W) :
    Calls Tryd.prog 6 args W fun e W' => ∃ v, e = .returned v ∧ Rows.fnExactCompareSpec.post enc Tryd.prog Tryd.f6 false true false false W args v W' := by
  refine Frame.law_calls (tb := 4) laidOut (by kernel_rfl) (by kernel_rfl) (by kernel_rfl) Tryd.underlying4 hW (fun ds gs h1 h2 => ?_) ?_
  · rw [Tryd.params6] at h1
    match ds, gs, h1, h2 with
    | [_, _, _], [_], _, _ => rfl
  · obtain ⟨p, q, hA0, _, _, _, _⟩ := hW
    have hval : ∀ (j : Nat) t v, Tryd.f6.params[j]? = some t → args[j]? = some v → Value.okWide Tryd.prog W .any base t v := hval0
    have hA : DataW.TrodAll enc Tryd.prog W 0 (fun _ => true) true Tryd.f6.params.toList args.toList ds p := hA0
    rw [Tryd.params6] at hA hval
    obtain ⟨v0, vs0, d0, ds0, p0, q0, hargs, rfl, rfl, h0, r0⟩ := trodAll_cons hA
    obtain ⟨v1, vs1, d1, ds1, p1, q1, rfl, rfl, rfl, h1, r1⟩ := trodAll_cons r0
    obtain ⟨v2, vs2, d2, ds2, p2, q2, rfl, rfl, rfl, h2, r2⟩ := trodAll_cons r1
    obtain ⟨rfl, rfl, rfl⟩ := trodAll_nil r2
    obtain rfl : args = #[v0, v1, v2] := by cases args; simp_all
    obtain ⟨a0, rfl, rfl, rfl, w0⟩ := open_int Tryd.underlying3 (hval 0 3 v0 rfl rfl) h0
    obtain ⟨b1, n1, rfl, w1⟩ := Frame.value_of Tryd.underlying28 (by kernel_rfl) (by kernel_rfl) Tryd.underlying4 Tryd.underlying3 (hval 1 28 v1 rfl rfl) h1
    obtain ⟨b2, n2, rfl, w2⟩ := Frame.value_of Tryd.underlying28 (by kernel_rfl) (by kernel_rfl) Tryd.underlying4 Tryd.underlying3 (hval 2 28 v2 rfl rfl) h2
    exact walk a0 b1 n1 b2 n2 W w0 w1 w2 (table0 hL)

theorem laid_met (os : Os) : laidMetH Tryd.prog Rows.fnExactCompareRow.laid ((World.doorLaid Tryd.prog 400 os).forCall (fun _ _ => 0) ⟨#[], #[.int .i64 0, .agg #[.bool false, .int .i64 0], .agg #[.bool false, .int .i64 0]], []⟩).memory :=
  laidMetH_of_parts3 (fuel := 8) (laidMet_of_run' 8 (by kernel_rfl) (by kernel_rfl)) (by kernel_rfl) (by kernel_rfl)

set_option maxRecDepth 100000 in
theorem lifted (os : Os) (started : os.Started) (H : Type) (enc : TypeId × Value → H) (F : Stop.Interp) :
    ReturnsInHanded {} Tryd.checked os 6 .any ((OpenSpec.ofChange Rows.fnExactCompareSpec).preRow enc Tryd.prog Tryd.f6 Rows.fnExactCompareRow.domain false Rows.fnExactCompareRow.laid) (((OpenSpec.ofChange Rows.fnExactCompareSpec).at F).post enc Tryd.prog Tryd.f6 false true false false) := by
  obtain ⟨places, hx⟩ : ∃ places, DataW.whole enc Tryd.prog ((World.doorLaid Tryd.prog 400 os).forCall (fun _ _ => 0) ⟨#[], #[.int .i64 0, .agg #[.bool false, .int .i64 0], .agg #[.bool false, .int .i64 0]], []⟩).memory Tryd.f6.params.toList Rows.fnExactCompareSpec.vars false #[Value.int .i64 0, Value.agg #[.bool false, .int .i64 0], Value.agg #[.bool false, .int .i64 0]].toList 8 = some ([.lit (.int .i64 0), .agg [.lit (.bool false), .lit (.int .i64 0)], .agg [.lit (.bool false), .lit (.int .i64 0)]], [Rows.laid_loop_example_g00641_impl_toldByKind], places) := ⟨MemPlace.row ⟨3, 0, none⟩ 9, by kernel_rfl⟩
  refine returnsInHanded_of_row (C := Tryd.checked) (s := OpenSpec.ofChange Rows.fnExactCompareSpec) own started (by kernel_rfl) Tryd.func6
    (witness_row_at (enc := enc) (C := Tryd.checked) false (World.doorLaid Tryd.prog 400 os) #[.int .i64 0, .agg #[.bool false, .int .i64 0], .agg #[.bool false, .int .i64 0]] rfl (by kernel_rfl) (by kernel_rfl) (by kernel_rfl)
      (OpenSpec.preRow_of_cond 8 hx (by kernel_rfl) (fun k hk => by cases hk) (by kernel_rfl) (laid_met os))) ?_
  intro W base args ds gs before hval hW _ _ _ hL _ _
  exact contract H enc W base args ds gs before hval hW hL

theorem said : Rows.FnExactCompareSaid :=
  OpenClaim.holds_of_cond 6 Tryd.f6 rfl rfl rfl rfl rfl rfl rfl ⟨rfl, rfl, rfl, rfl, rfl⟩ rfl rfl rfl rfl rfl (by kernel_rfl) Tryd.func6 (by kernel_rfl)
    (of_decide_eq_true (by kernel_rfl)) (by unfold Func.isWrapper; first | (rw [if_pos (by decide +kernel)]; kernel_rfl) | (rw [if_neg (by decide +kernel)]; exact ⟨rfl, rfl⟩))
    (fun os started H enc _ F => by rw [OpenClaim.pre_eq_preRow]; exact lifted os started H enc F)

theorem plain (f : FuncId) (fn : Func) (hf : Tryd.pinned.checked.prog.funcNamed "loop.example/g00641/laws.FnExactCompare" = some f) (hfn : Tryd.pinned.checked.prog.funcs[f]? = some fn) :
    false = Tryd.pinned.checked.prog.looks [] ∧ ∀ (j : Nat) t, fn.params[j]? = some t → Tryd.pinned.checked.prog.wantsStandIn t = false := by
  obtain rfl : f = 6 := Option.some.inj ((show Tryd.prog.funcNamed "loop.example/g00641/laws.FnExactCompare" = some 6 by kernel_rfl).symm.trans hf) |>.symm
  obtain rfl : fn = Tryd.f6 := (Option.some.inj (Tryd.func6.symm.trans hfn)).symm
  refine ⟨by kernel_rfl, fun j t ht => ?_⟩
  have hm := Array.mem_of_getElem? ht
  have hall : (Tryd.f6.params.toList.all fun u => !Tryd.prog.wantsStandIn u) = true := by kernel_rfl
  exact (show Tryd.prog.wantsStandIn t = false by simpa using List.all_eq_true.1 hall t (by simpa using hm))

/-- The card. -/
theorem proved : Rows.FnExactCompareCardSaid :=
  Claim7.holds_tied_plain_at .later [] _ _ _ _ said (fun _ h => by cases h) (by kernel_rfl) (fun _ h => by cases h) fnExactCompare_row_tie rfl ⟨rfl, rfl⟩ (by kernel_rfl) rfl plain (by kernel_rfl)
#print axioms proved
end Go.Proofs.YtbjpfmnkapmohaoDoor.fnExactCompare
