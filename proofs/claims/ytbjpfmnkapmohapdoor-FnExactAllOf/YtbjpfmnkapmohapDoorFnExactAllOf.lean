/-
  Proved: at every slice of integers the law FnExactAllOf returns true, and its argument reads afterwards as it did; the package table that it reads starts as the program's text lays it (the card ties it).
-/
import Derived.Test.YtbjpfmnkapmohapDoorFrame
import Derived.Test.YtbjpfmnkapmohapDoorAll
import Derived.Test.YtbjpfmnkapmohapDoorCards
import Derived.Test.YtbjpfmnkapmohapDoorTie
import Derived.LaidMore
namespace Go.Proofs.YtbjpfmnkapmohapDoor.fnExactAllOf
open Go.ChangeShapes Go.WideShapes Go.ChangeAt Go.RowKit

theorem own : ownKnob Tryd.prog.godebug = none := by kernel_rfl
theorem laidOut : laidOutB Tryd.prog = true := by kernel_rfl

theorem table0 {W : World} (h : laidMetH Tryd.prog Rows.fnExactAllOfRow.laid W) : Tr.AndTab W := by
  have c := Frame.tab2_cell (n := "loop.example/g00641/impl.bothTold") (k := .i64) (zss := [[0, 0, 0], [0, 1, 1], [0, 1, 2]]) (g := 0) (t := 34) (e := 33) (u := 3) (m := 3) (r := 3) h (by kernel_rfl) (by simp [Rows.fnExactAllOfRow, Rows.laid_loop_example_g00641_impl_bothTold, Lib.tabData])
    (by kernel_rfl) (by kernel_rfl) Tryd.underlying34 Tryd.underlying33 Tryd.underlying3 (by kernel_rfl) (by kernel_rfl)
  exact ⟨c 0 0 (by decide) (by decide) (by decide), c 0 1 (by decide) (by decide) (by decide), c 0 2 (by decide) (by decide) (by decide), c 1 0 (by decide) (by decide) (by decide), c 1 1 (by decide) (by decide) (by decide), c 1 2 (by decide) (by decide) (by decide), c 2 0 (by decide) (by decide) (by decide), c 2 1 (by decide) (by decide) (by decide), c 2 2 (by decide) (by decide) (by decide)⟩

set_option maxHeartbeats 400000 in
theorem walk (a : Option Addr) (n cap : Nat) (zs : List Int) (w : World) (h : Frame.IsRow .i64 w a n cap zs) (hT : Tr.AndTab w) :
    Calls Tryd.prog 3 #[.slice a n cap] w fun e w' => e = .returned (.bool true) ∧ Below w.heap.size w w' := by
  have hm := h.max
  have hf := h.fits
  unfold maxLen at hm
  have HR : Hid (Frame.IsRow .i64 w a n cap zs) := h
  have HT : Hid (Tr.AndTab w) := hT
  have HW : Hid (∀ z ∈ zs, (Lit.int .i64 z).wf = true) := h.wf
  clear h hT
  by_cases hn : n ≤ 1048576
  · go_enter Tryd.func3, Tryd.ntmps3
    go_wp2_with fail
    refine (Ints.toIntS _ _ _ _ _ HR.out hn).mono ?_
    rintro e w1 ⟨rfl, ho1, hb1⟩
    obtain ⟨a1, c1, e1, hr1⟩ := Mem.isRow_own ho1 HW.out
    cases e1
    have HR1 : Hid _ := hr1
    have HB1 : Hid _ := hb1
    clear ho1 hr1 hb1
    go_wp2_with fail
    refine (All.spec_AllOf _ _ _ _ _ HR1.out hn).mono ?_
    rintro e w' ⟨rfl, rfl⟩
    go_wp2_with fail
    refine (Ints.toIntS _ _ _ _ _ (Mem.IsRow.below HR.out HB1.out) hn).mono ?_
    rintro e w2 ⟨rfl, ho2, hb2⟩
    obtain ⟨a2, c2, e2, hr2⟩ := Mem.isRow_own ho2 HW.out
    cases e2
    have HR2 : Hid _ := hr2
    have HB2 : Hid (Below w.heap.size w w2) := Frame.next HB1.out hb2 HB1.out.size
    clear ho2 hr2 hb2
    go_wp2_with fail
    refine (All.impl_AllOf _ _ _ _ _ (HT.out.below HB2.out) HR2.out hn).mono ?_
    rintro e w' ⟨rfl, rfl⟩
    go_wp2_with fail
    refine (Ints.toIntS _ _ _ _ _ (Mem.IsRow.below HR.out HB2.out) hn).mono ?_
    rintro e w3 ⟨rfl, ho3, hb3⟩
    obtain ⟨a3, c3, e3, hr3⟩ := Mem.isRow_own ho3 HW.out
    cases e3
    have HR3 : Hid _ := hr3
    have HR2' : Hid _ := Mem.IsRow.below HR2.out hb3
    have HB3 : Hid (Below w.heap.size w w3) := Frame.next HB2.out hb3 HB2.out.size
    clear ho3 hr3 hb3
    go_wp2_with fail
    refine (Ints.eqIntS _ _ _ _ _ _ _ _ _ HR2'.out HR3.out hn hn).mono ?_
    rintro e w4 ⟨rfl, hb4⟩
    rw [decide_eq_true (Eq.refl zs)]
    have HB4 : Hid (Below w.heap.size w w4) := Frame.next HB3.out hb4 HB3.out.size
    clear hb4
    go_wp2
    go_ret
    exact ⟨rfl, HB4.out⟩
  · go_enter Tryd.func3, Tryd.ntmps3
    go_wp2
    go_ret
    exact ⟨rfl, Below.refl _ _⟩

theorem contract (H : Type) (enc : TypeId × Value → H) (W : World) (base : Nat) (args : Array Value) (ds gs : List (DataW H)) (before : List MemPlace)
    (hval0 : ∀ (j : Nat) t v, Tryd.f3.params[j]? = some t → args[j]? = some v → Value.okWide Tryd.prog W .any base t v)
    (hW : DataW.Whole enc Tryd.prog Tryd.f3.params.toList Rows.fnExactAllOfSpec.vars false W args.toList ds gs before) (hL : laidMetH Tryd.prog Rows.fnExactAllOfRow.laid W) :
    Calls Tryd.prog 3 args W fun e W' => ∃ v, e = .returned v ∧ Rows.fnExactAllOfSpec.post enc Tryd.prog Tryd.f3 false true false false W args v W' := by
  refine Frame.law_calls (tb := 4) laidOut (by kernel_rfl) (by kernel_rfl) (by kernel_rfl) Tryd.underlying4 hW (fun ds gs h1 h2 => ?_) ?_
  · rw [Tryd.params3] at h1
    match ds, gs, h1, h2 with
    | [_], [_], _, _ => rfl
  · obtain ⟨p, q, hA0, _, _, _, _⟩ := hW
    have hval : ∀ (j : Nat) t v, Tryd.f3.params[j]? = some t → args[j]? = some v → Value.okWide Tryd.prog W .any base t v := hval0
    have hA : DataW.TrodAll enc Tryd.prog W 0 (fun _ => true) true Tryd.f3.params.toList args.toList ds p := hA0
    rw [Tryd.params3] at hA hval
    obtain ⟨v0, vs0, d0, ds0, p0, q0, hargs, rfl, rfl, h0, r0⟩ := trodAll_cons hA
    obtain ⟨rfl, rfl, rfl⟩ := trodAll_nil r0
    obtain rfl : args = #[v0] := by cases args; simp_all
    obtain ⟨a0, len0, cap0, rfl⟩ := okWide_slice Tryd.underlying22 (hval 0 22 v0 rfl rfl)
    obtain ⟨z0, w0⟩ := Frame.isRow_of Tryd.underlying22 Tryd.underlying3 (by kernel_rfl) h0
    exact walk a0 len0 cap0 z0 W w0 (table0 hL)

theorem laid_met (os : Os) : laidMetH Tryd.prog Rows.fnExactAllOfRow.laid ((World.doorLaid Tryd.prog 400 os).forCall (fun _ _ => 0) ⟨#[], #[.slice none 0 0], []⟩).memory :=
  laidMetH_of_parts3 (fuel := 8) (laidMet_of_run' 8 (by kernel_rfl) (by kernel_rfl)) (by kernel_rfl) (by kernel_rfl)

set_option maxRecDepth 100000 in
theorem lifted (os : Os) (started : os.Started) (H : Type) (enc : TypeId × Value → H) (F : Stop.Interp) :
    ReturnsInHanded {} Tryd.checked os 3 .any ((OpenSpec.ofChange Rows.fnExactAllOfSpec).preRow enc Tryd.prog Tryd.f3 Rows.fnExactAllOfRow.domain false Rows.fnExactAllOfRow.laid) (((OpenSpec.ofChange Rows.fnExactAllOfSpec).at F).post enc Tryd.prog Tryd.f3 false true false false) := by
  obtain ⟨places, hx⟩ : ∃ places, DataW.whole enc Tryd.prog ((World.doorLaid Tryd.prog 400 os).forCall (fun _ _ => 0) ⟨#[], #[.slice none 0 0], []⟩).memory Tryd.f3.params.toList Rows.fnExactAllOfSpec.vars false #[Value.slice none 0 0].toList 8 = some ([.nil], [Rows.laid_loop_example_g00641_impl_bothTold], places) := ⟨MemPlace.row ⟨0, 0, none⟩ 9, by kernel_rfl⟩
  refine returnsInHanded_of_row (C := Tryd.checked) (s := OpenSpec.ofChange Rows.fnExactAllOfSpec) own started (by kernel_rfl) Tryd.func3
    (witness_row_at (enc := enc) (C := Tryd.checked) false (World.doorLaid Tryd.prog 400 os) #[.slice none 0 0] rfl (by kernel_rfl) (by kernel_rfl) (by kernel_rfl)
      (OpenSpec.preRow_of_cond 8 hx (by kernel_rfl) (fun k hk => by cases hk) (by kernel_rfl) (laid_met os))) ?_
  intro W base args ds gs before hval hW _ _ _ hL _ _
  exact contract H enc W base args ds gs before hval hW hL

theorem said : Rows.FnExactAllOfSaid :=
  OpenClaim.holds_of_cond 3 Tryd.f3 rfl rfl rfl rfl rfl rfl rfl ⟨rfl, rfl, rfl, rfl, rfl⟩ rfl rfl rfl rfl rfl (by kernel_rfl) Tryd.func3 (by kernel_rfl)
    (of_decide_eq_true (by kernel_rfl)) (by unfold Func.isWrapper; first | (rw [if_pos (by decide +kernel)]; kernel_rfl) | (rw [if_neg (by decide +kernel)]; exact ⟨rfl, rfl⟩))
    (fun os started H enc _ F => by rw [OpenClaim.pre_eq_preRow]; exact lifted os started H enc F)

theorem plain (f : FuncId) (fn : Func) (hf : Tryd.pinned.checked.prog.funcNamed "loop.example/g00641/laws.FnExactAllOf" = some f) (hfn : Tryd.pinned.checked.prog.funcs[f]? = some fn) :
    false = Tryd.pinned.checked.prog.looks [] ∧ ∀ (j : Nat) t, fn.params[j]? = some t → Tryd.pinned.checked.prog.wantsStandIn t = false := by
  obtain rfl : f = 3 := Option.some.inj ((show Tryd.prog.funcNamed "loop.example/g00641/laws.FnExactAllOf" = some 3 by kernel_rfl).symm.trans hf) |>.symm
  obtain rfl : fn = Tryd.f3 := (Option.some.inj (Tryd.func3.symm.trans hfn)).symm
  refine ⟨by kernel_rfl, fun j t ht => ?_⟩
  have hm := Array.mem_of_getElem? ht
  have hall : (Tryd.f3.params.toList.all fun u => !Tryd.prog.wantsStandIn u) = true := by kernel_rfl
  exact (show Tryd.prog.wantsStandIn t = false by simpa using List.all_eq_true.1 hall t (by simpa using hm))

/-- The card. -/
theorem proved : Rows.FnExactAllOfCardSaid :=
  Claim7.holds_tied_plain_at .later [] _ _ _ _ said (fun _ h => by cases h) (by kernel_rfl) (fun _ h => by cases h) fnExactAllOf_row_tie rfl ⟨rfl, rfl⟩ (by kernel_rfl) rfl plain (by kernel_rfl)
#print axioms proved

end Go.Proofs.YtbjpfmnkapmohapDoor.fnExactAllOf
