/-
  Proved: at every argument the law FnExactCountWhere returns true, and its arguments read afterwards as they did.
-/
import Derived.Test.YtdlcjcobfckncaaDoorFrame
import Derived.Test.YtdlcjcobfckncaaDoorSfn
import Derived.Test.YtdlcjcobfckncaaDoorOpn
import Derived.Test.YtdlcjcobfckncaaDoorKnv
import Derived.Test.YtdlcjcobfckncaaDoorCards
import Derived.Test.YtdlcjcobfckncaaDoorTie
import Derived.LaidMore
namespace Go.Proofs.YtdlcjcobfckncaaDoor.fnExactCountWhere
open Go.ChangeShapes Go.WideShapes Go.ChangeAt Go.RowKit

theorem own : ownKnob Tryd.prog.godebug = none := by kernel_rfl
theorem laidOut : laidOutB Tryd.prog = true := by kernel_rfl

theorem table0 {W : World} (h : laidMetH Tryd.prog Rows.fnExactCountWhereRow.laid W) : Cmp.CmpTab W := by
  have c := Frame.tab2_cell (n := "loop.example/g00641/impl.toldByKind") (k := .i64) (zss := [[0, 2, 0], [2, 0, 0], [0, 0, 2]]) (g := 0) (t := 143) (e := 142) (u := 3) (m := 3) (r := 3) h (by kernel_rfl) (by simp [Rows.fnExactCountWhereRow, Rows.laid_loop_example_g00641_impl_toldByKind, Lib.tabData])
    (by kernel_rfl) (by kernel_rfl) Tryd.underlying143 Tryd.underlying142 Tryd.underlying3 (by kernel_rfl) (by kernel_rfl)
  exact ⟨c 0 0 (by decide) (by decide) (by decide), c 0 1 (by decide) (by decide) (by decide), c 0 2 (by decide) (by decide) (by decide), c 1 0 (by decide) (by decide) (by decide), c 1 1 (by decide) (by decide) (by decide), c 1 2 (by decide) (by decide) (by decide), c 2 0 (by decide) (by decide) (by decide), c 2 1 (by decide) (by decide) (by decide), c 2 2 (by decide) (by decide) (by decide)⟩

open Go.Proofs.YtdlcjcobfckncaaDoor.Kep

set_option maxRecDepth 100000 in
set_option maxHeartbeats 4000000 in
theorem walk (a0 : Option Addr) (n0 c0 : Nat) (vs0 : List (Bool × Int)) (i1 : Int) (b2 : Bool) (m2 : Int) (w : World) (h0 : Vals.IsVals w a0 n0 c0 vs0) (hf1 : (Lit.int .i64 i1).wf = true) (hf2 : (Lit.int .i64 m2).wf = true) (hTab : Cmp.CmpTab w) :
    Calls Tryd.prog 9 #[.slice a0 n0 c0, .int .i64 i1, .agg #[.bool b2, .int .i64 m2]] w fun e w' => e = .returned (.bool true) ∧ Below w.heap.size w w' := by
  have HR0 : Hid (Vals.IsVals w a0 n0 c0 vs0) := h0
  clear h0
  have HWF1 : Hid ((Lit.int .i64 i1).wf = true) := hf1
  clear hf1
  have HWF2 : Hid ((Lit.int .i64 m2).wf = true) := hf2
  clear hf2
  have HTab : Hid (Cmp.CmpTab w) := hTab
  clear hTab
  have B0 : Hid (Below w.heap.size w w) := Below.refl _ _
  have B1 : Hid (Below w.heap.size w (w.alloc (.cells #[.bool b2, .int .i64 m2] 73))) := B0.out.alloc (by simp; try omega) _
  have K2 : Hid ((w.alloc (.cells #[.bool b2, .int .i64 m2] 73)).cell? ⟨w.heap.size, 0, none⟩ = some (.bool b2) ∧ (w.alloc (.cells #[.bool b2, .int .i64 m2] 73)).cell? ⟨w.heap.size, 1, none⟩ = some (.int .i64 m2)) := by
    show _ ∧ _
    refine ⟨?_, ?_⟩ <;> rw [World.cell?_alloc_at _ _ _ _ (by simp)] <;> rfl
  have E3 : Hid ((w.alloc (.cells #[.bool b2, .int .i64 m2] 73)).heap.size = w.heap.size + 1) := by show _ = _; simp
  go_enter Tryd.func9, Tryd.ntmps9
  have cc4 : (w.alloc (.cells #[.bool b2, .int .i64 m2] 73)).cell? ⟨w.heap.size, 0, none⟩ = some (.bool b2) := K2.out.1
  have cc5 : (w.alloc (.cells #[.bool b2, .int .i64 m2] 73)).cell? ⟨w.heap.size, 1, none⟩ = some (.int .i64 m2) := K2.out.2
  go_wp2_with fail
  refine (Knv.v_sz a0 n0 c0 1048576 _ (Nat.le_trans HR0.out.fits HR0.out.max) (by omega) (by omega)).mono ?_
  rintro e w1 ⟨rfl, hb1⟩
  clear cc4 cc5
  have Z6 : Hid (w.heap.size + 1 ≤ w1.heap.size) := (by have hh := hb1.size; rw [E3.out] at hh; exact hh)
  have K7 : Hid (w1.cell? ⟨w.heap.size, 0, none⟩ = some (.bool b2) ∧ w1.cell? ⟨w.heap.size, 1, none⟩ = some (.int .i64 m2)) := ⟨(hb1.cell (p := ⟨w.heap.size, 0, none⟩) (Frame.cell_lt K2.out.1)).trans K2.out.1, (hb1.cell (p := ⟨w.heap.size, 1, none⟩) (Frame.cell_lt K2.out.2)).trans K2.out.2⟩
  have B8 : Hid (Below w.heap.size w w1) := Frame.next B1.out hb1 B1.out.size
  clear hb1
  by_cases hL1 : Rws.left 1048576 n0 < 0
  · go_wp2
    go_ret
    exact ⟨rfl, B8.out⟩
  · have ht0 : n0 ≤ 1048576 := by unfold Rws.left at hL1; split at hL1 <;> omega
    have A0 : Hid (Knv.VIs w (.slice a0 n0 c0) vs0) := ⟨_, _, _, rfl, HR0.out, ht0⟩
    have hB1 : Rws.left 1048576 n0 ≤ 1048576 := by unfold Rws.left; split <;> omega
    clear ht0
    generalize hG1 : Rws.left 1048576 n0 = L9 at hL1 hB1 ⊢
    clear hG1
    go_wp2_with fail
    have K10 : Hid ((w1.drew).cell? ⟨w.heap.size, 0, none⟩ = some (.bool b2) ∧ (w1.drew).cell? ⟨w.heap.size, 1, none⟩ = some (.int .i64 m2)) := ⟨(((Below.refl _ _).drew : Below w1.heap.size w1 w1.drew).cell (p := ⟨w.heap.size, 0, none⟩) (Frame.cell_lt K7.out.1)).trans K7.out.1, (((Below.refl _ _).drew : Below w1.heap.size w1 w1.drew).cell (p := ⟨w.heap.size, 1, none⟩) (Frame.cell_lt K7.out.2)).trans K7.out.2⟩
    have B11 : Hid (Below w.heap.size w w1.drew) := Frame.next B8.out ((Below.refl _ _).drew : Below w1.heap.size w1 w1.drew) B8.out.size
    have E12 : Hid (w1.drew.heap.size = w1.heap.size) := rfl
    have S13 : Hid ((w1.drew).cell? ⟨w.heap.size, 0, none⟩ = some (.bool b2) ∧ (w1.drew).cell? ⟨w.heap.size, 1, none⟩ = some (.int .i64 m2)) := ⟨K10.out.1, K10.out.2⟩
    go_region_held3 (fun w' => (w').cell? ⟨w.heap.size, 0, none⟩ = some (.bool b2) ∧ (w').cell? ⟨w.heap.size, 1, none⟩ = some (.int .i64 m2)) (first | exact S13.out | exact S19.out | exact S25.out | exact S29.out) (first | (go_at_call 41; refine (Knv.v_to (.slice a0 n0 c0) vs0 _ (Knv.vIs_below A0.out B11.out)).mono ?_; rintro e w2 ⟨u14, rfl, ho, hb2⟩; have O15 : Hid (Knv.VOwn w2 (w1.heap.size) (w2.heap.size) u14 vs0) := (by have hh := ho; rw [E12.out] at hh; exact hh); have Z16 : Hid (w1.heap.size ≤ w2.heap.size) := (by have hh := hb2.size; rw [E12.out] at hh; exact hh); have K17 : Hid (w2.cell? ⟨w.heap.size, 0, none⟩ = some (.bool b2) ∧ w2.cell? ⟨w.heap.size, 1, none⟩ = some (.int .i64 m2)) := ⟨(hb2.cell (p := ⟨w.heap.size, 0, none⟩) (Frame.cell_lt K10.out.1)).trans K10.out.1, (hb2.cell (p := ⟨w.heap.size, 1, none⟩) (Frame.cell_lt K10.out.2)).trans K10.out.2⟩; have B18 : Hid (Below w.heap.size w w2) := Frame.next B11.out hb2 B11.out.size; clear ho hb2; have S19 : Hid (w2.cell? ⟨w.heap.size, 0, none⟩ = some (.bool b2) ∧ w2.cell? ⟨w.heap.size, 1, none⟩ = some (.int .i64 m2)) := ⟨K17.out.1, K17.out.2⟩) | (go_at_call 50; refine (Val.toValue b2 m2 _).mono ?_; rintro e w3 ⟨rfl, hb3⟩; have Z21 : Hid (w2.heap.size ≤ w3.heap.size) := hb3.size; have O22 : Hid (Knv.VOwn w3 (w1.heap.size) (w2.heap.size) u14 vs0) := Knv.vOwn_below O15.out hb3; have K23 : Hid (w3.cell? ⟨w.heap.size, 0, none⟩ = some (.bool b2) ∧ w3.cell? ⟨w.heap.size, 1, none⟩ = some (.int .i64 m2)) := ⟨(hb3.cell (p := ⟨w.heap.size, 0, none⟩) (Frame.cell_lt K17.out.1)).trans K17.out.1, (hb3.cell (p := ⟨w.heap.size, 1, none⟩) (Frame.cell_lt K17.out.2)).trans K17.out.2⟩; have B24 : Hid (Below w.heap.size w w3) := Frame.next B18.out hb3 B18.out.size; clear hb3; have S25 : Hid (w3.cell? ⟨w.heap.size, 0, none⟩ = some (.bool b2) ∧ w3.cell? ⟨w.heap.size, 1, none⟩ = some (.int .i64 m2)) := ⟨K23.out.1, K23.out.2⟩) | (go_at_call 32; refine (Sfn.spec_CountWhere u14 vs0 i1 b2 m2 _ (Knv.vOwn_is O22.out)).mono ?_; rintro e w4 ⟨rfl, hb4⟩; have Z26 : Hid (w3.heap.size ≤ w4.heap.size) := hb4.size; have K27 : Hid (w4.cell? ⟨w.heap.size, 0, none⟩ = some (.bool b2) ∧ w4.cell? ⟨w.heap.size, 1, none⟩ = some (.int .i64 m2)) := ⟨(hb4.cell (p := ⟨w.heap.size, 0, none⟩) (Frame.cell_lt K23.out.1)).trans K23.out.1, (hb4.cell (p := ⟨w.heap.size, 1, none⟩) (Frame.cell_lt K23.out.2)).trans K23.out.2⟩; have B28 : Hid (Below w.heap.size w w4) := Frame.next B24.out hb4 B24.out.size; clear  hb4; have S29 : Hid (w4.cell? ⟨w.heap.size, 0, none⟩ = some (.bool b2) ∧ w4.cell? ⟨w.heap.size, 1, none⟩ = some (.int .i64 m2)) := ⟨K27.out.1, K27.out.2⟩))
    have cc31 : w4.cell? ⟨w.heap.size, 0, none⟩ = some (.bool b2) := K27.out.1
    have cc32 : w4.cell? ⟨w.heap.size, 1, none⟩ = some (.int .i64 m2) := K27.out.2
    go_wp2_with fail
    refine (Knv.v_to (.slice a0 n0 c0) vs0 _ (Knv.vIs_below A0.out B28.out)).mono ?_
    rintro e w5 ⟨u30, rfl, ho, hb5⟩
    clear cc31 cc32
    have O33 : Hid (Knv.VOwn w5 (w4.heap.size) (w5.heap.size) u30 vs0) := ho
    have Z34 : Hid (w4.heap.size ≤ w5.heap.size) := hb5.size
    have K35 : Hid (w5.cell? ⟨w.heap.size, 0, none⟩ = some (.bool b2) ∧ w5.cell? ⟨w.heap.size, 1, none⟩ = some (.int .i64 m2)) := ⟨(hb5.cell (p := ⟨w.heap.size, 0, none⟩) (Frame.cell_lt K27.out.1)).trans K27.out.1, (hb5.cell (p := ⟨w.heap.size, 1, none⟩) (Frame.cell_lt K27.out.2)).trans K27.out.2⟩
    have B36 : Hid (Below w.heap.size w w5) := Frame.next B28.out hb5 B28.out.size
    clear ho hb5
    have cc38 : w5.cell? ⟨w.heap.size, 0, none⟩ = some (.bool b2) := K35.out.1
    have cc39 : w5.cell? ⟨w.heap.size, 1, none⟩ = some (.int .i64 m2) := K35.out.2
    go_wp2_with fail
    refine (Val.toValue b2 m2 _).mono ?_
    rintro e w6 ⟨rfl, hb6⟩
    clear cc38 cc39
    have Z40 : Hid (w5.heap.size ≤ w6.heap.size) := hb6.size
    have O41 : Hid (Knv.VOwn w6 (w4.heap.size) (w5.heap.size) u30 vs0) := Knv.vOwn_below O33.out hb6
    have K42 : Hid (w6.cell? ⟨w.heap.size, 0, none⟩ = some (.bool b2) ∧ w6.cell? ⟨w.heap.size, 1, none⟩ = some (.int .i64 m2)) := ⟨(hb6.cell (p := ⟨w.heap.size, 0, none⟩) (Frame.cell_lt K35.out.1)).trans K35.out.1, (hb6.cell (p := ⟨w.heap.size, 1, none⟩) (Frame.cell_lt K35.out.2)).trans K35.out.2⟩
    have B43 : Hid (Below w.heap.size w w6) := Frame.next B36.out hb6 B36.out.size
    clear hb6
    have cc44 : w6.cell? ⟨w.heap.size, 0, none⟩ = some (.bool b2) := K42.out.1
    have cc45 : w6.cell? ⟨w.heap.size, 1, none⟩ = some (.int .i64 m2) := K42.out.2
    go_wp2_with fail
    refine (Sfn.impl_CountWhere u30 vs0 i1 b2 m2 _ (Knv.vOwn_is O41.out) (HTab.out.below B43.out)).mono ?_
    rintro e w7 ⟨rfl, hb7⟩
    clear cc44 cc45
    have Z46 : Hid (w6.heap.size ≤ w7.heap.size) := hb7.size
    have O47 : Hid (Knv.VOwn w7 (w4.heap.size) (w5.heap.size) u30 vs0) := Knv.vOwn_below O41.out hb7
    have K48 : Hid (w7.cell? ⟨w.heap.size, 0, none⟩ = some (.bool b2) ∧ w7.cell? ⟨w.heap.size, 1, none⟩ = some (.int .i64 m2)) := ⟨(hb7.cell (p := ⟨w.heap.size, 0, none⟩) (Frame.cell_lt K42.out.1)).trans K42.out.1, (hb7.cell (p := ⟨w.heap.size, 1, none⟩) (Frame.cell_lt K42.out.2)).trans K42.out.2⟩
    have B49 : Hid (Below w.heap.size w w7) := Frame.next B43.out hb7 B43.out.size
    clear  hb7
    have cc51 : w7.cell? ⟨w.heap.size, 0, none⟩ = some (.bool b2) := K48.out.1
    have cc52 : w7.cell? ⟨w.heap.size, 1, none⟩ = some (.int .i64 m2) := K48.out.2
    go_wp2_with fail
    refine (Knv.v_to (.slice a0 n0 c0) vs0 _ (Knv.vIs_below A0.out B49.out)).mono ?_
    rintro e w8 ⟨u50, rfl, ho, hb8⟩
    clear cc51 cc52
    have O53 : Hid (Knv.VOwn w8 (w7.heap.size) (w8.heap.size) u50 vs0) := ho
    have Z54 : Hid (w7.heap.size ≤ w8.heap.size) := hb8.size
    have O55 : Hid (Knv.VOwn w8 (w4.heap.size) (w5.heap.size) u30 vs0) := Knv.vOwn_below O47.out hb8
    have K56 : Hid (w8.cell? ⟨w.heap.size, 0, none⟩ = some (.bool b2) ∧ w8.cell? ⟨w.heap.size, 1, none⟩ = some (.int .i64 m2)) := ⟨(hb8.cell (p := ⟨w.heap.size, 0, none⟩) (Frame.cell_lt K48.out.1)).trans K48.out.1, (hb8.cell (p := ⟨w.heap.size, 1, none⟩) (Frame.cell_lt K48.out.2)).trans K48.out.2⟩
    have B57 : Hid (Below w.heap.size w w8) := Frame.next B49.out hb8 B49.out.size
    clear ho hb8
    have cc59 : w8.cell? ⟨w.heap.size, 0, none⟩ = some (.bool b2) := K56.out.1
    have cc60 : w8.cell? ⟨w.heap.size, 1, none⟩ = some (.int .i64 m2) := K56.out.2
    go_wp2_with fail
    refine (Knv.v_eq u30 u50 vs0 vs0 _ (Knv.vOwn_is O55.out) (Knv.vOwn_is O53.out)).mono ?_
    rintro e w9 ⟨rfl, hb9⟩
    clear cc59 cc60
    rw [decide_eq_true (Eq.refl (vs0))]
    have Z61 : Hid (w8.heap.size ≤ w9.heap.size) := hb9.size
    have O62 : Hid (Knv.VOwn w9 (w4.heap.size) (w5.heap.size) u30 vs0) := Knv.vOwn_below O55.out hb9
    have O63 : Hid (Knv.VOwn w9 (w7.heap.size) (w8.heap.size) u50 vs0) := Knv.vOwn_below O53.out hb9
    have K64 : Hid (w9.cell? ⟨w.heap.size, 0, none⟩ = some (.bool b2) ∧ w9.cell? ⟨w.heap.size, 1, none⟩ = some (.int .i64 m2)) := ⟨(hb9.cell (p := ⟨w.heap.size, 0, none⟩) (Frame.cell_lt K56.out.1)).trans K56.out.1, (hb9.cell (p := ⟨w.heap.size, 1, none⟩) (Frame.cell_lt K56.out.2)).trans K56.out.2⟩
    have B65 : Hid (Below w.heap.size w w9) := Frame.next B57.out hb9 B57.out.size
    clear hb9
    go_wp2
    go_ret
    exact ⟨rfl, B65.out⟩

set_option maxRecDepth 100000 in
theorem contract (H : Type) (enc : TypeId × Value → H) (W : World) (base : Nat) (args : Array Value) (ds gs : List (DataW H)) (before : List MemPlace)
    (hval0 : ∀ (j : Nat) t v, Tryd.f9.params[j]? = some t → args[j]? = some v → Value.okWide Tryd.prog W .any base t v)
    (hW : DataW.Whole enc Tryd.prog Tryd.f9.params.toList Rows.fnExactCountWhereSpec.vars false W args.toList ds gs before) (hL : laidMetH Tryd.prog Rows.fnExactCountWhereRow.laid W) :
    Calls Tryd.prog 9 args W fun e W' => ∃ v, e = .returned v ∧ Rows.fnExactCountWhereSpec.post enc Tryd.prog Tryd.f9 false true false false W args v W' := by
  refine Frame.law_calls (tb := 4) laidOut (by kernel_rfl) (by kernel_rfl) (by kernel_rfl) Tryd.underlying4 hW (fun ds gs h1 h2 => ?_) ?_
  · rw [Tryd.params9] at h1
    match ds, gs, h1, h2 with
    | [_, _, _], [_], _, _ => rfl
  · obtain ⟨p, q, hA0, _, _, _, _⟩ := hW
    have hval : ∀ (j : Nat) t v, Tryd.f9.params[j]? = some t → args[j]? = some v → Value.okWide Tryd.prog W .any base t v := hval0
    have hA : DataW.TrodAll enc Tryd.prog W 0 (fun _ => true) true Tryd.f9.params.toList args.toList ds p := hA0
    rw [Tryd.params9] at hA hval
    obtain ⟨v0, vs0, d0, ds0, p0, q0, hargs, rfl, rfl, h0, r0⟩ := trodAll_cons hA
    obtain ⟨v1, vs1, d1, ds1, p1, q1, rfl, rfl, rfl, h1, r1⟩ := trodAll_cons r0
    obtain ⟨v2, vs2, d2, ds2, p2, q2, rfl, rfl, rfl, h2, r2⟩ := trodAll_cons r1
    obtain ⟨rfl, rfl, rfl⟩ := trodAll_nil r2
    obtain rfl : args = #[v0, v1, v2] := by cases args; simp_all
    obtain ⟨a0, len0, cap0, rfl⟩ := okWide_slice Tryd.underlying67 (hval 0 67 v0 rfl rfl)
    obtain ⟨z0, w0⟩ := Opn.isVals_of h0
    obtain ⟨a1, rfl, rfl, rfl, w1⟩ := open_int Tryd.underlying3 (hval 1 3 v1 rfl rfl) h1
    obtain ⟨b2, n2, rfl, w2⟩ := Frame.value_of Tryd.underlying73 (by kernel_rfl) (by kernel_rfl) Tryd.underlying4 Tryd.underlying3 (hval 2 73 v2 rfl rfl) h2
    exact walk a0 len0 cap0 z0 a1 b2 n2 W w0 w1 w2 (table0 hL)

theorem laid_met (os : Os) : laidMetH Tryd.prog Rows.fnExactCountWhereRow.laid ((World.doorLaid Tryd.prog 400 os).forCall (fun _ _ => 0) ⟨#[], #[.slice none 0 0, .int .i64 0, .agg #[.bool false, .int .i64 0]], []⟩).memory :=
  laidMetH_of_parts3 (fuel := 8) (laidMet_of_run' 8 (by kernel_rfl) (by kernel_rfl)) (by kernel_rfl) (by kernel_rfl)

set_option maxRecDepth 100000 in
theorem lifted (os : Os) (started : os.Started) (H : Type) (enc : TypeId × Value → H) (F : Stop.Interp) :
    ReturnsInHanded {} Tryd.checked os 9 .any ((OpenSpec.ofChange Rows.fnExactCountWhereSpec).preRow enc Tryd.prog Tryd.f9 Rows.fnExactCountWhereRow.domain false Rows.fnExactCountWhereRow.laid) (((OpenSpec.ofChange Rows.fnExactCountWhereSpec).at F).post enc Tryd.prog Tryd.f9 false true false false) := by
  obtain ⟨places, hx⟩ : ∃ places, DataW.whole enc Tryd.prog ((World.doorLaid Tryd.prog 400 os).forCall (fun _ _ => 0) ⟨#[], #[.slice none 0 0, .int .i64 0, .agg #[.bool false, .int .i64 0]], []⟩).memory Tryd.f9.params.toList Rows.fnExactCountWhereSpec.vars false #[Value.slice none 0 0, Value.int .i64 0, Value.agg #[.bool false, .int .i64 0]].toList 8 = some ([.nil, .lit (.int .i64 0), .agg [.lit (.bool false), .lit (.int .i64 0)]], [Rows.laid_loop_example_g00641_impl_toldByKind], places) := ⟨MemPlace.row ⟨0, 0, none⟩ 9, by kernel_rfl⟩
  refine returnsInHanded_of_row (C := Tryd.checked) (s := OpenSpec.ofChange Rows.fnExactCountWhereSpec) own started (by kernel_rfl) Tryd.func9
    (witness_row_at (enc := enc) (C := Tryd.checked) false (World.doorLaid Tryd.prog 400 os) #[.slice none 0 0, .int .i64 0, .agg #[.bool false, .int .i64 0]] rfl (by kernel_rfl) (by kernel_rfl) (by kernel_rfl)
      (OpenSpec.preRow_of_cond 8 hx (by kernel_rfl) (fun k hk => by cases hk) (by kernel_rfl) (laid_met os))) ?_
  intro W base args ds gs before hval hW _ _ _ hL _ _
  exact contract H enc W base args ds gs before hval hW hL

theorem said : Rows.FnExactCountWhereSaid :=
  OpenClaim.holds_of_cond 9 Tryd.f9 rfl rfl rfl rfl rfl rfl rfl ⟨rfl, rfl, rfl, rfl, rfl⟩ rfl rfl rfl rfl rfl (by kernel_rfl) Tryd.func9 (by kernel_rfl)
    (of_decide_eq_true (by kernel_rfl)) (by unfold Func.isWrapper; first | (rw [if_pos (by decide +kernel)]; kernel_rfl) | (rw [if_neg (by decide +kernel)]; exact ⟨rfl, rfl⟩))
    (fun os started H enc _ F => by rw [OpenClaim.pre_eq_preRow]; exact lifted os started H enc F)

theorem plain (f : FuncId) (fn : Func) (hf : Tryd.pinned.checked.prog.funcNamed "loop.example/g00641/laws.FnExactCountWhere" = some f) (hfn : Tryd.pinned.checked.prog.funcs[f]? = some fn) :
    false = Tryd.pinned.checked.prog.looks [] ∧ ∀ (j : Nat) t, fn.params[j]? = some t → Tryd.pinned.checked.prog.wantsStandIn t = false := by
  obtain rfl : f = 9 := Option.some.inj ((show Tryd.prog.funcNamed "loop.example/g00641/laws.FnExactCountWhere" = some 9 by kernel_rfl).symm.trans hf) |>.symm
  obtain rfl : fn = Tryd.f9 := (Option.some.inj (Tryd.func9.symm.trans hfn)).symm
  refine ⟨by kernel_rfl, fun j t ht => ?_⟩
  have hm := Array.mem_of_getElem? ht
  have hall : (Tryd.f9.params.toList.all fun u => !Tryd.prog.wantsStandIn u) = true := by kernel_rfl
  exact (show Tryd.prog.wantsStandIn t = false by simpa using List.all_eq_true.1 hall t (by simpa using hm))

/-- The card. -/
theorem proved : Rows.FnExactCountWhereCardSaid :=
  Claim7.holds_tied_plain_at .later [] _ _ _ _ said (fun _ h => by cases h) (by kernel_rfl) (fun _ h => by cases h) fnExactCountWhere_row_tie rfl ⟨rfl, rfl⟩ (by kernel_rfl) rfl plain (by kernel_rfl)
#print axioms proved

end Go.Proofs.YtdlcjcobfckncaaDoor.fnExactCountWhere
