/-
  Proved: at every argument the law FnExactSumOf returns true, and its arguments read afterwards as they did.
-/
import Derived.Test.YtdlcjcobfckncaaDoorFrame
import Derived.Test.YtdlcjcobfckncaaDoorSfs
import Derived.Test.YtdlcjcobfckncaaDoorOpn
import Derived.Test.YtdlcjcobfckncaaDoorKnv
import Derived.Test.YtdlcjcobfckncaaDoorSge
import Derived.Test.YtdlcjcobfckncaaDoorCmp
import Derived.Test.YtdlcjcobfckncaaDoorCards
import Derived.Test.YtdlcjcobfckncaaDoorTie
import Derived.LaidMore
namespace Go.Proofs.YtdlcjcobfckncaaDoor.fnExactSumOf
open Go.ChangeShapes Go.WideShapes Go.ChangeAt Go.RowKit

theorem own : ownKnob Tryd.prog.godebug = none := by kernel_rfl
theorem laidOut : laidOutB Tryd.prog = true := by kernel_rfl

theorem table0 {W : World} (h : laidMetH Tryd.prog Rows.fnExactSumOfRow.laid W) : Cmp.CmpTab W := by
  have c := Frame.tab2_cell (n := "loop.example/g00641/impl.toldByKind") (k := .i64) (zss := [[0, 2, 0], [2, 0, 0], [0, 0, 2]]) (g := 0) (t := 143) (e := 142) (u := 3) (m := 3) (r := 3) h (by kernel_rfl) (by simp [Rows.fnExactSumOfRow, Rows.laid_loop_example_g00641_impl_toldByKind, Lib.tabData])
    (by kernel_rfl) (by kernel_rfl) Tryd.underlying143 Tryd.underlying142 Tryd.underlying3 (by kernel_rfl) (by kernel_rfl)
  exact ⟨c 0 0 (by decide) (by decide) (by decide), c 0 1 (by decide) (by decide) (by decide), c 0 2 (by decide) (by decide) (by decide), c 1 0 (by decide) (by decide) (by decide), c 1 1 (by decide) (by decide) (by decide), c 1 2 (by decide) (by decide) (by decide), c 2 0 (by decide) (by decide) (by decide), c 2 1 (by decide) (by decide) (by decide), c 2 2 (by decide) (by decide) (by decide)⟩

open Go.Proofs.YtdlcjcobfckncaaDoor.Kep

set_option maxRecDepth 100000 in
set_option maxHeartbeats 4000000 in
theorem walk (a0 : Option Addr) (n0 c0 : Nat) (vs0 : List (Bool × Int)) (w : World) (h0 : Vals.IsVals w a0 n0 c0 vs0) (hTab : Cmp.CmpTab w) :
    Calls Tryd.prog 6 #[.slice a0 n0 c0] w fun e w' => e = .returned (.bool true) ∧ Below w.heap.size w w' := by
  have HR0 : Hid (Vals.IsVals w a0 n0 c0 vs0) := h0
  clear h0
  have HTab : Hid (Cmp.CmpTab w) := hTab
  clear hTab
  have B0 : Hid (Below w.heap.size w w) := Below.refl _ _
  go_enter Tryd.func6, Tryd.ntmps6
  go_wp2_with fail
  refine (Knv.v_sz a0 n0 c0 1048576 _ (Nat.le_trans HR0.out.fits HR0.out.max) (by omega) (by omega)).mono ?_
  rintro e w1 ⟨rfl, hb1⟩
  have Z1 : Hid (w.heap.size ≤ w1.heap.size) := hb1.size
  have B2 : Hid (Below w.heap.size w w1) := Frame.next B0.out hb1 B0.out.size
  clear hb1
  by_cases hL1 : Rws.left 1048576 n0 < 0
  · go_wp2
    go_ret
    exact ⟨rfl, B2.out⟩
  · have ht0 : n0 ≤ 1048576 := by unfold Rws.left at hL1; split at hL1 <;> omega
    have A0 : Hid (Knv.VIs w (.slice a0 n0 c0) vs0) := ⟨_, _, _, rfl, HR0.out, ht0⟩
    have hB1 : Rws.left 1048576 n0 ≤ 1048576 := by unfold Rws.left; split <;> omega
    clear ht0
    generalize hG1 : Rws.left 1048576 n0 = L3 at hL1 hB1 ⊢
    clear hG1
    go_wp2_with fail
    refine (Knv.v_to (.slice a0 n0 c0) vs0 _ (Knv.vIs_below A0.out B2.out)).mono ?_
    rintro e w2 ⟨u4, rfl, ho, hb2⟩
    have O5 : Hid (Knv.VOwn w2 (w1.heap.size) (w2.heap.size) u4 vs0) := ho
    have Z6 : Hid (w1.heap.size ≤ w2.heap.size) := hb2.size
    have B7 : Hid (Below w.heap.size w w2) := Frame.next B2.out hb2 B2.out.size
    clear ho hb2
    go_wp2_with fail
    refine (Sfs.spec_SumOf u4 vs0 _ (Knv.vOwn_is O5.out)).mono ?_
    rintro e w3 ⟨rfl, hb3⟩
    have Z9 : Hid (w2.heap.size ≤ w3.heap.size) := hb3.size
    have B10 : Hid (Below w.heap.size w w3) := Frame.next B7.out hb3 B7.out.size
    clear  hb3
    have B11 : Hid (Below w.heap.size w (w3.alloc (.cells #[.int .i64 (Sgi.sumV vs0).r, .int .i64 (Sgi.sumV vs0).k, .int .i64 (Sgi.sumV vs0).t, .bool (Sgi.sumV vs0).lb, .int .i64 (Sgi.sumV vs0).l, .bool (Sgi.sumV vs0).hb, .int .i64 (Sgi.sumV vs0).h] 28))) := Frame.next B10.out ((Below.refl w3.heap.size w3).alloc (Nat.le_refl _) (.cells #[.int .i64 (Sgi.sumV vs0).r, .int .i64 (Sgi.sumV vs0).k, .int .i64 (Sgi.sumV vs0).t, .bool (Sgi.sumV vs0).lb, .int .i64 (Sgi.sumV vs0).l, .bool (Sgi.sumV vs0).hb, .int .i64 (Sgi.sumV vs0).h] 28)) B10.out.size
    have K12 : Hid ((w3.alloc (.cells #[.int .i64 (Sgi.sumV vs0).r, .int .i64 (Sgi.sumV vs0).k, .int .i64 (Sgi.sumV vs0).t, .bool (Sgi.sumV vs0).lb, .int .i64 (Sgi.sumV vs0).l, .bool (Sgi.sumV vs0).hb, .int .i64 (Sgi.sumV vs0).h] 28)).cell? ⟨w3.heap.size, 0, none⟩ = some (.int .i64 (Sgi.sumV vs0).r) ∧ (w3.alloc (.cells #[.int .i64 (Sgi.sumV vs0).r, .int .i64 (Sgi.sumV vs0).k, .int .i64 (Sgi.sumV vs0).t, .bool (Sgi.sumV vs0).lb, .int .i64 (Sgi.sumV vs0).l, .bool (Sgi.sumV vs0).hb, .int .i64 (Sgi.sumV vs0).h] 28)).cell? ⟨w3.heap.size, 1, none⟩ = some (.int .i64 (Sgi.sumV vs0).k) ∧ (w3.alloc (.cells #[.int .i64 (Sgi.sumV vs0).r, .int .i64 (Sgi.sumV vs0).k, .int .i64 (Sgi.sumV vs0).t, .bool (Sgi.sumV vs0).lb, .int .i64 (Sgi.sumV vs0).l, .bool (Sgi.sumV vs0).hb, .int .i64 (Sgi.sumV vs0).h] 28)).cell? ⟨w3.heap.size, 2, none⟩ = some (.int .i64 (Sgi.sumV vs0).t) ∧ (w3.alloc (.cells #[.int .i64 (Sgi.sumV vs0).r, .int .i64 (Sgi.sumV vs0).k, .int .i64 (Sgi.sumV vs0).t, .bool (Sgi.sumV vs0).lb, .int .i64 (Sgi.sumV vs0).l, .bool (Sgi.sumV vs0).hb, .int .i64 (Sgi.sumV vs0).h] 28)).cell? ⟨w3.heap.size, 3, none⟩ = some (.bool (Sgi.sumV vs0).lb) ∧ (w3.alloc (.cells #[.int .i64 (Sgi.sumV vs0).r, .int .i64 (Sgi.sumV vs0).k, .int .i64 (Sgi.sumV vs0).t, .bool (Sgi.sumV vs0).lb, .int .i64 (Sgi.sumV vs0).l, .bool (Sgi.sumV vs0).hb, .int .i64 (Sgi.sumV vs0).h] 28)).cell? ⟨w3.heap.size, 4, none⟩ = some (.int .i64 (Sgi.sumV vs0).l) ∧ (w3.alloc (.cells #[.int .i64 (Sgi.sumV vs0).r, .int .i64 (Sgi.sumV vs0).k, .int .i64 (Sgi.sumV vs0).t, .bool (Sgi.sumV vs0).lb, .int .i64 (Sgi.sumV vs0).l, .bool (Sgi.sumV vs0).hb, .int .i64 (Sgi.sumV vs0).h] 28)).cell? ⟨w3.heap.size, 5, none⟩ = some (.bool (Sgi.sumV vs0).hb) ∧ (w3.alloc (.cells #[.int .i64 (Sgi.sumV vs0).r, .int .i64 (Sgi.sumV vs0).k, .int .i64 (Sgi.sumV vs0).t, .bool (Sgi.sumV vs0).lb, .int .i64 (Sgi.sumV vs0).l, .bool (Sgi.sumV vs0).hb, .int .i64 (Sgi.sumV vs0).h] 28)).cell? ⟨w3.heap.size, 6, none⟩ = some (.int .i64 (Sgi.sumV vs0).h)) := by
      show _ ∧ _ ∧ _ ∧ _ ∧ _ ∧ _ ∧ _
      refine ⟨?_, ?_, ?_, ?_, ?_, ?_, ?_⟩ <;> rw [World.cell?_alloc_at _ _ _ _ rfl] <;> rfl
    have E13 : Hid ((w3.alloc (.cells #[.int .i64 (Sgi.sumV vs0).r, .int .i64 (Sgi.sumV vs0).k, .int .i64 (Sgi.sumV vs0).t, .bool (Sgi.sumV vs0).lb, .int .i64 (Sgi.sumV vs0).l, .bool (Sgi.sumV vs0).hb, .int .i64 (Sgi.sumV vs0).h] 28)).heap.size = w3.heap.size + 1) := by show _ = _; simp
    have cc15 : (w3.alloc (.cells #[.int .i64 (Sgi.sumV vs0).r, .int .i64 (Sgi.sumV vs0).k, .int .i64 (Sgi.sumV vs0).t, .bool (Sgi.sumV vs0).lb, .int .i64 (Sgi.sumV vs0).l, .bool (Sgi.sumV vs0).hb, .int .i64 (Sgi.sumV vs0).h] 28)).cell? ⟨w3.heap.size, 0, none⟩ = some (.int .i64 (Sgi.sumV vs0).r) := K12.out.1
    have cc16 : (w3.alloc (.cells #[.int .i64 (Sgi.sumV vs0).r, .int .i64 (Sgi.sumV vs0).k, .int .i64 (Sgi.sumV vs0).t, .bool (Sgi.sumV vs0).lb, .int .i64 (Sgi.sumV vs0).l, .bool (Sgi.sumV vs0).hb, .int .i64 (Sgi.sumV vs0).h] 28)).cell? ⟨w3.heap.size, 1, none⟩ = some (.int .i64 (Sgi.sumV vs0).k) := K12.out.2.1
    have cc17 : (w3.alloc (.cells #[.int .i64 (Sgi.sumV vs0).r, .int .i64 (Sgi.sumV vs0).k, .int .i64 (Sgi.sumV vs0).t, .bool (Sgi.sumV vs0).lb, .int .i64 (Sgi.sumV vs0).l, .bool (Sgi.sumV vs0).hb, .int .i64 (Sgi.sumV vs0).h] 28)).cell? ⟨w3.heap.size, 2, none⟩ = some (.int .i64 (Sgi.sumV vs0).t) := K12.out.2.2.1
    have cc18 : (w3.alloc (.cells #[.int .i64 (Sgi.sumV vs0).r, .int .i64 (Sgi.sumV vs0).k, .int .i64 (Sgi.sumV vs0).t, .bool (Sgi.sumV vs0).lb, .int .i64 (Sgi.sumV vs0).l, .bool (Sgi.sumV vs0).hb, .int .i64 (Sgi.sumV vs0).h] 28)).cell? ⟨w3.heap.size, 3, none⟩ = some (.bool (Sgi.sumV vs0).lb) := K12.out.2.2.2.1
    have cc19 : (w3.alloc (.cells #[.int .i64 (Sgi.sumV vs0).r, .int .i64 (Sgi.sumV vs0).k, .int .i64 (Sgi.sumV vs0).t, .bool (Sgi.sumV vs0).lb, .int .i64 (Sgi.sumV vs0).l, .bool (Sgi.sumV vs0).hb, .int .i64 (Sgi.sumV vs0).h] 28)).cell? ⟨w3.heap.size, 4, none⟩ = some (.int .i64 (Sgi.sumV vs0).l) := K12.out.2.2.2.2.1
    have cc20 : (w3.alloc (.cells #[.int .i64 (Sgi.sumV vs0).r, .int .i64 (Sgi.sumV vs0).k, .int .i64 (Sgi.sumV vs0).t, .bool (Sgi.sumV vs0).lb, .int .i64 (Sgi.sumV vs0).l, .bool (Sgi.sumV vs0).hb, .int .i64 (Sgi.sumV vs0).h] 28)).cell? ⟨w3.heap.size, 5, none⟩ = some (.bool (Sgi.sumV vs0).hb) := K12.out.2.2.2.2.2.1
    have cc21 : (w3.alloc (.cells #[.int .i64 (Sgi.sumV vs0).r, .int .i64 (Sgi.sumV vs0).k, .int .i64 (Sgi.sumV vs0).t, .bool (Sgi.sumV vs0).lb, .int .i64 (Sgi.sumV vs0).l, .bool (Sgi.sumV vs0).hb, .int .i64 (Sgi.sumV vs0).h] 28)).cell? ⟨w3.heap.size, 6, none⟩ = some (.int .i64 (Sgi.sumV vs0).h) := K12.out.2.2.2.2.2.2
    go_wp2_with fail
    refine (Knv.v_to (.slice a0 n0 c0) vs0 _ (Knv.vIs_below A0.out B11.out)).mono ?_
    rintro e w4 ⟨u14, rfl, ho, hb4⟩
    clear cc15 cc16 cc17 cc18 cc19 cc20 cc21
    have O22 : Hid (Knv.VOwn w4 (w3.heap.size + 1) (w4.heap.size) u14 vs0) := (by have hh := ho; rw [E13.out] at hh; exact hh)
    have Z23 : Hid (w3.heap.size + 1 ≤ w4.heap.size) := (by have hh := hb4.size; rw [E13.out] at hh; exact hh)
    have K24 : Hid (w4.cell? ⟨w3.heap.size, 0, none⟩ = some (.int .i64 (Sgi.sumV vs0).r) ∧ w4.cell? ⟨w3.heap.size, 1, none⟩ = some (.int .i64 (Sgi.sumV vs0).k) ∧ w4.cell? ⟨w3.heap.size, 2, none⟩ = some (.int .i64 (Sgi.sumV vs0).t) ∧ w4.cell? ⟨w3.heap.size, 3, none⟩ = some (.bool (Sgi.sumV vs0).lb) ∧ w4.cell? ⟨w3.heap.size, 4, none⟩ = some (.int .i64 (Sgi.sumV vs0).l) ∧ w4.cell? ⟨w3.heap.size, 5, none⟩ = some (.bool (Sgi.sumV vs0).hb) ∧ w4.cell? ⟨w3.heap.size, 6, none⟩ = some (.int .i64 (Sgi.sumV vs0).h)) := ⟨(hb4.cell (p := ⟨w3.heap.size, 0, none⟩) (Frame.cell_lt K12.out.1)).trans K12.out.1, (hb4.cell (p := ⟨w3.heap.size, 1, none⟩) (Frame.cell_lt K12.out.2.1)).trans K12.out.2.1, (hb4.cell (p := ⟨w3.heap.size, 2, none⟩) (Frame.cell_lt K12.out.2.2.1)).trans K12.out.2.2.1, (hb4.cell (p := ⟨w3.heap.size, 3, none⟩) (Frame.cell_lt K12.out.2.2.2.1)).trans K12.out.2.2.2.1, (hb4.cell (p := ⟨w3.heap.size, 4, none⟩) (Frame.cell_lt K12.out.2.2.2.2.1)).trans K12.out.2.2.2.2.1, (hb4.cell (p := ⟨w3.heap.size, 5, none⟩) (Frame.cell_lt K12.out.2.2.2.2.2.1)).trans K12.out.2.2.2.2.2.1, (hb4.cell (p := ⟨w3.heap.size, 6, none⟩) (Frame.cell_lt K12.out.2.2.2.2.2.2)).trans K12.out.2.2.2.2.2.2⟩
    have B25 : Hid (Below w.heap.size w w4) := Frame.next B11.out hb4 B11.out.size
    clear ho hb4
    have cc27 : w4.cell? ⟨w3.heap.size, 0, none⟩ = some (.int .i64 (Sgi.sumV vs0).r) := K24.out.1
    have cc28 : w4.cell? ⟨w3.heap.size, 1, none⟩ = some (.int .i64 (Sgi.sumV vs0).k) := K24.out.2.1
    have cc29 : w4.cell? ⟨w3.heap.size, 2, none⟩ = some (.int .i64 (Sgi.sumV vs0).t) := K24.out.2.2.1
    have cc30 : w4.cell? ⟨w3.heap.size, 3, none⟩ = some (.bool (Sgi.sumV vs0).lb) := K24.out.2.2.2.1
    have cc31 : w4.cell? ⟨w3.heap.size, 4, none⟩ = some (.int .i64 (Sgi.sumV vs0).l) := K24.out.2.2.2.2.1
    have cc32 : w4.cell? ⟨w3.heap.size, 5, none⟩ = some (.bool (Sgi.sumV vs0).hb) := K24.out.2.2.2.2.2.1
    have cc33 : w4.cell? ⟨w3.heap.size, 6, none⟩ = some (.int .i64 (Sgi.sumV vs0).h) := K24.out.2.2.2.2.2.2
    go_wp2_with fail
    refine (Sfs.impl_SumOf u14 vs0 _ (Knv.vOwn_is O22.out) (HTab.out.below B25.out)).mono ?_
    rintro e w5 ⟨rfl, hb5⟩
    clear cc27 cc28 cc29 cc30 cc31 cc32 cc33
    have Z34 : Hid (w4.heap.size ≤ w5.heap.size) := hb5.size
    have O35 : Hid (Knv.VOwn w5 (w3.heap.size + 1) (w4.heap.size) u14 vs0) := Knv.vOwn_below O22.out hb5
    have K36 : Hid (w5.cell? ⟨w3.heap.size, 0, none⟩ = some (.int .i64 (Sgi.sumV vs0).r) ∧ w5.cell? ⟨w3.heap.size, 1, none⟩ = some (.int .i64 (Sgi.sumV vs0).k) ∧ w5.cell? ⟨w3.heap.size, 2, none⟩ = some (.int .i64 (Sgi.sumV vs0).t) ∧ w5.cell? ⟨w3.heap.size, 3, none⟩ = some (.bool (Sgi.sumV vs0).lb) ∧ w5.cell? ⟨w3.heap.size, 4, none⟩ = some (.int .i64 (Sgi.sumV vs0).l) ∧ w5.cell? ⟨w3.heap.size, 5, none⟩ = some (.bool (Sgi.sumV vs0).hb) ∧ w5.cell? ⟨w3.heap.size, 6, none⟩ = some (.int .i64 (Sgi.sumV vs0).h)) := ⟨(hb5.cell (p := ⟨w3.heap.size, 0, none⟩) (Frame.cell_lt K24.out.1)).trans K24.out.1, (hb5.cell (p := ⟨w3.heap.size, 1, none⟩) (Frame.cell_lt K24.out.2.1)).trans K24.out.2.1, (hb5.cell (p := ⟨w3.heap.size, 2, none⟩) (Frame.cell_lt K24.out.2.2.1)).trans K24.out.2.2.1, (hb5.cell (p := ⟨w3.heap.size, 3, none⟩) (Frame.cell_lt K24.out.2.2.2.1)).trans K24.out.2.2.2.1, (hb5.cell (p := ⟨w3.heap.size, 4, none⟩) (Frame.cell_lt K24.out.2.2.2.2.1)).trans K24.out.2.2.2.2.1, (hb5.cell (p := ⟨w3.heap.size, 5, none⟩) (Frame.cell_lt K24.out.2.2.2.2.2.1)).trans K24.out.2.2.2.2.2.1, (hb5.cell (p := ⟨w3.heap.size, 6, none⟩) (Frame.cell_lt K24.out.2.2.2.2.2.2)).trans K24.out.2.2.2.2.2.2⟩
    have B37 : Hid (Below w.heap.size w w5) := Frame.next B25.out hb5 B25.out.size
    clear  hb5
    have O38 : Hid (Knv.VOwn (w5.alloc (.cells #[.int .i64 (Sgi.sumV vs0).r, .int .i64 (Sgi.sumV vs0).k, .int .i64 (Sgi.sumV vs0).t, .bool (Sgi.sumV vs0).lb, .int .i64 (Sgi.sumV vs0).l, .bool (Sgi.sumV vs0).hb, .int .i64 (Sgi.sumV vs0).h] 28)) (w3.heap.size + 1) (w4.heap.size) u14 vs0) := Knv.vOwn_below O35.out ((Below.refl w5.heap.size w5).alloc (Nat.le_refl _) (.cells #[.int .i64 (Sgi.sumV vs0).r, .int .i64 (Sgi.sumV vs0).k, .int .i64 (Sgi.sumV vs0).t, .bool (Sgi.sumV vs0).lb, .int .i64 (Sgi.sumV vs0).l, .bool (Sgi.sumV vs0).hb, .int .i64 (Sgi.sumV vs0).h] 28))
    have K39 : Hid ((w5.alloc (.cells #[.int .i64 (Sgi.sumV vs0).r, .int .i64 (Sgi.sumV vs0).k, .int .i64 (Sgi.sumV vs0).t, .bool (Sgi.sumV vs0).lb, .int .i64 (Sgi.sumV vs0).l, .bool (Sgi.sumV vs0).hb, .int .i64 (Sgi.sumV vs0).h] 28)).cell? ⟨w3.heap.size, 0, none⟩ = some (.int .i64 (Sgi.sumV vs0).r) ∧ (w5.alloc (.cells #[.int .i64 (Sgi.sumV vs0).r, .int .i64 (Sgi.sumV vs0).k, .int .i64 (Sgi.sumV vs0).t, .bool (Sgi.sumV vs0).lb, .int .i64 (Sgi.sumV vs0).l, .bool (Sgi.sumV vs0).hb, .int .i64 (Sgi.sumV vs0).h] 28)).cell? ⟨w3.heap.size, 1, none⟩ = some (.int .i64 (Sgi.sumV vs0).k) ∧ (w5.alloc (.cells #[.int .i64 (Sgi.sumV vs0).r, .int .i64 (Sgi.sumV vs0).k, .int .i64 (Sgi.sumV vs0).t, .bool (Sgi.sumV vs0).lb, .int .i64 (Sgi.sumV vs0).l, .bool (Sgi.sumV vs0).hb, .int .i64 (Sgi.sumV vs0).h] 28)).cell? ⟨w3.heap.size, 2, none⟩ = some (.int .i64 (Sgi.sumV vs0).t) ∧ (w5.alloc (.cells #[.int .i64 (Sgi.sumV vs0).r, .int .i64 (Sgi.sumV vs0).k, .int .i64 (Sgi.sumV vs0).t, .bool (Sgi.sumV vs0).lb, .int .i64 (Sgi.sumV vs0).l, .bool (Sgi.sumV vs0).hb, .int .i64 (Sgi.sumV vs0).h] 28)).cell? ⟨w3.heap.size, 3, none⟩ = some (.bool (Sgi.sumV vs0).lb) ∧ (w5.alloc (.cells #[.int .i64 (Sgi.sumV vs0).r, .int .i64 (Sgi.sumV vs0).k, .int .i64 (Sgi.sumV vs0).t, .bool (Sgi.sumV vs0).lb, .int .i64 (Sgi.sumV vs0).l, .bool (Sgi.sumV vs0).hb, .int .i64 (Sgi.sumV vs0).h] 28)).cell? ⟨w3.heap.size, 4, none⟩ = some (.int .i64 (Sgi.sumV vs0).l) ∧ (w5.alloc (.cells #[.int .i64 (Sgi.sumV vs0).r, .int .i64 (Sgi.sumV vs0).k, .int .i64 (Sgi.sumV vs0).t, .bool (Sgi.sumV vs0).lb, .int .i64 (Sgi.sumV vs0).l, .bool (Sgi.sumV vs0).hb, .int .i64 (Sgi.sumV vs0).h] 28)).cell? ⟨w3.heap.size, 5, none⟩ = some (.bool (Sgi.sumV vs0).hb) ∧ (w5.alloc (.cells #[.int .i64 (Sgi.sumV vs0).r, .int .i64 (Sgi.sumV vs0).k, .int .i64 (Sgi.sumV vs0).t, .bool (Sgi.sumV vs0).lb, .int .i64 (Sgi.sumV vs0).l, .bool (Sgi.sumV vs0).hb, .int .i64 (Sgi.sumV vs0).h] 28)).cell? ⟨w3.heap.size, 6, none⟩ = some (.int .i64 (Sgi.sumV vs0).h)) := ⟨(((Below.refl w5.heap.size w5).alloc (Nat.le_refl _) (.cells #[.int .i64 (Sgi.sumV vs0).r, .int .i64 (Sgi.sumV vs0).k, .int .i64 (Sgi.sumV vs0).t, .bool (Sgi.sumV vs0).lb, .int .i64 (Sgi.sumV vs0).l, .bool (Sgi.sumV vs0).hb, .int .i64 (Sgi.sumV vs0).h] 28)).cell (p := ⟨w3.heap.size, 0, none⟩) (Frame.cell_lt K36.out.1)).trans K36.out.1, (((Below.refl w5.heap.size w5).alloc (Nat.le_refl _) (.cells #[.int .i64 (Sgi.sumV vs0).r, .int .i64 (Sgi.sumV vs0).k, .int .i64 (Sgi.sumV vs0).t, .bool (Sgi.sumV vs0).lb, .int .i64 (Sgi.sumV vs0).l, .bool (Sgi.sumV vs0).hb, .int .i64 (Sgi.sumV vs0).h] 28)).cell (p := ⟨w3.heap.size, 1, none⟩) (Frame.cell_lt K36.out.2.1)).trans K36.out.2.1, (((Below.refl w5.heap.size w5).alloc (Nat.le_refl _) (.cells #[.int .i64 (Sgi.sumV vs0).r, .int .i64 (Sgi.sumV vs0).k, .int .i64 (Sgi.sumV vs0).t, .bool (Sgi.sumV vs0).lb, .int .i64 (Sgi.sumV vs0).l, .bool (Sgi.sumV vs0).hb, .int .i64 (Sgi.sumV vs0).h] 28)).cell (p := ⟨w3.heap.size, 2, none⟩) (Frame.cell_lt K36.out.2.2.1)).trans K36.out.2.2.1, (((Below.refl w5.heap.size w5).alloc (Nat.le_refl _) (.cells #[.int .i64 (Sgi.sumV vs0).r, .int .i64 (Sgi.sumV vs0).k, .int .i64 (Sgi.sumV vs0).t, .bool (Sgi.sumV vs0).lb, .int .i64 (Sgi.sumV vs0).l, .bool (Sgi.sumV vs0).hb, .int .i64 (Sgi.sumV vs0).h] 28)).cell (p := ⟨w3.heap.size, 3, none⟩) (Frame.cell_lt K36.out.2.2.2.1)).trans K36.out.2.2.2.1, (((Below.refl w5.heap.size w5).alloc (Nat.le_refl _) (.cells #[.int .i64 (Sgi.sumV vs0).r, .int .i64 (Sgi.sumV vs0).k, .int .i64 (Sgi.sumV vs0).t, .bool (Sgi.sumV vs0).lb, .int .i64 (Sgi.sumV vs0).l, .bool (Sgi.sumV vs0).hb, .int .i64 (Sgi.sumV vs0).h] 28)).cell (p := ⟨w3.heap.size, 4, none⟩) (Frame.cell_lt K36.out.2.2.2.2.1)).trans K36.out.2.2.2.2.1, (((Below.refl w5.heap.size w5).alloc (Nat.le_refl _) (.cells #[.int .i64 (Sgi.sumV vs0).r, .int .i64 (Sgi.sumV vs0).k, .int .i64 (Sgi.sumV vs0).t, .bool (Sgi.sumV vs0).lb, .int .i64 (Sgi.sumV vs0).l, .bool (Sgi.sumV vs0).hb, .int .i64 (Sgi.sumV vs0).h] 28)).cell (p := ⟨w3.heap.size, 5, none⟩) (Frame.cell_lt K36.out.2.2.2.2.2.1)).trans K36.out.2.2.2.2.2.1, (((Below.refl w5.heap.size w5).alloc (Nat.le_refl _) (.cells #[.int .i64 (Sgi.sumV vs0).r, .int .i64 (Sgi.sumV vs0).k, .int .i64 (Sgi.sumV vs0).t, .bool (Sgi.sumV vs0).lb, .int .i64 (Sgi.sumV vs0).l, .bool (Sgi.sumV vs0).hb, .int .i64 (Sgi.sumV vs0).h] 28)).cell (p := ⟨w3.heap.size, 6, none⟩) (Frame.cell_lt K36.out.2.2.2.2.2.2)).trans K36.out.2.2.2.2.2.2⟩
    have B40 : Hid (Below w.heap.size w (w5.alloc (.cells #[.int .i64 (Sgi.sumV vs0).r, .int .i64 (Sgi.sumV vs0).k, .int .i64 (Sgi.sumV vs0).t, .bool (Sgi.sumV vs0).lb, .int .i64 (Sgi.sumV vs0).l, .bool (Sgi.sumV vs0).hb, .int .i64 (Sgi.sumV vs0).h] 28))) := Frame.next B37.out ((Below.refl w5.heap.size w5).alloc (Nat.le_refl _) (.cells #[.int .i64 (Sgi.sumV vs0).r, .int .i64 (Sgi.sumV vs0).k, .int .i64 (Sgi.sumV vs0).t, .bool (Sgi.sumV vs0).lb, .int .i64 (Sgi.sumV vs0).l, .bool (Sgi.sumV vs0).hb, .int .i64 (Sgi.sumV vs0).h] 28)) B37.out.size
    have K41 : Hid ((w5.alloc (.cells #[.int .i64 (Sgi.sumV vs0).r, .int .i64 (Sgi.sumV vs0).k, .int .i64 (Sgi.sumV vs0).t, .bool (Sgi.sumV vs0).lb, .int .i64 (Sgi.sumV vs0).l, .bool (Sgi.sumV vs0).hb, .int .i64 (Sgi.sumV vs0).h] 28)).cell? ⟨w5.heap.size, 0, none⟩ = some (.int .i64 (Sgi.sumV vs0).r) ∧ (w5.alloc (.cells #[.int .i64 (Sgi.sumV vs0).r, .int .i64 (Sgi.sumV vs0).k, .int .i64 (Sgi.sumV vs0).t, .bool (Sgi.sumV vs0).lb, .int .i64 (Sgi.sumV vs0).l, .bool (Sgi.sumV vs0).hb, .int .i64 (Sgi.sumV vs0).h] 28)).cell? ⟨w5.heap.size, 1, none⟩ = some (.int .i64 (Sgi.sumV vs0).k) ∧ (w5.alloc (.cells #[.int .i64 (Sgi.sumV vs0).r, .int .i64 (Sgi.sumV vs0).k, .int .i64 (Sgi.sumV vs0).t, .bool (Sgi.sumV vs0).lb, .int .i64 (Sgi.sumV vs0).l, .bool (Sgi.sumV vs0).hb, .int .i64 (Sgi.sumV vs0).h] 28)).cell? ⟨w5.heap.size, 2, none⟩ = some (.int .i64 (Sgi.sumV vs0).t) ∧ (w5.alloc (.cells #[.int .i64 (Sgi.sumV vs0).r, .int .i64 (Sgi.sumV vs0).k, .int .i64 (Sgi.sumV vs0).t, .bool (Sgi.sumV vs0).lb, .int .i64 (Sgi.sumV vs0).l, .bool (Sgi.sumV vs0).hb, .int .i64 (Sgi.sumV vs0).h] 28)).cell? ⟨w5.heap.size, 3, none⟩ = some (.bool (Sgi.sumV vs0).lb) ∧ (w5.alloc (.cells #[.int .i64 (Sgi.sumV vs0).r, .int .i64 (Sgi.sumV vs0).k, .int .i64 (Sgi.sumV vs0).t, .bool (Sgi.sumV vs0).lb, .int .i64 (Sgi.sumV vs0).l, .bool (Sgi.sumV vs0).hb, .int .i64 (Sgi.sumV vs0).h] 28)).cell? ⟨w5.heap.size, 4, none⟩ = some (.int .i64 (Sgi.sumV vs0).l) ∧ (w5.alloc (.cells #[.int .i64 (Sgi.sumV vs0).r, .int .i64 (Sgi.sumV vs0).k, .int .i64 (Sgi.sumV vs0).t, .bool (Sgi.sumV vs0).lb, .int .i64 (Sgi.sumV vs0).l, .bool (Sgi.sumV vs0).hb, .int .i64 (Sgi.sumV vs0).h] 28)).cell? ⟨w5.heap.size, 5, none⟩ = some (.bool (Sgi.sumV vs0).hb) ∧ (w5.alloc (.cells #[.int .i64 (Sgi.sumV vs0).r, .int .i64 (Sgi.sumV vs0).k, .int .i64 (Sgi.sumV vs0).t, .bool (Sgi.sumV vs0).lb, .int .i64 (Sgi.sumV vs0).l, .bool (Sgi.sumV vs0).hb, .int .i64 (Sgi.sumV vs0).h] 28)).cell? ⟨w5.heap.size, 6, none⟩ = some (.int .i64 (Sgi.sumV vs0).h)) := by
      show _ ∧ _ ∧ _ ∧ _ ∧ _ ∧ _ ∧ _
      refine ⟨?_, ?_, ?_, ?_, ?_, ?_, ?_⟩ <;> rw [World.cell?_alloc_at _ _ _ _ rfl] <;> rfl
    have E42 : Hid ((w5.alloc (.cells #[.int .i64 (Sgi.sumV vs0).r, .int .i64 (Sgi.sumV vs0).k, .int .i64 (Sgi.sumV vs0).t, .bool (Sgi.sumV vs0).lb, .int .i64 (Sgi.sumV vs0).l, .bool (Sgi.sumV vs0).hb, .int .i64 (Sgi.sumV vs0).h] 28)).heap.size = w5.heap.size + 1) := by show _ = _; simp
    have cc43 : (w5.alloc (.cells #[.int .i64 (Sgi.sumV vs0).r, .int .i64 (Sgi.sumV vs0).k, .int .i64 (Sgi.sumV vs0).t, .bool (Sgi.sumV vs0).lb, .int .i64 (Sgi.sumV vs0).l, .bool (Sgi.sumV vs0).hb, .int .i64 (Sgi.sumV vs0).h] 28)).cell? ⟨w3.heap.size, 0, none⟩ = some (.int .i64 (Sgi.sumV vs0).r) := K39.out.1
    have cc44 : (w5.alloc (.cells #[.int .i64 (Sgi.sumV vs0).r, .int .i64 (Sgi.sumV vs0).k, .int .i64 (Sgi.sumV vs0).t, .bool (Sgi.sumV vs0).lb, .int .i64 (Sgi.sumV vs0).l, .bool (Sgi.sumV vs0).hb, .int .i64 (Sgi.sumV vs0).h] 28)).cell? ⟨w3.heap.size, 1, none⟩ = some (.int .i64 (Sgi.sumV vs0).k) := K39.out.2.1
    have cc45 : (w5.alloc (.cells #[.int .i64 (Sgi.sumV vs0).r, .int .i64 (Sgi.sumV vs0).k, .int .i64 (Sgi.sumV vs0).t, .bool (Sgi.sumV vs0).lb, .int .i64 (Sgi.sumV vs0).l, .bool (Sgi.sumV vs0).hb, .int .i64 (Sgi.sumV vs0).h] 28)).cell? ⟨w3.heap.size, 2, none⟩ = some (.int .i64 (Sgi.sumV vs0).t) := K39.out.2.2.1
    have cc46 : (w5.alloc (.cells #[.int .i64 (Sgi.sumV vs0).r, .int .i64 (Sgi.sumV vs0).k, .int .i64 (Sgi.sumV vs0).t, .bool (Sgi.sumV vs0).lb, .int .i64 (Sgi.sumV vs0).l, .bool (Sgi.sumV vs0).hb, .int .i64 (Sgi.sumV vs0).h] 28)).cell? ⟨w3.heap.size, 3, none⟩ = some (.bool (Sgi.sumV vs0).lb) := K39.out.2.2.2.1
    have cc47 : (w5.alloc (.cells #[.int .i64 (Sgi.sumV vs0).r, .int .i64 (Sgi.sumV vs0).k, .int .i64 (Sgi.sumV vs0).t, .bool (Sgi.sumV vs0).lb, .int .i64 (Sgi.sumV vs0).l, .bool (Sgi.sumV vs0).hb, .int .i64 (Sgi.sumV vs0).h] 28)).cell? ⟨w3.heap.size, 4, none⟩ = some (.int .i64 (Sgi.sumV vs0).l) := K39.out.2.2.2.2.1
    have cc48 : (w5.alloc (.cells #[.int .i64 (Sgi.sumV vs0).r, .int .i64 (Sgi.sumV vs0).k, .int .i64 (Sgi.sumV vs0).t, .bool (Sgi.sumV vs0).lb, .int .i64 (Sgi.sumV vs0).l, .bool (Sgi.sumV vs0).hb, .int .i64 (Sgi.sumV vs0).h] 28)).cell? ⟨w3.heap.size, 5, none⟩ = some (.bool (Sgi.sumV vs0).hb) := K39.out.2.2.2.2.2.1
    have cc49 : (w5.alloc (.cells #[.int .i64 (Sgi.sumV vs0).r, .int .i64 (Sgi.sumV vs0).k, .int .i64 (Sgi.sumV vs0).t, .bool (Sgi.sumV vs0).lb, .int .i64 (Sgi.sumV vs0).l, .bool (Sgi.sumV vs0).hb, .int .i64 (Sgi.sumV vs0).h] 28)).cell? ⟨w3.heap.size, 6, none⟩ = some (.int .i64 (Sgi.sumV vs0).h) := K39.out.2.2.2.2.2.2
    have cc50 : (w5.alloc (.cells #[.int .i64 (Sgi.sumV vs0).r, .int .i64 (Sgi.sumV vs0).k, .int .i64 (Sgi.sumV vs0).t, .bool (Sgi.sumV vs0).lb, .int .i64 (Sgi.sumV vs0).l, .bool (Sgi.sumV vs0).hb, .int .i64 (Sgi.sumV vs0).h] 28)).cell? ⟨w5.heap.size, 0, none⟩ = some (.int .i64 (Sgi.sumV vs0).r) := K41.out.1
    have cc51 : (w5.alloc (.cells #[.int .i64 (Sgi.sumV vs0).r, .int .i64 (Sgi.sumV vs0).k, .int .i64 (Sgi.sumV vs0).t, .bool (Sgi.sumV vs0).lb, .int .i64 (Sgi.sumV vs0).l, .bool (Sgi.sumV vs0).hb, .int .i64 (Sgi.sumV vs0).h] 28)).cell? ⟨w5.heap.size, 1, none⟩ = some (.int .i64 (Sgi.sumV vs0).k) := K41.out.2.1
    have cc52 : (w5.alloc (.cells #[.int .i64 (Sgi.sumV vs0).r, .int .i64 (Sgi.sumV vs0).k, .int .i64 (Sgi.sumV vs0).t, .bool (Sgi.sumV vs0).lb, .int .i64 (Sgi.sumV vs0).l, .bool (Sgi.sumV vs0).hb, .int .i64 (Sgi.sumV vs0).h] 28)).cell? ⟨w5.heap.size, 2, none⟩ = some (.int .i64 (Sgi.sumV vs0).t) := K41.out.2.2.1
    have cc53 : (w5.alloc (.cells #[.int .i64 (Sgi.sumV vs0).r, .int .i64 (Sgi.sumV vs0).k, .int .i64 (Sgi.sumV vs0).t, .bool (Sgi.sumV vs0).lb, .int .i64 (Sgi.sumV vs0).l, .bool (Sgi.sumV vs0).hb, .int .i64 (Sgi.sumV vs0).h] 28)).cell? ⟨w5.heap.size, 3, none⟩ = some (.bool (Sgi.sumV vs0).lb) := K41.out.2.2.2.1
    have cc54 : (w5.alloc (.cells #[.int .i64 (Sgi.sumV vs0).r, .int .i64 (Sgi.sumV vs0).k, .int .i64 (Sgi.sumV vs0).t, .bool (Sgi.sumV vs0).lb, .int .i64 (Sgi.sumV vs0).l, .bool (Sgi.sumV vs0).hb, .int .i64 (Sgi.sumV vs0).h] 28)).cell? ⟨w5.heap.size, 4, none⟩ = some (.int .i64 (Sgi.sumV vs0).l) := K41.out.2.2.2.2.1
    have cc55 : (w5.alloc (.cells #[.int .i64 (Sgi.sumV vs0).r, .int .i64 (Sgi.sumV vs0).k, .int .i64 (Sgi.sumV vs0).t, .bool (Sgi.sumV vs0).lb, .int .i64 (Sgi.sumV vs0).l, .bool (Sgi.sumV vs0).hb, .int .i64 (Sgi.sumV vs0).h] 28)).cell? ⟨w5.heap.size, 5, none⟩ = some (.bool (Sgi.sumV vs0).hb) := K41.out.2.2.2.2.2.1
    have cc56 : (w5.alloc (.cells #[.int .i64 (Sgi.sumV vs0).r, .int .i64 (Sgi.sumV vs0).k, .int .i64 (Sgi.sumV vs0).t, .bool (Sgi.sumV vs0).lb, .int .i64 (Sgi.sumV vs0).l, .bool (Sgi.sumV vs0).hb, .int .i64 (Sgi.sumV vs0).h] 28)).cell? ⟨w5.heap.size, 6, none⟩ = some (.int .i64 (Sgi.sumV vs0).h) := K41.out.2.2.2.2.2.2
    go_wp2_with fail
    refine (Sge.eqSum (Sgi.sumV vs0) _).mono ?_
    rintro e w6 ⟨rfl, hb6⟩
    clear cc43 cc44 cc45 cc46 cc47 cc48 cc49 cc50 cc51 cc52 cc53 cc54 cc55 cc56
    have Z57 : Hid (w5.heap.size + 1 ≤ w6.heap.size) := (by have hh := hb6.size; rw [E42.out] at hh; exact hh)
    have O58 : Hid (Knv.VOwn w6 (w3.heap.size + 1) (w4.heap.size) u14 vs0) := Knv.vOwn_below O38.out hb6
    have K59 : Hid (w6.cell? ⟨w3.heap.size, 0, none⟩ = some (.int .i64 (Sgi.sumV vs0).r) ∧ w6.cell? ⟨w3.heap.size, 1, none⟩ = some (.int .i64 (Sgi.sumV vs0).k) ∧ w6.cell? ⟨w3.heap.size, 2, none⟩ = some (.int .i64 (Sgi.sumV vs0).t) ∧ w6.cell? ⟨w3.heap.size, 3, none⟩ = some (.bool (Sgi.sumV vs0).lb) ∧ w6.cell? ⟨w3.heap.size, 4, none⟩ = some (.int .i64 (Sgi.sumV vs0).l) ∧ w6.cell? ⟨w3.heap.size, 5, none⟩ = some (.bool (Sgi.sumV vs0).hb) ∧ w6.cell? ⟨w3.heap.size, 6, none⟩ = some (.int .i64 (Sgi.sumV vs0).h)) := ⟨(hb6.cell (p := ⟨w3.heap.size, 0, none⟩) (Frame.cell_lt K39.out.1)).trans K39.out.1, (hb6.cell (p := ⟨w3.heap.size, 1, none⟩) (Frame.cell_lt K39.out.2.1)).trans K39.out.2.1, (hb6.cell (p := ⟨w3.heap.size, 2, none⟩) (Frame.cell_lt K39.out.2.2.1)).trans K39.out.2.2.1, (hb6.cell (p := ⟨w3.heap.size, 3, none⟩) (Frame.cell_lt K39.out.2.2.2.1)).trans K39.out.2.2.2.1, (hb6.cell (p := ⟨w3.heap.size, 4, none⟩) (Frame.cell_lt K39.out.2.2.2.2.1)).trans K39.out.2.2.2.2.1, (hb6.cell (p := ⟨w3.heap.size, 5, none⟩) (Frame.cell_lt K39.out.2.2.2.2.2.1)).trans K39.out.2.2.2.2.2.1, (hb6.cell (p := ⟨w3.heap.size, 6, none⟩) (Frame.cell_lt K39.out.2.2.2.2.2.2)).trans K39.out.2.2.2.2.2.2⟩
    have K60 : Hid (w6.cell? ⟨w5.heap.size, 0, none⟩ = some (.int .i64 (Sgi.sumV vs0).r) ∧ w6.cell? ⟨w5.heap.size, 1, none⟩ = some (.int .i64 (Sgi.sumV vs0).k) ∧ w6.cell? ⟨w5.heap.size, 2, none⟩ = some (.int .i64 (Sgi.sumV vs0).t) ∧ w6.cell? ⟨w5.heap.size, 3, none⟩ = some (.bool (Sgi.sumV vs0).lb) ∧ w6.cell? ⟨w5.heap.size, 4, none⟩ = some (.int .i64 (Sgi.sumV vs0).l) ∧ w6.cell? ⟨w5.heap.size, 5, none⟩ = some (.bool (Sgi.sumV vs0).hb) ∧ w6.cell? ⟨w5.heap.size, 6, none⟩ = some (.int .i64 (Sgi.sumV vs0).h)) := ⟨(hb6.cell (p := ⟨w5.heap.size, 0, none⟩) (Frame.cell_lt K41.out.1)).trans K41.out.1, (hb6.cell (p := ⟨w5.heap.size, 1, none⟩) (Frame.cell_lt K41.out.2.1)).trans K41.out.2.1, (hb6.cell (p := ⟨w5.heap.size, 2, none⟩) (Frame.cell_lt K41.out.2.2.1)).trans K41.out.2.2.1, (hb6.cell (p := ⟨w5.heap.size, 3, none⟩) (Frame.cell_lt K41.out.2.2.2.1)).trans K41.out.2.2.2.1, (hb6.cell (p := ⟨w5.heap.size, 4, none⟩) (Frame.cell_lt K41.out.2.2.2.2.1)).trans K41.out.2.2.2.2.1, (hb6.cell (p := ⟨w5.heap.size, 5, none⟩) (Frame.cell_lt K41.out.2.2.2.2.2.1)).trans K41.out.2.2.2.2.2.1, (hb6.cell (p := ⟨w5.heap.size, 6, none⟩) (Frame.cell_lt K41.out.2.2.2.2.2.2)).trans K41.out.2.2.2.2.2.2⟩
    have B61 : Hid (Below w.heap.size w w6) := Frame.next B40.out hb6 B40.out.size
    clear hb6
    have cc63 : w6.cell? ⟨w3.heap.size, 0, none⟩ = some (.int .i64 (Sgi.sumV vs0).r) := K59.out.1
    have cc64 : w6.cell? ⟨w3.heap.size, 1, none⟩ = some (.int .i64 (Sgi.sumV vs0).k) := K59.out.2.1
    have cc65 : w6.cell? ⟨w3.heap.size, 2, none⟩ = some (.int .i64 (Sgi.sumV vs0).t) := K59.out.2.2.1
    have cc66 : w6.cell? ⟨w3.heap.size, 3, none⟩ = some (.bool (Sgi.sumV vs0).lb) := K59.out.2.2.2.1
    have cc67 : w6.cell? ⟨w3.heap.size, 4, none⟩ = some (.int .i64 (Sgi.sumV vs0).l) := K59.out.2.2.2.2.1
    have cc68 : w6.cell? ⟨w3.heap.size, 5, none⟩ = some (.bool (Sgi.sumV vs0).hb) := K59.out.2.2.2.2.2.1
    have cc69 : w6.cell? ⟨w3.heap.size, 6, none⟩ = some (.int .i64 (Sgi.sumV vs0).h) := K59.out.2.2.2.2.2.2
    have cc70 : w6.cell? ⟨w5.heap.size, 0, none⟩ = some (.int .i64 (Sgi.sumV vs0).r) := K60.out.1
    have cc71 : w6.cell? ⟨w5.heap.size, 1, none⟩ = some (.int .i64 (Sgi.sumV vs0).k) := K60.out.2.1
    have cc72 : w6.cell? ⟨w5.heap.size, 2, none⟩ = some (.int .i64 (Sgi.sumV vs0).t) := K60.out.2.2.1
    have cc73 : w6.cell? ⟨w5.heap.size, 3, none⟩ = some (.bool (Sgi.sumV vs0).lb) := K60.out.2.2.2.1
    have cc74 : w6.cell? ⟨w5.heap.size, 4, none⟩ = some (.int .i64 (Sgi.sumV vs0).l) := K60.out.2.2.2.2.1
    have cc75 : w6.cell? ⟨w5.heap.size, 5, none⟩ = some (.bool (Sgi.sumV vs0).hb) := K60.out.2.2.2.2.2.1
    have cc76 : w6.cell? ⟨w5.heap.size, 6, none⟩ = some (.int .i64 (Sgi.sumV vs0).h) := K60.out.2.2.2.2.2.2
    go_wp2_with fail
    refine (Knv.v_to (.slice a0 n0 c0) vs0 _ (Knv.vIs_below A0.out B61.out)).mono ?_
    rintro e w7 ⟨u62, rfl, ho, hb7⟩
    clear cc63 cc64 cc65 cc66 cc67 cc68 cc69 cc70 cc71 cc72 cc73 cc74 cc75 cc76
    have O77 : Hid (Knv.VOwn w7 (w6.heap.size) (w7.heap.size) u62 vs0) := ho
    have Z78 : Hid (w6.heap.size ≤ w7.heap.size) := hb7.size
    have O79 : Hid (Knv.VOwn w7 (w3.heap.size + 1) (w4.heap.size) u14 vs0) := Knv.vOwn_below O58.out hb7
    have K80 : Hid (w7.cell? ⟨w3.heap.size, 0, none⟩ = some (.int .i64 (Sgi.sumV vs0).r) ∧ w7.cell? ⟨w3.heap.size, 1, none⟩ = some (.int .i64 (Sgi.sumV vs0).k) ∧ w7.cell? ⟨w3.heap.size, 2, none⟩ = some (.int .i64 (Sgi.sumV vs0).t) ∧ w7.cell? ⟨w3.heap.size, 3, none⟩ = some (.bool (Sgi.sumV vs0).lb) ∧ w7.cell? ⟨w3.heap.size, 4, none⟩ = some (.int .i64 (Sgi.sumV vs0).l) ∧ w7.cell? ⟨w3.heap.size, 5, none⟩ = some (.bool (Sgi.sumV vs0).hb) ∧ w7.cell? ⟨w3.heap.size, 6, none⟩ = some (.int .i64 (Sgi.sumV vs0).h)) := ⟨(hb7.cell (p := ⟨w3.heap.size, 0, none⟩) (Frame.cell_lt K59.out.1)).trans K59.out.1, (hb7.cell (p := ⟨w3.heap.size, 1, none⟩) (Frame.cell_lt K59.out.2.1)).trans K59.out.2.1, (hb7.cell (p := ⟨w3.heap.size, 2, none⟩) (Frame.cell_lt K59.out.2.2.1)).trans K59.out.2.2.1, (hb7.cell (p := ⟨w3.heap.size, 3, none⟩) (Frame.cell_lt K59.out.2.2.2.1)).trans K59.out.2.2.2.1, (hb7.cell (p := ⟨w3.heap.size, 4, none⟩) (Frame.cell_lt K59.out.2.2.2.2.1)).trans K59.out.2.2.2.2.1, (hb7.cell (p := ⟨w3.heap.size, 5, none⟩) (Frame.cell_lt K59.out.2.2.2.2.2.1)).trans K59.out.2.2.2.2.2.1, (hb7.cell (p := ⟨w3.heap.size, 6, none⟩) (Frame.cell_lt K59.out.2.2.2.2.2.2)).trans K59.out.2.2.2.2.2.2⟩
    have K81 : Hid (w7.cell? ⟨w5.heap.size, 0, none⟩ = some (.int .i64 (Sgi.sumV vs0).r) ∧ w7.cell? ⟨w5.heap.size, 1, none⟩ = some (.int .i64 (Sgi.sumV vs0).k) ∧ w7.cell? ⟨w5.heap.size, 2, none⟩ = some (.int .i64 (Sgi.sumV vs0).t) ∧ w7.cell? ⟨w5.heap.size, 3, none⟩ = some (.bool (Sgi.sumV vs0).lb) ∧ w7.cell? ⟨w5.heap.size, 4, none⟩ = some (.int .i64 (Sgi.sumV vs0).l) ∧ w7.cell? ⟨w5.heap.size, 5, none⟩ = some (.bool (Sgi.sumV vs0).hb) ∧ w7.cell? ⟨w5.heap.size, 6, none⟩ = some (.int .i64 (Sgi.sumV vs0).h)) := ⟨(hb7.cell (p := ⟨w5.heap.size, 0, none⟩) (Frame.cell_lt K60.out.1)).trans K60.out.1, (hb7.cell (p := ⟨w5.heap.size, 1, none⟩) (Frame.cell_lt K60.out.2.1)).trans K60.out.2.1, (hb7.cell (p := ⟨w5.heap.size, 2, none⟩) (Frame.cell_lt K60.out.2.2.1)).trans K60.out.2.2.1, (hb7.cell (p := ⟨w5.heap.size, 3, none⟩) (Frame.cell_lt K60.out.2.2.2.1)).trans K60.out.2.2.2.1, (hb7.cell (p := ⟨w5.heap.size, 4, none⟩) (Frame.cell_lt K60.out.2.2.2.2.1)).trans K60.out.2.2.2.2.1, (hb7.cell (p := ⟨w5.heap.size, 5, none⟩) (Frame.cell_lt K60.out.2.2.2.2.2.1)).trans K60.out.2.2.2.2.2.1, (hb7.cell (p := ⟨w5.heap.size, 6, none⟩) (Frame.cell_lt K60.out.2.2.2.2.2.2)).trans K60.out.2.2.2.2.2.2⟩
    have B82 : Hid (Below w.heap.size w w7) := Frame.next B61.out hb7 B61.out.size
    clear ho hb7
    have cc84 : w7.cell? ⟨w3.heap.size, 0, none⟩ = some (.int .i64 (Sgi.sumV vs0).r) := K80.out.1
    have cc85 : w7.cell? ⟨w3.heap.size, 1, none⟩ = some (.int .i64 (Sgi.sumV vs0).k) := K80.out.2.1
    have cc86 : w7.cell? ⟨w3.heap.size, 2, none⟩ = some (.int .i64 (Sgi.sumV vs0).t) := K80.out.2.2.1
    have cc87 : w7.cell? ⟨w3.heap.size, 3, none⟩ = some (.bool (Sgi.sumV vs0).lb) := K80.out.2.2.2.1
    have cc88 : w7.cell? ⟨w3.heap.size, 4, none⟩ = some (.int .i64 (Sgi.sumV vs0).l) := K80.out.2.2.2.2.1
    have cc89 : w7.cell? ⟨w3.heap.size, 5, none⟩ = some (.bool (Sgi.sumV vs0).hb) := K80.out.2.2.2.2.2.1
    have cc90 : w7.cell? ⟨w3.heap.size, 6, none⟩ = some (.int .i64 (Sgi.sumV vs0).h) := K80.out.2.2.2.2.2.2
    have cc91 : w7.cell? ⟨w5.heap.size, 0, none⟩ = some (.int .i64 (Sgi.sumV vs0).r) := K81.out.1
    have cc92 : w7.cell? ⟨w5.heap.size, 1, none⟩ = some (.int .i64 (Sgi.sumV vs0).k) := K81.out.2.1
    have cc93 : w7.cell? ⟨w5.heap.size, 2, none⟩ = some (.int .i64 (Sgi.sumV vs0).t) := K81.out.2.2.1
    have cc94 : w7.cell? ⟨w5.heap.size, 3, none⟩ = some (.bool (Sgi.sumV vs0).lb) := K81.out.2.2.2.1
    have cc95 : w7.cell? ⟨w5.heap.size, 4, none⟩ = some (.int .i64 (Sgi.sumV vs0).l) := K81.out.2.2.2.2.1
    have cc96 : w7.cell? ⟨w5.heap.size, 5, none⟩ = some (.bool (Sgi.sumV vs0).hb) := K81.out.2.2.2.2.2.1
    have cc97 : w7.cell? ⟨w5.heap.size, 6, none⟩ = some (.int .i64 (Sgi.sumV vs0).h) := K81.out.2.2.2.2.2.2
    go_wp2_with fail
    refine (Knv.v_eq u14 u62 vs0 vs0 _ (Knv.vOwn_is O79.out) (Knv.vOwn_is O77.out)).mono ?_
    rintro e w8 ⟨rfl, hb8⟩
    clear cc84 cc85 cc86 cc87 cc88 cc89 cc90 cc91 cc92 cc93 cc94 cc95 cc96 cc97
    rw [decide_eq_true (Eq.refl (vs0))]
    have Z98 : Hid (w7.heap.size ≤ w8.heap.size) := hb8.size
    have O99 : Hid (Knv.VOwn w8 (w3.heap.size + 1) (w4.heap.size) u14 vs0) := Knv.vOwn_below O79.out hb8
    have O100 : Hid (Knv.VOwn w8 (w6.heap.size) (w7.heap.size) u62 vs0) := Knv.vOwn_below O77.out hb8
    have K101 : Hid (w8.cell? ⟨w3.heap.size, 0, none⟩ = some (.int .i64 (Sgi.sumV vs0).r) ∧ w8.cell? ⟨w3.heap.size, 1, none⟩ = some (.int .i64 (Sgi.sumV vs0).k) ∧ w8.cell? ⟨w3.heap.size, 2, none⟩ = some (.int .i64 (Sgi.sumV vs0).t) ∧ w8.cell? ⟨w3.heap.size, 3, none⟩ = some (.bool (Sgi.sumV vs0).lb) ∧ w8.cell? ⟨w3.heap.size, 4, none⟩ = some (.int .i64 (Sgi.sumV vs0).l) ∧ w8.cell? ⟨w3.heap.size, 5, none⟩ = some (.bool (Sgi.sumV vs0).hb) ∧ w8.cell? ⟨w3.heap.size, 6, none⟩ = some (.int .i64 (Sgi.sumV vs0).h)) := ⟨(hb8.cell (p := ⟨w3.heap.size, 0, none⟩) (Frame.cell_lt K80.out.1)).trans K80.out.1, (hb8.cell (p := ⟨w3.heap.size, 1, none⟩) (Frame.cell_lt K80.out.2.1)).trans K80.out.2.1, (hb8.cell (p := ⟨w3.heap.size, 2, none⟩) (Frame.cell_lt K80.out.2.2.1)).trans K80.out.2.2.1, (hb8.cell (p := ⟨w3.heap.size, 3, none⟩) (Frame.cell_lt K80.out.2.2.2.1)).trans K80.out.2.2.2.1, (hb8.cell (p := ⟨w3.heap.size, 4, none⟩) (Frame.cell_lt K80.out.2.2.2.2.1)).trans K80.out.2.2.2.2.1, (hb8.cell (p := ⟨w3.heap.size, 5, none⟩) (Frame.cell_lt K80.out.2.2.2.2.2.1)).trans K80.out.2.2.2.2.2.1, (hb8.cell (p := ⟨w3.heap.size, 6, none⟩) (Frame.cell_lt K80.out.2.2.2.2.2.2)).trans K80.out.2.2.2.2.2.2⟩
    have K102 : Hid (w8.cell? ⟨w5.heap.size, 0, none⟩ = some (.int .i64 (Sgi.sumV vs0).r) ∧ w8.cell? ⟨w5.heap.size, 1, none⟩ = some (.int .i64 (Sgi.sumV vs0).k) ∧ w8.cell? ⟨w5.heap.size, 2, none⟩ = some (.int .i64 (Sgi.sumV vs0).t) ∧ w8.cell? ⟨w5.heap.size, 3, none⟩ = some (.bool (Sgi.sumV vs0).lb) ∧ w8.cell? ⟨w5.heap.size, 4, none⟩ = some (.int .i64 (Sgi.sumV vs0).l) ∧ w8.cell? ⟨w5.heap.size, 5, none⟩ = some (.bool (Sgi.sumV vs0).hb) ∧ w8.cell? ⟨w5.heap.size, 6, none⟩ = some (.int .i64 (Sgi.sumV vs0).h)) := ⟨(hb8.cell (p := ⟨w5.heap.size, 0, none⟩) (Frame.cell_lt K81.out.1)).trans K81.out.1, (hb8.cell (p := ⟨w5.heap.size, 1, none⟩) (Frame.cell_lt K81.out.2.1)).trans K81.out.2.1, (hb8.cell (p := ⟨w5.heap.size, 2, none⟩) (Frame.cell_lt K81.out.2.2.1)).trans K81.out.2.2.1, (hb8.cell (p := ⟨w5.heap.size, 3, none⟩) (Frame.cell_lt K81.out.2.2.2.1)).trans K81.out.2.2.2.1, (hb8.cell (p := ⟨w5.heap.size, 4, none⟩) (Frame.cell_lt K81.out.2.2.2.2.1)).trans K81.out.2.2.2.2.1, (hb8.cell (p := ⟨w5.heap.size, 5, none⟩) (Frame.cell_lt K81.out.2.2.2.2.2.1)).trans K81.out.2.2.2.2.2.1, (hb8.cell (p := ⟨w5.heap.size, 6, none⟩) (Frame.cell_lt K81.out.2.2.2.2.2.2)).trans K81.out.2.2.2.2.2.2⟩
    have B103 : Hid (Below w.heap.size w w8) := Frame.next B82.out hb8 B82.out.size
    clear hb8
    go_wp2
    go_ret
    exact ⟨rfl, B103.out⟩

set_option maxRecDepth 100000 in
theorem contract (H : Type) (enc : TypeId × Value → H) (W : World) (base : Nat) (args : Array Value) (ds gs : List (DataW H)) (before : List MemPlace)
    (hval0 : ∀ (j : Nat) t v, Tryd.f6.params[j]? = some t → args[j]? = some v → Value.okWide Tryd.prog W .any base t v)
    (hW : DataW.Whole enc Tryd.prog Tryd.f6.params.toList Rows.fnExactSumOfSpec.vars false W args.toList ds gs before) (hL : laidMetH Tryd.prog Rows.fnExactSumOfRow.laid W) :
    Calls Tryd.prog 6 args W fun e W' => ∃ v, e = .returned v ∧ Rows.fnExactSumOfSpec.post enc Tryd.prog Tryd.f6 false true false false W args v W' := by
  refine Frame.law_calls (tb := 4) laidOut (by kernel_rfl) (by kernel_rfl) (by kernel_rfl) Tryd.underlying4 hW (fun ds gs h1 h2 => ?_) ?_
  · rw [Tryd.params6] at h1
    match ds, gs, h1, h2 with
    | [_], [_], _, _ => rfl
  · obtain ⟨p, q, hA0, _, _, _, _⟩ := hW
    have hval : ∀ (j : Nat) t v, Tryd.f6.params[j]? = some t → args[j]? = some v → Value.okWide Tryd.prog W .any base t v := hval0
    have hA : DataW.TrodAll enc Tryd.prog W 0 (fun _ => true) true Tryd.f6.params.toList args.toList ds p := hA0
    rw [Tryd.params6] at hA hval
    obtain ⟨v0, vs0, d0, ds0, p0, q0, hargs, rfl, rfl, h0, r0⟩ := trodAll_cons hA
    obtain ⟨rfl, rfl, rfl⟩ := trodAll_nil r0
    obtain rfl : args = #[v0] := by cases args; simp_all
    obtain ⟨a0, len0, cap0, rfl⟩ := okWide_slice Tryd.underlying67 (hval 0 67 v0 rfl rfl)
    obtain ⟨z0, w0⟩ := Opn.isVals_of h0
    exact walk a0 len0 cap0 z0 W w0 (table0 hL)

theorem laid_met (os : Os) : laidMetH Tryd.prog Rows.fnExactSumOfRow.laid ((World.doorLaid Tryd.prog 400 os).forCall (fun _ _ => 0) ⟨#[], #[.slice none 0 0], []⟩).memory :=
  laidMetH_of_parts3 (fuel := 8) (laidMet_of_run' 8 (by kernel_rfl) (by kernel_rfl)) (by kernel_rfl) (by kernel_rfl)

set_option maxRecDepth 100000 in
theorem lifted (os : Os) (started : os.Started) (H : Type) (enc : TypeId × Value → H) (F : Stop.Interp) :
    ReturnsInHanded {} Tryd.checked os 6 .any ((OpenSpec.ofChange Rows.fnExactSumOfSpec).preRow enc Tryd.prog Tryd.f6 Rows.fnExactSumOfRow.domain false Rows.fnExactSumOfRow.laid) (((OpenSpec.ofChange Rows.fnExactSumOfSpec).at F).post enc Tryd.prog Tryd.f6 false true false false) := by
  obtain ⟨places, hx⟩ : ∃ places, DataW.whole enc Tryd.prog ((World.doorLaid Tryd.prog 400 os).forCall (fun _ _ => 0) ⟨#[], #[.slice none 0 0], []⟩).memory Tryd.f6.params.toList Rows.fnExactSumOfSpec.vars false #[Value.slice none 0 0].toList 8 = some ([.nil], [Rows.laid_loop_example_g00641_impl_toldByKind], places) := ⟨MemPlace.row ⟨0, 0, none⟩ 9, by kernel_rfl⟩
  refine returnsInHanded_of_row (C := Tryd.checked) (s := OpenSpec.ofChange Rows.fnExactSumOfSpec) own started (by kernel_rfl) Tryd.func6
    (witness_row_at (enc := enc) (C := Tryd.checked) false (World.doorLaid Tryd.prog 400 os) #[.slice none 0 0] rfl (by kernel_rfl) (by kernel_rfl) (by kernel_rfl)
      (OpenSpec.preRow_of_cond 8 hx (by kernel_rfl) (fun k hk => by cases hk) (by kernel_rfl) (laid_met os))) ?_
  intro W base args ds gs before hval hW _ _ _ hL _ _
  exact contract H enc W base args ds gs before hval hW hL

theorem said : Rows.FnExactSumOfSaid :=
  OpenClaim.holds_of_cond 6 Tryd.f6 rfl rfl rfl rfl rfl rfl rfl ⟨rfl, rfl, rfl, rfl, rfl⟩ rfl rfl rfl rfl rfl (by kernel_rfl) Tryd.func6 (by kernel_rfl)
    (of_decide_eq_true (by kernel_rfl)) (by unfold Func.isWrapper; first | (rw [if_pos (by decide +kernel)]; kernel_rfl) | (rw [if_neg (by decide +kernel)]; exact ⟨rfl, rfl⟩))
    (fun os started H enc _ F => by rw [OpenClaim.pre_eq_preRow]; exact lifted os started H enc F)

theorem plain (f : FuncId) (fn : Func) (hf : Tryd.pinned.checked.prog.funcNamed "loop.example/g00641/laws.FnExactSumOf" = some f) (hfn : Tryd.pinned.checked.prog.funcs[f]? = some fn) :
    false = Tryd.pinned.checked.prog.looks [] ∧ ∀ (j : Nat) t, fn.params[j]? = some t → Tryd.pinned.checked.prog.wantsStandIn t = false := by
  obtain rfl : f = 6 := Option.some.inj ((show Tryd.prog.funcNamed "loop.example/g00641/laws.FnExactSumOf" = some 6 by kernel_rfl).symm.trans hf) |>.symm
  obtain rfl : fn = Tryd.f6 := (Option.some.inj (Tryd.func6.symm.trans hfn)).symm
  refine ⟨by kernel_rfl, fun j t ht => ?_⟩
  have hm := Array.mem_of_getElem? ht
  have hall : (Tryd.f6.params.toList.all fun u => !Tryd.prog.wantsStandIn u) = true := by kernel_rfl
  exact (show Tryd.prog.wantsStandIn t = false by simpa using List.all_eq_true.1 hall t (by simpa using hm))

/-- The card. -/
theorem proved : Rows.FnExactSumOfCardSaid :=
  Claim7.holds_tied_plain_at .later [] _ _ _ _ said (fun _ h => by cases h) (by kernel_rfl) (fun _ h => by cases h) fnExactSumOf_row_tie rfl ⟨rfl, rfl⟩ (by kernel_rfl) rfl plain (by kernel_rfl)
#print axioms proved

end Go.Proofs.YtdlcjcobfckncaaDoor.fnExactSumOf
