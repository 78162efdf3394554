/-
  Proved: at every argument the law FnExactChoose returns true, and its arguments read afterwards as they did.
-/
import Derived.Test.YtdlcjcobfckncaaDoorFrame
import Derived.Test.YtdlcjcobfckncaaDoorRfc
import Derived.Test.YtdlcjcobfckncaaDoorOpr
import Derived.Test.YtdlcjcobfckncaaDoorSep
import Derived.Test.YtdlcjcobfckncaaDoorCmp
import Derived.Test.YtdlcjcobfckncaaDoorCards
import Derived.Test.YtdlcjcobfckncaaDoorTie
import Derived.LaidMore
namespace Go.Proofs.YtdlcjcobfckncaaDoor.fnExactChoose
open Go.ChangeShapes Go.WideShapes Go.ChangeAt Go.RowKit

theorem own : ownKnob Tryd.prog.godebug = none := by kernel_rfl
theorem laidOut : laidOutB Tryd.prog = true := by kernel_rfl

theorem table0 {W : World} (h : laidMetH Tryd.prog Rows.fnExactChooseRow.laid W) : Cmp.CmpTab W := by
  have c := Frame.tab2_cell (n := "loop.example/g00641/impl.toldByKind") (k := .i64) (zss := [[0, 2, 0], [2, 0, 0], [0, 0, 2]]) (g := 0) (t := 143) (e := 142) (u := 3) (m := 3) (r := 3) h (by kernel_rfl) (by simp [Rows.fnExactChooseRow, Rows.laid_loop_example_g00641_impl_toldByKind, Lib.tabData])
    (by kernel_rfl) (by kernel_rfl) Tryd.underlying143 Tryd.underlying142 Tryd.underlying3 (by kernel_rfl) (by kernel_rfl)
  exact ⟨c 0 0 (by decide) (by decide) (by decide), c 0 1 (by decide) (by decide) (by decide), c 0 2 (by decide) (by decide) (by decide), c 1 0 (by decide) (by decide) (by decide), c 1 1 (by decide) (by decide) (by decide), c 1 2 (by decide) (by decide) (by decide), c 2 0 (by decide) (by decide) (by decide), c 2 1 (by decide) (by decide) (by decide), c 2 2 (by decide) (by decide) (by decide)⟩

open Go.Proofs.YtdlcjcobfckncaaDoor.Kep

set_option maxRecDepth 100000 in
set_option maxHeartbeats 4000000 in
theorem walk (ua0 : Option Addr) (un0 uc0 : Nat) (ns0 : List Int) (ta0 : Option Addr) (tn0 tc0 : Nat) (rs0 : List Lls.LV) (i1 : Int) (i2 : Int) (i3 : Int) (w : World) (hu0 : Frame.IsRow .i64 w ua0 un0 uc0 ns0) (ht0 : Lls.IsLs w ta0 tn0 tc0 rs0) (hf1 : (Lit.int .i64 i1).wf = true) (hf2 : (Lit.int .i64 i2).wf = true) (hf3 : (Lit.int .i64 i3).wf = true) (hTab : Cmp.CmpTab w) :
    Calls Tryd.prog 5 #[.agg #[.slice ua0 un0 uc0, .slice ta0 tn0 tc0], .int .i64 i1, .int .i64 i2, .int .i64 i3] w fun e w' => e = .returned (.bool true) ∧ Below w.heap.size w w' := by
  have HU0 : Hid (Frame.IsRow .i64 w ua0 un0 uc0 ns0) := hu0
  have HT0 : Hid (Lls.IsLs w ta0 tn0 tc0 rs0) := ht0
  clear hu0 ht0
  have HWF1 : Hid ((Lit.int .i64 i1).wf = true) := hf1
  clear hf1
  have HWF2 : Hid ((Lit.int .i64 i2).wf = true) := hf2
  clear hf2
  have HWF3 : Hid ((Lit.int .i64 i3).wf = true) := hf3
  clear hf3
  have HTab : Hid (Cmp.CmpTab w) := hTab
  clear hTab
  have B0 : Hid (Below w.heap.size w w) := Below.refl _ _
  have B1 : Hid (Below w.heap.size w (w.alloc (.cells #[.slice ua0 un0 uc0, .slice ta0 tn0 tc0] 58))) := B0.out.alloc (by simp; try omega) _
  have K2 : Hid ((w.alloc (.cells #[.slice ua0 un0 uc0, .slice ta0 tn0 tc0] 58)).cell? ⟨w.heap.size, 0, none⟩ = some (.slice ua0 un0 uc0) ∧ (w.alloc (.cells #[.slice ua0 un0 uc0, .slice ta0 tn0 tc0] 58)).cell? ⟨w.heap.size, 1, none⟩ = some (.slice ta0 tn0 tc0)) := by
    show _ ∧ _
    refine ⟨?_, ?_⟩ <;> rw [World.cell?_alloc_at _ _ _ _ (by simp)] <;> rfl
  have E3 : Hid ((w.alloc (.cells #[.slice ua0 un0 uc0, .slice ta0 tn0 tc0] 58)).heap.size = w.heap.size + 1) := by show _ = _; simp
  go_enter Tryd.func5, Tryd.ntmps5
  have cc4 : (w.alloc (.cells #[.slice ua0 un0 uc0, .slice ta0 tn0 tc0] 58)).cell? ⟨w.heap.size, 0, none⟩ = some (.slice ua0 un0 uc0) := K2.out.1
  have cc5 : (w.alloc (.cells #[.slice ua0 un0 uc0, .slice ta0 tn0 tc0] 58)).cell? ⟨w.heap.size, 1, none⟩ = some (.slice ta0 tn0 tc0) := K2.out.2
  go_wp2_with fail
  refine (Krl.q_sz ua0 ta0 un0 uc0 tn0 tc0 rs0 1048576 _ (Nat.le_trans HU0.out.fits HU0.out.max) (HT0.out.below B1.out) (by omega) (by omega)).mono ?_
  rintro e w1 ⟨rfl, hb1⟩
  clear cc4 cc5
  have Z6 : Hid (w.heap.size + 1 ≤ w1.heap.size) := (by have hh := hb1.size; rw [E3.out] at hh; exact hh)
  have K7 : Hid (w1.cell? ⟨w.heap.size, 0, none⟩ = some (.slice ua0 un0 uc0) ∧ w1.cell? ⟨w.heap.size, 1, none⟩ = some (.slice ta0 tn0 tc0)) := ⟨(hb1.cell (p := ⟨w.heap.size, 0, none⟩) (Frame.cell_lt K2.out.1)).trans K2.out.1, (hb1.cell (p := ⟨w.heap.size, 1, none⟩) (Frame.cell_lt K2.out.2)).trans K2.out.2⟩
  have B8 : Hid (Below w.heap.size w w1) := Frame.next B1.out hb1 B1.out.size
  clear hb1
  by_cases hL1 : Lls.left 1048576 ((un0 : Int) + Lls.totalL rs0) < 0
  · go_wp2
    go_ret
    exact ⟨rfl, B8.out⟩
  · have ht0 : un0 ≤ 1048576 ∧ Lls.totalL rs0 ≤ 1048576 := by have hq := Krl.total_nonneg rs0; unfold Lls.left at hL1; split at hL1 <;> omega
    have A0 : Hid (Krl.QIs w (.slice ua0 un0 uc0) (.slice ta0 tn0 tc0) (ns0, Lls.lplain rs0)) := ⟨⟨_, _, _, rfl, HU0.out, ht0.1⟩, _, _, _, _, rfl, HT0.out, rfl, ht0.2⟩
    have hB1 : Lls.left 1048576 ((un0 : Int) + Lls.totalL rs0) ≤ 1048576 := Krl.left_le _ _ (by have hq := Krl.total_nonneg rs0; omega) (by omega)
    clear ht0
    generalize hG1 : Lls.left 1048576 ((un0 : Int) + Lls.totalL rs0) = L9 at hL1 hB1 ⊢
    clear hG1
    have cc16 : w1.cell? ⟨w.heap.size, 0, none⟩ = some (.slice ua0 un0 uc0) := K7.out.1
    have cc17 : w1.cell? ⟨w.heap.size, 1, none⟩ = some (.slice ta0 tn0 tc0) := K7.out.2
    go_wp2_with fail
    refine (Krl.q_to6 (.slice ua0 un0 uc0) (.slice ta0 tn0 tc0) (ns0, Lls.lplain rs0) _ (Krl.qIs_below A0.out B8.out)).mono ?_
    rintro e w2 ⟨ua10, un11, uc12, ta13, tn14, tc15, rfl, ho, hb2⟩
    clear cc16 cc17
    have O18 : Hid (Krl.QOwn w2 (w1.heap.size) (w2.heap.size) (.slice ua10 un11 uc12) (.slice ta13 tn14 tc15) (ns0, Lls.lplain rs0)) := ho
    have Z19 : Hid (w1.heap.size ≤ w2.heap.size) := hb2.size
    have K20 : Hid (w2.cell? ⟨w.heap.size, 0, none⟩ = some (.slice ua0 un0 uc0) ∧ w2.cell? ⟨w.heap.size, 1, none⟩ = some (.slice ta0 tn0 tc0)) := ⟨(hb2.cell (p := ⟨w.heap.size, 0, none⟩) (Frame.cell_lt K7.out.1)).trans K7.out.1, (hb2.cell (p := ⟨w.heap.size, 1, none⟩) (Frame.cell_lt K7.out.2)).trans K7.out.2⟩
    have B21 : Hid (Below w.heap.size w w2) := Frame.next B8.out hb2 B8.out.size
    clear ho hb2
    have cc29 : w2.cell? ⟨w.heap.size, 0, none⟩ = some (.slice ua0 un0 uc0) := K20.out.1
    have cc30 : w2.cell? ⟨w.heap.size, 1, none⟩ = some (.slice ta0 tn0 tc0) := K20.out.2
    go_wp2_with fail
    refine (Rfc.spec_Choose (.slice ua10 un11 uc12) (.slice ta13 tn14 tc15) (ns0, Lls.lplain rs0) i1 i2 i3 _ (Krl.qOwn_is O18.out)).mono ?_
    rintro e w3 ⟨ua23, un24, uc25, ta26, tn27, tc28, rfl, ho0, hb3⟩
    clear cc29 cc30
    have O31 : Hid (Krl.QOwn w3 (w2.heap.size) (w3.heap.size) (.slice ua23 un24 uc25) (.slice ta26 tn27 tc28) (Rel.chooseV (ns0, Lls.lplain rs0) i1 i2 i3)) := ho0
    have Z32 : Hid (w2.heap.size ≤ w3.heap.size) := hb3.size
    have K33 : Hid (w3.cell? ⟨w.heap.size, 0, none⟩ = some (.slice ua0 un0 uc0) ∧ w3.cell? ⟨w.heap.size, 1, none⟩ = some (.slice ta0 tn0 tc0)) := ⟨(hb3.cell (p := ⟨w.heap.size, 0, none⟩) (Frame.cell_lt K20.out.1)).trans K20.out.1, (hb3.cell (p := ⟨w.heap.size, 1, none⟩) (Frame.cell_lt K20.out.2)).trans K20.out.2⟩
    have B34 : Hid (Below w.heap.size w w3) := Frame.next B21.out hb3 B21.out.size
    clear ho0 hb3
    have O35 : Hid (Krl.QOwn (w3.alloc (.cells #[.slice ua23 un24 uc25, .slice ta26 tn27 tc28] 60)) (w2.heap.size) (w3.heap.size) (.slice ua23 un24 uc25) (.slice ta26 tn27 tc28) (Rel.chooseV (ns0, Lls.lplain rs0) i1 i2 i3)) := Krl.qOwn_below O31.out ((Below.refl w3.heap.size w3).alloc (Nat.le_refl _) (.cells #[.slice ua23 un24 uc25, .slice ta26 tn27 tc28] 60))
    have K36 : Hid ((w3.alloc (.cells #[.slice ua23 un24 uc25, .slice ta26 tn27 tc28] 60)).cell? ⟨w.heap.size, 0, none⟩ = some (.slice ua0 un0 uc0) ∧ (w3.alloc (.cells #[.slice ua23 un24 uc25, .slice ta26 tn27 tc28] 60)).cell? ⟨w.heap.size, 1, none⟩ = some (.slice ta0 tn0 tc0)) := ⟨(((Below.refl w3.heap.size w3).alloc (Nat.le_refl _) (.cells #[.slice ua23 un24 uc25, .slice ta26 tn27 tc28] 60)).cell (p := ⟨w.heap.size, 0, none⟩) (Frame.cell_lt K33.out.1)).trans K33.out.1, (((Below.refl w3.heap.size w3).alloc (Nat.le_refl _) (.cells #[.slice ua23 un24 uc25, .slice ta26 tn27 tc28] 60)).cell (p := ⟨w.heap.size, 1, none⟩) (Frame.cell_lt K33.out.2)).trans K33.out.2⟩
    have B37 : Hid (Below w.heap.size w (w3.alloc (.cells #[.slice ua23 un24 uc25, .slice ta26 tn27 tc28] 60))) := Frame.next B34.out ((Below.refl w3.heap.size w3).alloc (Nat.le_refl _) (.cells #[.slice ua23 un24 uc25, .slice ta26 tn27 tc28] 60)) B34.out.size
    have K38 : Hid ((w3.alloc (.cells #[.slice ua23 un24 uc25, .slice ta26 tn27 tc28] 60)).cell? ⟨w3.heap.size, 0, none⟩ = some (.slice ua23 un24 uc25) ∧ (w3.alloc (.cells #[.slice ua23 un24 uc25, .slice ta26 tn27 tc28] 60)).cell? ⟨w3.heap.size, 1, none⟩ = some (.slice ta26 tn27 tc28)) := by
      show _ ∧ _
      refine ⟨?_, ?_⟩ <;> rw [World.cell?_alloc_at _ _ _ _ rfl] <;> rfl
    have E39 : Hid ((w3.alloc (.cells #[.slice ua23 un24 uc25, .slice ta26 tn27 tc28] 60)).heap.size = w3.heap.size + 1) := by show _ = _; simp
    have cc46 : (w3.alloc (.cells #[.slice ua23 un24 uc25, .slice ta26 tn27 tc28] 60)).cell? ⟨w.heap.size, 0, none⟩ = some (.slice ua0 un0 uc0) := K36.out.1
    have cc47 : (w3.alloc (.cells #[.slice ua23 un24 uc25, .slice ta26 tn27 tc28] 60)).cell? ⟨w.heap.size, 1, none⟩ = some (.slice ta0 tn0 tc0) := K36.out.2
    have cc48 : (w3.alloc (.cells #[.slice ua23 un24 uc25, .slice ta26 tn27 tc28] 60)).cell? ⟨w3.heap.size, 0, none⟩ = some (.slice ua23 un24 uc25) := K38.out.1
    have cc49 : (w3.alloc (.cells #[.slice ua23 un24 uc25, .slice ta26 tn27 tc28] 60)).cell? ⟨w3.heap.size, 1, none⟩ = some (.slice ta26 tn27 tc28) := K38.out.2
    go_wp2_with fail
    refine (Krl.q_to6 (.slice ua0 un0 uc0) (.slice ta0 tn0 tc0) (ns0, Lls.lplain rs0) _ (Krl.qIs_below A0.out B37.out)).mono ?_
    rintro e w4 ⟨ua40, un41, uc42, ta43, tn44, tc45, rfl, ho, hb4⟩
    clear cc46 cc47 cc48 cc49
    have O50 : Hid (Krl.QOwn w4 (w3.heap.size + 1) (w4.heap.size) (.slice ua40 un41 uc42) (.slice ta43 tn44 tc45) (ns0, Lls.lplain rs0)) := (by have hh := ho; rw [E39.out] at hh; exact hh)
    have Z51 : Hid (w3.heap.size + 1 ≤ w4.heap.size) := (by have hh := hb4.size; rw [E39.out] at hh; exact hh)
    have O52 : Hid (Krl.QOwn w4 (w2.heap.size) (w3.heap.size) (.slice ua23 un24 uc25) (.slice ta26 tn27 tc28) (Rel.chooseV (ns0, Lls.lplain rs0) i1 i2 i3)) := Krl.qOwn_below O35.out hb4
    have K53 : Hid (w4.cell? ⟨w.heap.size, 0, none⟩ = some (.slice ua0 un0 uc0) ∧ w4.cell? ⟨w.heap.size, 1, none⟩ = some (.slice ta0 tn0 tc0)) := ⟨(hb4.cell (p := ⟨w.heap.size, 0, none⟩) (Frame.cell_lt K36.out.1)).trans K36.out.1, (hb4.cell (p := ⟨w.heap.size, 1, none⟩) (Frame.cell_lt K36.out.2)).trans K36.out.2⟩
    have K54 : Hid (w4.cell? ⟨w3.heap.size, 0, none⟩ = some (.slice ua23 un24 uc25) ∧ w4.cell? ⟨w3.heap.size, 1, none⟩ = some (.slice ta26 tn27 tc28)) := ⟨(hb4.cell (p := ⟨w3.heap.size, 0, none⟩) (Frame.cell_lt K38.out.1)).trans K38.out.1, (hb4.cell (p := ⟨w3.heap.size, 1, none⟩) (Frame.cell_lt K38.out.2)).trans K38.out.2⟩
    have B55 : Hid (Below w.heap.size w w4) := Frame.next B37.out hb4 B37.out.size
    clear ho hb4
    have O57 : Hid (Krl.QOwn (w4.alloc (.cells #[.slice ua40 un41 uc42, .slice ta43 tn44 tc45] 60)) (w2.heap.size) (w3.heap.size) (.slice ua23 un24 uc25) (.slice ta26 tn27 tc28) (Rel.chooseV (ns0, Lls.lplain rs0) i1 i2 i3)) := Krl.qOwn_below O52.out ((Below.refl w4.heap.size w4).alloc (Nat.le_refl _) (.cells #[.slice ua40 un41 uc42, .slice ta43 tn44 tc45] 60))
    have O58 : Hid (Krl.QOwn (w4.alloc (.cells #[.slice ua40 un41 uc42, .slice ta43 tn44 tc45] 60)) (w3.heap.size + 1) (w4.heap.size) (.slice ua40 un41 uc42) (.slice ta43 tn44 tc45) (ns0, Lls.lplain rs0)) := Krl.qOwn_below O50.out ((Below.refl w4.heap.size w4).alloc (Nat.le_refl _) (.cells #[.slice ua40 un41 uc42, .slice ta43 tn44 tc45] 60))
    have K59 : Hid ((w4.alloc (.cells #[.slice ua40 un41 uc42, .slice ta43 tn44 tc45] 60)).cell? ⟨w.heap.size, 0, none⟩ = some (.slice ua0 un0 uc0) ∧ (w4.alloc (.cells #[.slice ua40 un41 uc42, .slice ta43 tn44 tc45] 60)).cell? ⟨w.heap.size, 1, none⟩ = some (.slice ta0 tn0 tc0)) := ⟨(((Below.refl w4.heap.size w4).alloc (Nat.le_refl _) (.cells #[.slice ua40 un41 uc42, .slice ta43 tn44 tc45] 60)).cell (p := ⟨w.heap.size, 0, none⟩) (Frame.cell_lt K53.out.1)).trans K53.out.1, (((Below.refl w4.heap.size w4).alloc (Nat.le_refl _) (.cells #[.slice ua40 un41 uc42, .slice ta43 tn44 tc45] 60)).cell (p := ⟨w.heap.size, 1, none⟩) (Frame.cell_lt K53.out.2)).trans K53.out.2⟩
    have K60 : Hid ((w4.alloc (.cells #[.slice ua40 un41 uc42, .slice ta43 tn44 tc45] 60)).cell? ⟨w3.heap.size, 0, none⟩ = some (.slice ua23 un24 uc25) ∧ (w4.alloc (.cells #[.slice ua40 un41 uc42, .slice ta43 tn44 tc45] 60)).cell? ⟨w3.heap.size, 1, none⟩ = some (.slice ta26 tn27 tc28)) := ⟨(((Below.refl w4.heap.size w4).alloc (Nat.le_refl _) (.cells #[.slice ua40 un41 uc42, .slice ta43 tn44 tc45] 60)).cell (p := ⟨w3.heap.size, 0, none⟩) (Frame.cell_lt K54.out.1)).trans K54.out.1, (((Below.refl w4.heap.size w4).alloc (Nat.le_refl _) (.cells #[.slice ua40 un41 uc42, .slice ta43 tn44 tc45] 60)).cell (p := ⟨w3.heap.size, 1, none⟩) (Frame.cell_lt K54.out.2)).trans K54.out.2⟩
    have B61 : Hid (Below w.heap.size w (w4.alloc (.cells #[.slice ua40 un41 uc42, .slice ta43 tn44 tc45] 60))) := Frame.next B55.out ((Below.refl w4.heap.size w4).alloc (Nat.le_refl _) (.cells #[.slice ua40 un41 uc42, .slice ta43 tn44 tc45] 60)) B55.out.size
    have K62 : Hid ((w4.alloc (.cells #[.slice ua40 un41 uc42, .slice ta43 tn44 tc45] 60)).cell? ⟨w4.heap.size, 0, none⟩ = some (.slice ua40 un41 uc42) ∧ (w4.alloc (.cells #[.slice ua40 un41 uc42, .slice ta43 tn44 tc45] 60)).cell? ⟨w4.heap.size, 1, none⟩ = some (.slice ta43 tn44 tc45)) := by
      show _ ∧ _
      refine ⟨?_, ?_⟩ <;> rw [World.cell?_alloc_at _ _ _ _ rfl] <;> rfl
    have E63 : Hid ((w4.alloc (.cells #[.slice ua40 un41 uc42, .slice ta43 tn44 tc45] 60)).heap.size = w4.heap.size + 1) := by show _ = _; simp
    have cc70 : (w4.alloc (.cells #[.slice ua40 un41 uc42, .slice ta43 tn44 tc45] 60)).cell? ⟨w.heap.size, 0, none⟩ = some (.slice ua0 un0 uc0) := K59.out.1
    have cc71 : (w4.alloc (.cells #[.slice ua40 un41 uc42, .slice ta43 tn44 tc45] 60)).cell? ⟨w.heap.size, 1, none⟩ = some (.slice ta0 tn0 tc0) := K59.out.2
    have cc72 : (w4.alloc (.cells #[.slice ua40 un41 uc42, .slice ta43 tn44 tc45] 60)).cell? ⟨w3.heap.size, 0, none⟩ = some (.slice ua23 un24 uc25) := K60.out.1
    have cc73 : (w4.alloc (.cells #[.slice ua40 un41 uc42, .slice ta43 tn44 tc45] 60)).cell? ⟨w3.heap.size, 1, none⟩ = some (.slice ta26 tn27 tc28) := K60.out.2
    have cc74 : (w4.alloc (.cells #[.slice ua40 un41 uc42, .slice ta43 tn44 tc45] 60)).cell? ⟨w4.heap.size, 0, none⟩ = some (.slice ua40 un41 uc42) := K62.out.1
    have cc75 : (w4.alloc (.cells #[.slice ua40 un41 uc42, .slice ta43 tn44 tc45] 60)).cell? ⟨w4.heap.size, 1, none⟩ = some (.slice ta43 tn44 tc45) := K62.out.2
    go_wp2_with fail
    refine (Rfc.impl_Choose (.slice ua40 un41 uc42) (.slice ta43 tn44 tc45) (ns0, Lls.lplain rs0) i1 i2 i3 _ (Krl.qOwn_is O58.out) (HTab.out.below B61.out)).mono ?_
    rintro e w5 ⟨ua64, un65, uc66, ta67, tn68, tc69, rfl, ho0, hb5⟩
    clear cc70 cc71 cc72 cc73 cc74 cc75
    have O76 : Hid (Krl.QOwn w5 (w4.heap.size + 1) (w5.heap.size) (.slice ua64 un65 uc66) (.slice ta67 tn68 tc69) (Rel.chooseV (ns0, Lls.lplain rs0) i1 i2 i3)) := (by have hh := ho0; rw [E63.out] at hh; exact hh)
    have Z77 : Hid (w4.heap.size + 1 ≤ w5.heap.size) := (by have hh := hb5.size; rw [E63.out] at hh; exact hh)
    have O78 : Hid (Krl.QOwn w5 (w2.heap.size) (w3.heap.size) (.slice ua23 un24 uc25) (.slice ta26 tn27 tc28) (Rel.chooseV (ns0, Lls.lplain rs0) i1 i2 i3)) := Krl.qOwn_below O57.out hb5
    have O79 : Hid (Krl.QOwn w5 (w3.heap.size + 1) (w4.heap.size) (.slice ua40 un41 uc42) (.slice ta43 tn44 tc45) (ns0, Lls.lplain rs0)) := Krl.qOwn_below O58.out hb5
    have K80 : Hid (w5.cell? ⟨w.heap.size, 0, none⟩ = some (.slice ua0 un0 uc0) ∧ w5.cell? ⟨w.heap.size, 1, none⟩ = some (.slice ta0 tn0 tc0)) := ⟨(hb5.cell (p := ⟨w.heap.size, 0, none⟩) (Frame.cell_lt K59.out.1)).trans K59.out.1, (hb5.cell (p := ⟨w.heap.size, 1, none⟩) (Frame.cell_lt K59.out.2)).trans K59.out.2⟩
    have K81 : Hid (w5.cell? ⟨w3.heap.size, 0, none⟩ = some (.slice ua23 un24 uc25) ∧ w5.cell? ⟨w3.heap.size, 1, none⟩ = some (.slice ta26 tn27 tc28)) := ⟨(hb5.cell (p := ⟨w3.heap.size, 0, none⟩) (Frame.cell_lt K60.out.1)).trans K60.out.1, (hb5.cell (p := ⟨w3.heap.size, 1, none⟩) (Frame.cell_lt K60.out.2)).trans K60.out.2⟩
    have K82 : Hid (w5.cell? ⟨w4.heap.size, 0, none⟩ = some (.slice ua40 un41 uc42) ∧ w5.cell? ⟨w4.heap.size, 1, none⟩ = some (.slice ta43 tn44 tc45)) := ⟨(hb5.cell (p := ⟨w4.heap.size, 0, none⟩) (Frame.cell_lt K62.out.1)).trans K62.out.1, (hb5.cell (p := ⟨w4.heap.size, 1, none⟩) (Frame.cell_lt K62.out.2)).trans K62.out.2⟩
    have B83 : Hid (Below w.heap.size w w5) := Frame.next B61.out hb5 B61.out.size
    clear ho0 hb5
    have O84 : Hid (Krl.QOwn (w5.alloc (.cells #[.slice ua64 un65 uc66, .slice ta67 tn68 tc69] 60)) (w2.heap.size) (w3.heap.size) (.slice ua23 un24 uc25) (.slice ta26 tn27 tc28) (Rel.chooseV (ns0, Lls.lplain rs0) i1 i2 i3)) := Krl.qOwn_below O78.out ((Below.refl w5.heap.size w5).alloc (Nat.le_refl _) (.cells #[.slice ua64 un65 uc66, .slice ta67 tn68 tc69] 60))
    have O85 : Hid (Krl.QOwn (w5.alloc (.cells #[.slice ua64 un65 uc66, .slice ta67 tn68 tc69] 60)) (w3.heap.size + 1) (w4.heap.size) (.slice ua40 un41 uc42) (.slice ta43 tn44 tc45) (ns0, Lls.lplain rs0)) := Krl.qOwn_below O79.out ((Below.refl w5.heap.size w5).alloc (Nat.le_refl _) (.cells #[.slice ua64 un65 uc66, .slice ta67 tn68 tc69] 60))
    have O86 : Hid (Krl.QOwn (w5.alloc (.cells #[.slice ua64 un65 uc66, .slice ta67 tn68 tc69] 60)) (w4.heap.size + 1) (w5.heap.size) (.slice ua64 un65 uc66) (.slice ta67 tn68 tc69) (Rel.chooseV (ns0, Lls.lplain rs0) i1 i2 i3)) := Krl.qOwn_below O76.out ((Below.refl w5.heap.size w5).alloc (Nat.le_refl _) (.cells #[.slice ua64 un65 uc66, .slice ta67 tn68 tc69] 60))
    have K87 : Hid ((w5.alloc (.cells #[.slice ua64 un65 uc66, .slice ta67 tn68 tc69] 60)).cell? ⟨w.heap.size, 0, none⟩ = some (.slice ua0 un0 uc0) ∧ (w5.alloc (.cells #[.slice ua64 un65 uc66, .slice ta67 tn68 tc69] 60)).cell? ⟨w.heap.size, 1, none⟩ = some (.slice ta0 tn0 tc0)) := ⟨(((Below.refl w5.heap.size w5).alloc (Nat.le_refl _) (.cells #[.slice ua64 un65 uc66, .slice ta67 tn68 tc69] 60)).cell (p := ⟨w.heap.size, 0, none⟩) (Frame.cell_lt K80.out.1)).trans K80.out.1, (((Below.refl w5.heap.size w5).alloc (Nat.le_refl _) (.cells #[.slice ua64 un65 uc66, .slice ta67 tn68 tc69] 60)).cell (p := ⟨w.heap.size, 1, none⟩) (Frame.cell_lt K80.out.2)).trans K80.out.2⟩
    have K88 : Hid ((w5.alloc (.cells #[.slice ua64 un65 uc66, .slice ta67 tn68 tc69] 60)).cell? ⟨w3.heap.size, 0, none⟩ = some (.slice ua23 un24 uc25) ∧ (w5.alloc (.cells #[.slice ua64 un65 uc66, .slice ta67 tn68 tc69] 60)).cell? ⟨w3.heap.size, 1, none⟩ = some (.slice ta26 tn27 tc28)) := ⟨(((Below.refl w5.heap.size w5).alloc (Nat.le_refl _) (.cells #[.slice ua64 un65 uc66, .slice ta67 tn68 tc69] 60)).cell (p := ⟨w3.heap.size, 0, none⟩) (Frame.cell_lt K81.out.1)).trans K81.out.1, (((Below.refl w5.heap.size w5).alloc (Nat.le_refl _) (.cells #[.slice ua64 un65 uc66, .slice ta67 tn68 tc69] 60)).cell (p := ⟨w3.heap.size, 1, none⟩) (Frame.cell_lt K81.out.2)).trans K81.out.2⟩
    have K89 : Hid ((w5.alloc (.cells #[.slice ua64 un65 uc66, .slice ta67 tn68 tc69] 60)).cell? ⟨w4.heap.size, 0, none⟩ = some (.slice ua40 un41 uc42) ∧ (w5.alloc (.cells #[.slice ua64 un65 uc66, .slice ta67 tn68 tc69] 60)).cell? ⟨w4.heap.size, 1, none⟩ = some (.slice ta43 tn44 tc45)) := ⟨(((Below.refl w5.heap.size w5).alloc (Nat.le_refl _) (.cells #[.slice ua64 un65 uc66, .slice ta67 tn68 tc69] 60)).cell (p := ⟨w4.heap.size, 0, none⟩) (Frame.cell_lt K82.out.1)).trans K82.out.1, (((Below.refl w5.heap.size w5).alloc (Nat.le_refl _) (.cells #[.slice ua64 un65 uc66, .slice ta67 tn68 tc69] 60)).cell (p := ⟨w4.heap.size, 1, none⟩) (Frame.cell_lt K82.out.2)).trans K82.out.2⟩
    have B90 : Hid (Below w.heap.size w (w5.alloc (.cells #[.slice ua64 un65 uc66, .slice ta67 tn68 tc69] 60))) := Frame.next B83.out ((Below.refl w5.heap.size w5).alloc (Nat.le_refl _) (.cells #[.slice ua64 un65 uc66, .slice ta67 tn68 tc69] 60)) B83.out.size
    have K91 : Hid ((w5.alloc (.cells #[.slice ua64 un65 uc66, .slice ta67 tn68 tc69] 60)).cell? ⟨w5.heap.size, 0, none⟩ = some (.slice ua64 un65 uc66) ∧ (w5.alloc (.cells #[.slice ua64 un65 uc66, .slice ta67 tn68 tc69] 60)).cell? ⟨w5.heap.size, 1, none⟩ = some (.slice ta67 tn68 tc69)) := by
      show _ ∧ _
      refine ⟨?_, ?_⟩ <;> rw [World.cell?_alloc_at _ _ _ _ rfl] <;> rfl
    have E92 : Hid ((w5.alloc (.cells #[.slice ua64 un65 uc66, .slice ta67 tn68 tc69] 60)).heap.size = w5.heap.size + 1) := by show _ = _; simp
    have cc93 : (w5.alloc (.cells #[.slice ua64 un65 uc66, .slice ta67 tn68 tc69] 60)).cell? ⟨w.heap.size, 0, none⟩ = some (.slice ua0 un0 uc0) := K87.out.1
    have cc94 : (w5.alloc (.cells #[.slice ua64 un65 uc66, .slice ta67 tn68 tc69] 60)).cell? ⟨w.heap.size, 1, none⟩ = some (.slice ta0 tn0 tc0) := K87.out.2
    have cc95 : (w5.alloc (.cells #[.slice ua64 un65 uc66, .slice ta67 tn68 tc69] 60)).cell? ⟨w3.heap.size, 0, none⟩ = some (.slice ua23 un24 uc25) := K88.out.1
    have cc96 : (w5.alloc (.cells #[.slice ua64 un65 uc66, .slice ta67 tn68 tc69] 60)).cell? ⟨w3.heap.size, 1, none⟩ = some (.slice ta26 tn27 tc28) := K88.out.2
    have cc97 : (w5.alloc (.cells #[.slice ua64 un65 uc66, .slice ta67 tn68 tc69] 60)).cell? ⟨w4.heap.size, 0, none⟩ = some (.slice ua40 un41 uc42) := K89.out.1
    have cc98 : (w5.alloc (.cells #[.slice ua64 un65 uc66, .slice ta67 tn68 tc69] 60)).cell? ⟨w4.heap.size, 1, none⟩ = some (.slice ta43 tn44 tc45) := K89.out.2
    have cc99 : (w5.alloc (.cells #[.slice ua64 un65 uc66, .slice ta67 tn68 tc69] 60)).cell? ⟨w5.heap.size, 0, none⟩ = some (.slice ua64 un65 uc66) := K91.out.1
    have cc100 : (w5.alloc (.cells #[.slice ua64 un65 uc66, .slice ta67 tn68 tc69] 60)).cell? ⟨w5.heap.size, 1, none⟩ = some (.slice ta67 tn68 tc69) := K91.out.2
    go_wp2_with fail
    refine (Krl.q_eq (.slice ua64 un65 uc66) (.slice ta67 tn68 tc69) (.slice ua23 un24 uc25) (.slice ta26 tn27 tc28) (Rel.chooseV (ns0, Lls.lplain rs0) i1 i2 i3) (Rel.chooseV (ns0, Lls.lplain rs0) i1 i2 i3) _ (Krl.qOwn_is O86.out) (Krl.qOwn_is O84.out)).mono ?_
    rintro e w6 ⟨rfl, hb6⟩
    clear cc93 cc94 cc95 cc96 cc97 cc98 cc99 cc100
    rw [decide_eq_true (Eq.refl ((Rel.chooseV (ns0, Lls.lplain rs0) i1 i2 i3)))]
    have Z101 : Hid (w5.heap.size + 1 ≤ w6.heap.size) := (by have hh := hb6.size; rw [E92.out] at hh; exact hh)
    have O102 : Hid (Krl.QOwn w6 (w2.heap.size) (w3.heap.size) (.slice ua23 un24 uc25) (.slice ta26 tn27 tc28) (Rel.chooseV (ns0, Lls.lplain rs0) i1 i2 i3)) := Krl.qOwn_below O84.out hb6
    have O103 : Hid (Krl.QOwn w6 (w3.heap.size + 1) (w4.heap.size) (.slice ua40 un41 uc42) (.slice ta43 tn44 tc45) (ns0, Lls.lplain rs0)) := Krl.qOwn_below O85.out hb6
    have O104 : Hid (Krl.QOwn w6 (w4.heap.size + 1) (w5.heap.size) (.slice ua64 un65 uc66) (.slice ta67 tn68 tc69) (Rel.chooseV (ns0, Lls.lplain rs0) i1 i2 i3)) := Krl.qOwn_below O86.out hb6
    have K105 : Hid (w6.cell? ⟨w.heap.size, 0, none⟩ = some (.slice ua0 un0 uc0) ∧ w6.cell? ⟨w.heap.size, 1, none⟩ = some (.slice ta0 tn0 tc0)) := ⟨(hb6.cell (p := ⟨w.heap.size, 0, none⟩) (Frame.cell_lt K87.out.1)).trans K87.out.1, (hb6.cell (p := ⟨w.heap.size, 1, none⟩) (Frame.cell_lt K87.out.2)).trans K87.out.2⟩
    have K106 : Hid (w6.cell? ⟨w3.heap.size, 0, none⟩ = some (.slice ua23 un24 uc25) ∧ w6.cell? ⟨w3.heap.size, 1, none⟩ = some (.slice ta26 tn27 tc28)) := ⟨(hb6.cell (p := ⟨w3.heap.size, 0, none⟩) (Frame.cell_lt K88.out.1)).trans K88.out.1, (hb6.cell (p := ⟨w3.heap.size, 1, none⟩) (Frame.cell_lt K88.out.2)).trans K88.out.2⟩
    have K107 : Hid (w6.cell? ⟨w4.heap.size, 0, none⟩ = some (.slice ua40 un41 uc42) ∧ w6.cell? ⟨w4.heap.size, 1, none⟩ = some (.slice ta43 tn44 tc45)) := ⟨(hb6.cell (p := ⟨w4.heap.size, 0, none⟩) (Frame.cell_lt K89.out.1)).trans K89.out.1, (hb6.cell (p := ⟨w4.heap.size, 1, none⟩) (Frame.cell_lt K89.out.2)).trans K89.out.2⟩
    have K108 : Hid (w6.cell? ⟨w5.heap.size, 0, none⟩ = some (.slice ua64 un65 uc66) ∧ w6.cell? ⟨w5.heap.size, 1, none⟩ = some (.slice ta67 tn68 tc69)) := ⟨(hb6.cell (p := ⟨w5.heap.size, 0, none⟩) (Frame.cell_lt K91.out.1)).trans K91.out.1, (hb6.cell (p := ⟨w5.heap.size, 1, none⟩) (Frame.cell_lt K91.out.2)).trans K91.out.2⟩
    have B109 : Hid (Below w.heap.size w w6) := Frame.next B90.out hb6 B90.out.size
    clear hb6
    go_wp2_with fail
    have O110 : Hid (Krl.QOwn w6.drew (w2.heap.size) (w3.heap.size) (.slice ua23 un24 uc25) (.slice ta26 tn27 tc28) (Rel.chooseV (ns0, Lls.lplain rs0) i1 i2 i3)) := Krl.qOwn_below O102.out ((Below.refl _ _).drew : Below w6.heap.size w6 w6.drew)
    have O111 : Hid (Krl.QOwn w6.drew (w3.heap.size + 1) (w4.heap.size) (.slice ua40 un41 uc42) (.slice ta43 tn44 tc45) (ns0, Lls.lplain rs0)) := Krl.qOwn_below O103.out ((Below.refl _ _).drew : Below w6.heap.size w6 w6.drew)
    have O112 : Hid (Krl.QOwn w6.drew (w4.heap.size + 1) (w5.heap.size) (.slice ua64 un65 uc66) (.slice ta67 tn68 tc69) (Rel.chooseV (ns0, Lls.lplain rs0) i1 i2 i3)) := Krl.qOwn_below O104.out ((Below.refl _ _).drew : Below w6.heap.size w6 w6.drew)
    have K113 : Hid ((w6.drew).cell? ⟨w.heap.size, 0, none⟩ = some (.slice ua0 un0 uc0) ∧ (w6.drew).cell? ⟨w.heap.size, 1, none⟩ = some (.slice ta0 tn0 tc0)) := ⟨(((Below.refl _ _).drew : Below w6.heap.size w6 w6.drew).cell (p := ⟨w.heap.size, 0, none⟩) (Frame.cell_lt K105.out.1)).trans K105.out.1, (((Below.refl _ _).drew : Below w6.heap.size w6 w6.drew).cell (p := ⟨w.heap.size, 1, none⟩) (Frame.cell_lt K105.out.2)).trans K105.out.2⟩
    have K114 : Hid ((w6.drew).cell? ⟨w3.heap.size, 0, none⟩ = some (.slice ua23 un24 uc25) ∧ (w6.drew).cell? ⟨w3.heap.size, 1, none⟩ = some (.slice ta26 tn27 tc28)) := ⟨(((Below.refl _ _).drew : Below w6.heap.size w6 w6.drew).cell (p := ⟨w3.heap.size, 0, none⟩) (Frame.cell_lt K106.out.1)).trans K106.out.1, (((Below.refl _ _).drew : Below w6.heap.size w6 w6.drew).cell (p := ⟨w3.heap.size, 1, none⟩) (Frame.cell_lt K106.out.2)).trans K106.out.2⟩
    have K115 : Hid ((w6.drew).cell? ⟨w4.heap.size, 0, none⟩ = some (.slice ua40 un41 uc42) ∧ (w6.drew).cell? ⟨w4.heap.size, 1, none⟩ = some (.slice ta43 tn44 tc45)) := ⟨(((Below.refl _ _).drew : Below w6.heap.size w6 w6.drew).cell (p := ⟨w4.heap.size, 0, none⟩) (Frame.cell_lt K107.out.1)).trans K107.out.1, (((Below.refl _ _).drew : Below w6.heap.size w6 w6.drew).cell (p := ⟨w4.heap.size, 1, none⟩) (Frame.cell_lt K107.out.2)).trans K107.out.2⟩
    have K116 : Hid ((w6.drew).cell? ⟨w5.heap.size, 0, none⟩ = some (.slice ua64 un65 uc66) ∧ (w6.drew).cell? ⟨w5.heap.size, 1, none⟩ = some (.slice ta67 tn68 tc69)) := ⟨(((Below.refl _ _).drew : Below w6.heap.size w6 w6.drew).cell (p := ⟨w5.heap.size, 0, none⟩) (Frame.cell_lt K108.out.1)).trans K108.out.1, (((Below.refl _ _).drew : Below w6.heap.size w6 w6.drew).cell (p := ⟨w5.heap.size, 1, none⟩) (Frame.cell_lt K108.out.2)).trans K108.out.2⟩
    have B117 : Hid (Below w.heap.size w w6.drew) := Frame.next B109.out ((Below.refl _ _).drew : Below w6.heap.size w6 w6.drew) B109.out.size
    have E118 : Hid (w6.drew.heap.size = w6.heap.size) := rfl
    have S119 : Hid ((w6.drew).cell? ⟨w.heap.size, 0, none⟩ = some (.slice ua0 un0 uc0) ∧ (w6.drew).cell? ⟨w.heap.size, 1, none⟩ = some (.slice ta0 tn0 tc0) ∧ (w6.drew).cell? ⟨w3.heap.size, 0, none⟩ = some (.slice ua23 un24 uc25) ∧ (w6.drew).cell? ⟨w3.heap.size, 1, none⟩ = some (.slice ta26 tn27 tc28) ∧ (w6.drew).cell? ⟨w4.heap.size, 0, none⟩ = some (.slice ua40 un41 uc42) ∧ (w6.drew).cell? ⟨w4.heap.size, 1, none⟩ = some (.slice ta43 tn44 tc45) ∧ (w6.drew).cell? ⟨w5.heap.size, 0, none⟩ = some (.slice ua64 un65 uc66) ∧ (w6.drew).cell? ⟨w5.heap.size, 1, none⟩ = some (.slice ta67 tn68 tc69)) := ⟨K113.out.1, K113.out.2, K114.out.1, K114.out.2, K115.out.1, K115.out.2, K116.out.1, K116.out.2⟩
    go_region_held3 (fun w' => (w').cell? ⟨w.heap.size, 0, none⟩ = some (.slice ua0 un0 uc0) ∧ (w').cell? ⟨w.heap.size, 1, none⟩ = some (.slice ta0 tn0 tc0) ∧ (w').cell? ⟨w3.heap.size, 0, none⟩ = some (.slice ua23 un24 uc25) ∧ (w').cell? ⟨w3.heap.size, 1, none⟩ = some (.slice ta26 tn27 tc28) ∧ (w').cell? ⟨w4.heap.size, 0, none⟩ = some (.slice ua40 un41 uc42) ∧ (w').cell? ⟨w4.heap.size, 1, none⟩ = some (.slice ta43 tn44 tc45) ∧ (w').cell? ⟨w5.heap.size, 0, none⟩ = some (.slice ua64 un65 uc66) ∧ (w').cell? ⟨w5.heap.size, 1, none⟩ = some (.slice ta67 tn68 tc69)) (first | exact S119.out | exact S136.out | exact S148.out) (first | (go_at_call_has 35 ua0; refine (Krl.q_to6 (.slice ua0 un0 uc0) (.slice ta0 tn0 tc0) (ns0, Lls.lplain rs0) _ (Krl.qIs_below A0.out B117.out)).mono ?_; rintro e w7 ⟨ua120, un121, uc122, ta123, tn124, tc125, rfl, ho, hb7⟩; have O126 : Hid (Krl.QOwn w7 (w6.heap.size) (w7.heap.size) (.slice ua120 un121 uc122) (.slice ta123 tn124 tc125) (ns0, Lls.lplain rs0)) := (by have hh := ho; rw [E118.out] at hh; exact hh); have Z127 : Hid (w6.heap.size ≤ w7.heap.size) := (by have hh := hb7.size; rw [E118.out] at hh; exact hh); have O128 : Hid (Krl.QOwn w7 (w2.heap.size) (w3.heap.size) (.slice ua23 un24 uc25) (.slice ta26 tn27 tc28) (Rel.chooseV (ns0, Lls.lplain rs0) i1 i2 i3)) := Krl.qOwn_below O110.out hb7; have O129 : Hid (Krl.QOwn w7 (w3.heap.size + 1) (w4.heap.size) (.slice ua40 un41 uc42) (.slice ta43 tn44 tc45) (ns0, Lls.lplain rs0)) := Krl.qOwn_below O111.out hb7; have O130 : Hid (Krl.QOwn w7 (w4.heap.size + 1) (w5.heap.size) (.slice ua64 un65 uc66) (.slice ta67 tn68 tc69) (Rel.chooseV (ns0, Lls.lplain rs0) i1 i2 i3)) := Krl.qOwn_below O112.out hb7; have K131 : Hid (w7.cell? ⟨w.heap.size, 0, none⟩ = some (.slice ua0 un0 uc0) ∧ w7.cell? ⟨w.heap.size, 1, none⟩ = some (.slice ta0 tn0 tc0)) := ⟨(hb7.cell (p := ⟨w.heap.size, 0, none⟩) (Frame.cell_lt K113.out.1)).trans K113.out.1, (hb7.cell (p := ⟨w.heap.size, 1, none⟩) (Frame.cell_lt K113.out.2)).trans K113.out.2⟩; have K132 : Hid (w7.cell? ⟨w3.heap.size, 0, none⟩ = some (.slice ua23 un24 uc25) ∧ w7.cell? ⟨w3.heap.size, 1, none⟩ = some (.slice ta26 tn27 tc28)) := ⟨(hb7.cell (p := ⟨w3.heap.size, 0, none⟩) (Frame.cell_lt K114.out.1)).trans K114.out.1, (hb7.cell (p := ⟨w3.heap.size, 1, none⟩) (Frame.cell_lt K114.out.2)).trans K114.out.2⟩; have K133 : Hid (w7.cell? ⟨w4.heap.size, 0, none⟩ = some (.slice ua40 un41 uc42) ∧ w7.cell? ⟨w4.heap.size, 1, none⟩ = some (.slice ta43 tn44 tc45)) := ⟨(hb7.cell (p := ⟨w4.heap.size, 0, none⟩) (Frame.cell_lt K115.out.1)).trans K115.out.1, (hb7.cell (p := ⟨w4.heap.size, 1, none⟩) (Frame.cell_lt K115.out.2)).trans K115.out.2⟩; have K134 : Hid (w7.cell? ⟨w5.heap.size, 0, none⟩ = some (.slice ua64 un65 uc66) ∧ w7.cell? ⟨w5.heap.size, 1, none⟩ = some (.slice ta67 tn68 tc69)) := ⟨(hb7.cell (p := ⟨w5.heap.size, 0, none⟩) (Frame.cell_lt K116.out.1)).trans K116.out.1, (hb7.cell (p := ⟨w5.heap.size, 1, none⟩) (Frame.cell_lt K116.out.2)).trans K116.out.2⟩; have B135 : Hid (Below w.heap.size w w7) := Frame.next B117.out hb7 B117.out.size; clear ho hb7; have S136 : Hid (w7.cell? ⟨w.heap.size, 0, none⟩ = some (.slice ua0 un0 uc0) ∧ w7.cell? ⟨w.heap.size, 1, none⟩ = some (.slice ta0 tn0 tc0) ∧ w7.cell? ⟨w3.heap.size, 0, none⟩ = some (.slice ua23 un24 uc25) ∧ w7.cell? ⟨w3.heap.size, 1, none⟩ = some (.slice ta26 tn27 tc28) ∧ w7.cell? ⟨w4.heap.size, 0, none⟩ = some (.slice ua40 un41 uc42) ∧ w7.cell? ⟨w4.heap.size, 1, none⟩ = some (.slice ta43 tn44 tc45) ∧ w7.cell? ⟨w5.heap.size, 0, none⟩ = some (.slice ua64 un65 uc66) ∧ w7.cell? ⟨w5.heap.size, 1, none⟩ = some (.slice ta67 tn68 tc69)) := ⟨K131.out.1, K131.out.2, K132.out.1, K132.out.2, K133.out.1, K133.out.2, K134.out.1, K134.out.2⟩) | (go_at_call 37; refine (Krl.q_eq (.slice ua40 un41 uc42) (.slice ta43 tn44 tc45) (.slice ua120 un121 uc122) (.slice ta123 tn124 tc125) (ns0, Lls.lplain rs0) (ns0, Lls.lplain rs0) _ (Krl.qOwn_is O129.out) (Krl.qOwn_is O126.out)).mono ?_; rintro e w8 ⟨rfl, hb8⟩; rw [decide_eq_true (Eq.refl ((ns0, Lls.lplain rs0)))]; have Z138 : Hid (w7.heap.size ≤ w8.heap.size) := hb8.size; have O139 : Hid (Krl.QOwn w8 (w2.heap.size) (w3.heap.size) (.slice ua23 un24 uc25) (.slice ta26 tn27 tc28) (Rel.chooseV (ns0, Lls.lplain rs0) i1 i2 i3)) := Krl.qOwn_below O128.out hb8; have O140 : Hid (Krl.QOwn w8 (w3.heap.size + 1) (w4.heap.size) (.slice ua40 un41 uc42) (.slice ta43 tn44 tc45) (ns0, Lls.lplain rs0)) := Krl.qOwn_below O129.out hb8; have O141 : Hid (Krl.QOwn w8 (w4.heap.size + 1) (w5.heap.size) (.slice ua64 un65 uc66) (.slice ta67 tn68 tc69) (Rel.chooseV (ns0, Lls.lplain rs0) i1 i2 i3)) := Krl.qOwn_below O130.out hb8; have O142 : Hid (Krl.QOwn w8 (w6.heap.size) (w7.heap.size) (.slice ua120 un121 uc122) (.slice ta123 tn124 tc125) (ns0, Lls.lplain rs0)) := Krl.qOwn_below O126.out hb8; have K143 : Hid (w8.cell? ⟨w.heap.size, 0, none⟩ = some (.slice ua0 un0 uc0) ∧ w8.cell? ⟨w.heap.size, 1, none⟩ = some (.slice ta0 tn0 tc0)) := ⟨(hb8.cell (p := ⟨w.heap.size, 0, none⟩) (Frame.cell_lt K131.out.1)).trans K131.out.1, (hb8.cell (p := ⟨w.heap.size, 1, none⟩) (Frame.cell_lt K131.out.2)).trans K131.out.2⟩; have K144 : Hid (w8.cell? ⟨w3.heap.size, 0, none⟩ = some (.slice ua23 un24 uc25) ∧ w8.cell? ⟨w3.heap.size, 1, none⟩ = some (.slice ta26 tn27 tc28)) := ⟨(hb8.cell (p := ⟨w3.heap.size, 0, none⟩) (Frame.cell_lt K132.out.1)).trans K132.out.1, (hb8.cell (p := ⟨w3.heap.size, 1, none⟩) (Frame.cell_lt K132.out.2)).trans K132.out.2⟩; have K145 : Hid (w8.cell? ⟨w4.heap.size, 0, none⟩ = some (.slice ua40 un41 uc42) ∧ w8.cell? ⟨w4.heap.size, 1, none⟩ = some (.slice ta43 tn44 tc45)) := ⟨(hb8.cell (p := ⟨w4.heap.size, 0, none⟩) (Frame.cell_lt K133.out.1)).trans K133.out.1, (hb8.cell (p := ⟨w4.heap.size, 1, none⟩) (Frame.cell_lt K133.out.2)).trans K133.out.2⟩; have K146 : Hid (w8.cell? ⟨w5.heap.size, 0, none⟩ = some (.slice ua64 un65 uc66) ∧ w8.cell? ⟨w5.heap.size, 1, none⟩ = some (.slice ta67 tn68 tc69)) := ⟨(hb8.cell (p := ⟨w5.heap.size, 0, none⟩) (Frame.cell_lt K134.out.1)).trans K134.out.1, (hb8.cell (p := ⟨w5.heap.size, 1, none⟩) (Frame.cell_lt K134.out.2)).trans K134.out.2⟩; have B147 : Hid (Below w.heap.size w w8) := Frame.next B135.out hb8 B135.out.size; clear hb8; have S148 : Hid (w8.cell? ⟨w.heap.size, 0, none⟩ = some (.slice ua0 un0 uc0) ∧ w8.cell? ⟨w.heap.size, 1, none⟩ = some (.slice ta0 tn0 tc0) ∧ w8.cell? ⟨w3.heap.size, 0, none⟩ = some (.slice ua23 un24 uc25) ∧ w8.cell? ⟨w3.heap.size, 1, none⟩ = some (.slice ta26 tn27 tc28) ∧ w8.cell? ⟨w4.heap.size, 0, none⟩ = some (.slice ua40 un41 uc42) ∧ w8.cell? ⟨w4.heap.size, 1, none⟩ = some (.slice ta43 tn44 tc45) ∧ w8.cell? ⟨w5.heap.size, 0, none⟩ = some (.slice ua64 un65 uc66) ∧ w8.cell? ⟨w5.heap.size, 1, none⟩ = some (.slice ta67 tn68 tc69)) := ⟨K143.out.1, K143.out.2, K144.out.1, K144.out.2, K145.out.1, K145.out.2, K146.out.1, K146.out.2⟩))
    have cc150 : w8.cell? ⟨w.heap.size, 0, none⟩ = some (.slice ua0 un0 uc0) := K143.out.1
    have cc151 : w8.cell? ⟨w.heap.size, 1, none⟩ = some (.slice ta0 tn0 tc0) := K143.out.2
    have cc152 : w8.cell? ⟨w3.heap.size, 0, none⟩ = some (.slice ua23 un24 uc25) := K144.out.1
    have cc153 : w8.cell? ⟨w3.heap.size, 1, none⟩ = some (.slice ta26 tn27 tc28) := K144.out.2
    have cc154 : w8.cell? ⟨w4.heap.size, 0, none⟩ = some (.slice ua40 un41 uc42) := K145.out.1
    have cc155 : w8.cell? ⟨w4.heap.size, 1, none⟩ = some (.slice ta43 tn44 tc45) := K145.out.2
    have cc156 : w8.cell? ⟨w5.heap.size, 0, none⟩ = some (.slice ua64 un65 uc66) := K146.out.1
    have cc157 : w8.cell? ⟨w5.heap.size, 1, none⟩ = some (.slice ta67 tn68 tc69) := K146.out.2
    go_wp2_with fail
    refine (Krl.q_mark (.slice ua40 un41 uc42) (.slice ta43 tn44 tc45) (ns0, Lls.lplain rs0) _ _ 1 _ O140.out (by omega) (by omega)).mono ?_
    rintro e w9 ⟨nx149, rfl, hn0nx149, hn1nx149, hm, hb9⟩
    clear cc150 cc151 cc152 cc153 cc154 cc155 cc156 cc157
    have hznx149 : ¬ nx149 < 0 := by omega
    have O158 : Hid (Krl.QMarked w9 (w3.heap.size + 1) (w4.heap.size) (.slice ua40 un41 uc42) (.slice ta43 tn44 tc45) 1 nx149) := hm
    have Z159 : Hid (w8.heap.size ≤ w9.heap.size) := hb9.size
    have O160 : Hid (Krl.QOwn w9 (w2.heap.size) (w3.heap.size) (.slice ua23 un24 uc25) (.slice ta26 tn27 tc28) (Rel.chooseV (ns0, Lls.lplain rs0) i1 i2 i3)) := Krl.qOwn_keeps O139.out hb9 (by have z0 := Z6.out; have z1 := Z19.out; have z2 := Z32.out; have z3 := Z51.out; have z4 := Z77.out; have z5 := Z101.out; have z6 := Z127.out; have z7 := Z138.out; omega)
    have O161 : Hid (Krl.QOwn w9 (w4.heap.size + 1) (w5.heap.size) (.slice ua64 un65 uc66) (.slice ta67 tn68 tc69) (Rel.chooseV (ns0, Lls.lplain rs0) i1 i2 i3)) := Krl.qOwn_keeps O141.out hb9 (by have z0 := Z6.out; have z1 := Z19.out; have z2 := Z32.out; have z3 := Z51.out; have z4 := Z77.out; have z5 := Z101.out; have z6 := Z127.out; have z7 := Z138.out; omega)
    have K162 : Hid (w9.cell? ⟨w.heap.size, 0, none⟩ = some (.slice ua0 un0 uc0) ∧ w9.cell? ⟨w.heap.size, 1, none⟩ = some (.slice ta0 tn0 tc0)) := ⟨Keeps.cell hb9 K143.out.1 (by have z0 := Z6.out; have z1 := Z19.out; have z2 := Z32.out; have z3 := Z51.out; have z4 := Z77.out; have z5 := Z101.out; have z6 := Z127.out; have z7 := Z138.out; omega), Keeps.cell hb9 K143.out.2 (by have z0 := Z6.out; have z1 := Z19.out; have z2 := Z32.out; have z3 := Z51.out; have z4 := Z77.out; have z5 := Z101.out; have z6 := Z127.out; have z7 := Z138.out; omega)⟩
    have K163 : Hid (w9.cell? ⟨w3.heap.size, 0, none⟩ = some (.slice ua23 un24 uc25) ∧ w9.cell? ⟨w3.heap.size, 1, none⟩ = some (.slice ta26 tn27 tc28)) := ⟨Keeps.cell hb9 K144.out.1 (by have z0 := Z6.out; have z1 := Z19.out; have z2 := Z32.out; have z3 := Z51.out; have z4 := Z77.out; have z5 := Z101.out; have z6 := Z127.out; have z7 := Z138.out; omega), Keeps.cell hb9 K144.out.2 (by have z0 := Z6.out; have z1 := Z19.out; have z2 := Z32.out; have z3 := Z51.out; have z4 := Z77.out; have z5 := Z101.out; have z6 := Z127.out; have z7 := Z138.out; omega)⟩
    have K164 : Hid (w9.cell? ⟨w4.heap.size, 0, none⟩ = some (.slice ua40 un41 uc42) ∧ w9.cell? ⟨w4.heap.size, 1, none⟩ = some (.slice ta43 tn44 tc45)) := ⟨Keeps.cell hb9 K145.out.1 (by have z0 := Z6.out; have z1 := Z19.out; have z2 := Z32.out; have z3 := Z51.out; have z4 := Z77.out; have z5 := Z101.out; have z6 := Z127.out; have z7 := Z138.out; omega), Keeps.cell hb9 K145.out.2 (by have z0 := Z6.out; have z1 := Z19.out; have z2 := Z32.out; have z3 := Z51.out; have z4 := Z77.out; have z5 := Z101.out; have z6 := Z127.out; have z7 := Z138.out; omega)⟩
    have K165 : Hid (w9.cell? ⟨w5.heap.size, 0, none⟩ = some (.slice ua64 un65 uc66) ∧ w9.cell? ⟨w5.heap.size, 1, none⟩ = some (.slice ta67 tn68 tc69)) := ⟨Keeps.cell hb9 K146.out.1 (by have z0 := Z6.out; have z1 := Z19.out; have z2 := Z32.out; have z3 := Z51.out; have z4 := Z77.out; have z5 := Z101.out; have z6 := Z127.out; have z7 := Z138.out; omega), Keeps.cell hb9 K146.out.2 (by have z0 := Z6.out; have z1 := Z19.out; have z2 := Z32.out; have z3 := Z51.out; have z4 := Z77.out; have z5 := Z101.out; have z6 := Z127.out; have z7 := Z138.out; omega)⟩
    have B166 : Hid (Below w.heap.size w w9) := Keeps.below B147.out hb9 (by have z0 := Z6.out; have z1 := Z19.out; have z2 := Z32.out; have z3 := Z51.out; have z4 := Z77.out; have z5 := Z101.out; have z6 := Z127.out; have z7 := Z138.out; omega) B147.out.size
    clear hm hb9
    have cc167 : w9.cell? ⟨w.heap.size, 0, none⟩ = some (.slice ua0 un0 uc0) := K162.out.1
    have cc168 : w9.cell? ⟨w.heap.size, 1, none⟩ = some (.slice ta0 tn0 tc0) := K162.out.2
    have cc169 : w9.cell? ⟨w3.heap.size, 0, none⟩ = some (.slice ua23 un24 uc25) := K163.out.1
    have cc170 : w9.cell? ⟨w3.heap.size, 1, none⟩ = some (.slice ta26 tn27 tc28) := K163.out.2
    have cc171 : w9.cell? ⟨w4.heap.size, 0, none⟩ = some (.slice ua40 un41 uc42) := K164.out.1
    have cc172 : w9.cell? ⟨w4.heap.size, 1, none⟩ = some (.slice ta43 tn44 tc45) := K164.out.2
    have cc173 : w9.cell? ⟨w5.heap.size, 0, none⟩ = some (.slice ua64 un65 uc66) := K165.out.1
    have cc174 : w9.cell? ⟨w5.heap.size, 1, none⟩ = some (.slice ta67 tn68 tc69) := K165.out.2
    go_wp2_with fail
    refine (Krl.q_eq (.slice ua64 un65 uc66) (.slice ta67 tn68 tc69) (.slice ua23 un24 uc25) (.slice ta26 tn27 tc28) (Rel.chooseV (ns0, Lls.lplain rs0) i1 i2 i3) (Rel.chooseV (ns0, Lls.lplain rs0) i1 i2 i3) _ (Krl.qOwn_is O161.out) (Krl.qOwn_is O160.out)).mono ?_
    rintro e w10 ⟨rfl, hb10⟩
    clear cc167 cc168 cc169 cc170 cc171 cc172 cc173 cc174
    rw [decide_eq_true (Eq.refl ((Rel.chooseV (ns0, Lls.lplain rs0) i1 i2 i3)))]
    have Z175 : Hid (w9.heap.size ≤ w10.heap.size) := hb10.size
    have O176 : Hid (Krl.QOwn w10 (w2.heap.size) (w3.heap.size) (.slice ua23 un24 uc25) (.slice ta26 tn27 tc28) (Rel.chooseV (ns0, Lls.lplain rs0) i1 i2 i3)) := Krl.qOwn_below O160.out hb10
    have O177 : Hid (Krl.QMarked w10 (w3.heap.size + 1) (w4.heap.size) (.slice ua40 un41 uc42) (.slice ta43 tn44 tc45) 1 nx149) := Krl.qMarked_below O158.out hb10
    have O178 : Hid (Krl.QOwn w10 (w4.heap.size + 1) (w5.heap.size) (.slice ua64 un65 uc66) (.slice ta67 tn68 tc69) (Rel.chooseV (ns0, Lls.lplain rs0) i1 i2 i3)) := Krl.qOwn_below O161.out hb10
    have K179 : Hid (w10.cell? ⟨w.heap.size, 0, none⟩ = some (.slice ua0 un0 uc0) ∧ w10.cell? ⟨w.heap.size, 1, none⟩ = some (.slice ta0 tn0 tc0)) := ⟨(hb10.cell (p := ⟨w.heap.size, 0, none⟩) (Frame.cell_lt K162.out.1)).trans K162.out.1, (hb10.cell (p := ⟨w.heap.size, 1, none⟩) (Frame.cell_lt K162.out.2)).trans K162.out.2⟩
    have K180 : Hid (w10.cell? ⟨w3.heap.size, 0, none⟩ = some (.slice ua23 un24 uc25) ∧ w10.cell? ⟨w3.heap.size, 1, none⟩ = some (.slice ta26 tn27 tc28)) := ⟨(hb10.cell (p := ⟨w3.heap.size, 0, none⟩) (Frame.cell_lt K163.out.1)).trans K163.out.1, (hb10.cell (p := ⟨w3.heap.size, 1, none⟩) (Frame.cell_lt K163.out.2)).trans K163.out.2⟩
    have K181 : Hid (w10.cell? ⟨w4.heap.size, 0, none⟩ = some (.slice ua40 un41 uc42) ∧ w10.cell? ⟨w4.heap.size, 1, none⟩ = some (.slice ta43 tn44 tc45)) := ⟨(hb10.cell (p := ⟨w4.heap.size, 0, none⟩) (Frame.cell_lt K164.out.1)).trans K164.out.1, (hb10.cell (p := ⟨w4.heap.size, 1, none⟩) (Frame.cell_lt K164.out.2)).trans K164.out.2⟩
    have K182 : Hid (w10.cell? ⟨w5.heap.size, 0, none⟩ = some (.slice ua64 un65 uc66) ∧ w10.cell? ⟨w5.heap.size, 1, none⟩ = some (.slice ta67 tn68 tc69)) := ⟨(hb10.cell (p := ⟨w5.heap.size, 0, none⟩) (Frame.cell_lt K165.out.1)).trans K165.out.1, (hb10.cell (p := ⟨w5.heap.size, 1, none⟩) (Frame.cell_lt K165.out.2)).trans K165.out.2⟩
    have B183 : Hid (Below w.heap.size w w10) := Frame.next B166.out hb10 B166.out.size
    clear hb10
    have cc185 : w10.cell? ⟨w.heap.size, 0, none⟩ = some (.slice ua0 un0 uc0) := K179.out.1
    have cc186 : w10.cell? ⟨w.heap.size, 1, none⟩ = some (.slice ta0 tn0 tc0) := K179.out.2
    have cc187 : w10.cell? ⟨w3.heap.size, 0, none⟩ = some (.slice ua23 un24 uc25) := K180.out.1
    have cc188 : w10.cell? ⟨w3.heap.size, 1, none⟩ = some (.slice ta26 tn27 tc28) := K180.out.2
    have cc189 : w10.cell? ⟨w4.heap.size, 0, none⟩ = some (.slice ua40 un41 uc42) := K181.out.1
    have cc190 : w10.cell? ⟨w4.heap.size, 1, none⟩ = some (.slice ta43 tn44 tc45) := K181.out.2
    have cc191 : w10.cell? ⟨w5.heap.size, 0, none⟩ = some (.slice ua64 un65 uc66) := K182.out.1
    have cc192 : w10.cell? ⟨w5.heap.size, 1, none⟩ = some (.slice ta67 tn68 tc69) := K182.out.2
    go_wp2_with fail
    refine (Krl.q_mark (.slice ua64 un65 uc66) (.slice ta67 tn68 tc69) (Rel.chooseV (ns0, Lls.lplain rs0) i1 i2 i3) _ _ 1 _ O178.out (by omega) (by omega)).mono ?_
    rintro e w11 ⟨nx184, rfl, hn0nx184, hn1nx184, hm, hb11⟩
    clear cc185 cc186 cc187 cc188 cc189 cc190 cc191 cc192
    have hznx184 : ¬ nx184 < 0 := by omega
    have O193 : Hid (Krl.QMarked w11 (w4.heap.size + 1) (w5.heap.size) (.slice ua64 un65 uc66) (.slice ta67 tn68 tc69) 1 nx184) := hm
    have Z194 : Hid (w10.heap.size ≤ w11.heap.size) := hb11.size
    have O195 : Hid (Krl.QOwn w11 (w2.heap.size) (w3.heap.size) (.slice ua23 un24 uc25) (.slice ta26 tn27 tc28) (Rel.chooseV (ns0, Lls.lplain rs0) i1 i2 i3)) := Krl.qOwn_keeps O176.out hb11 (by have z0 := Z6.out; have z1 := Z19.out; have z2 := Z32.out; have z3 := Z51.out; have z4 := Z77.out; have z5 := Z101.out; have z6 := Z127.out; have z7 := Z138.out; have z8 := Z159.out; have z9 := Z175.out; omega)
    have K196 : Hid (w11.cell? ⟨w.heap.size, 0, none⟩ = some (.slice ua0 un0 uc0) ∧ w11.cell? ⟨w.heap.size, 1, none⟩ = some (.slice ta0 tn0 tc0)) := ⟨Keeps.cell hb11 K179.out.1 (by have z0 := Z6.out; have z1 := Z19.out; have z2 := Z32.out; have z3 := Z51.out; have z4 := Z77.out; have z5 := Z101.out; have z6 := Z127.out; have z7 := Z138.out; have z8 := Z159.out; have z9 := Z175.out; omega), Keeps.cell hb11 K179.out.2 (by have z0 := Z6.out; have z1 := Z19.out; have z2 := Z32.out; have z3 := Z51.out; have z4 := Z77.out; have z5 := Z101.out; have z6 := Z127.out; have z7 := Z138.out; have z8 := Z159.out; have z9 := Z175.out; omega)⟩
    have K197 : Hid (w11.cell? ⟨w3.heap.size, 0, none⟩ = some (.slice ua23 un24 uc25) ∧ w11.cell? ⟨w3.heap.size, 1, none⟩ = some (.slice ta26 tn27 tc28)) := ⟨Keeps.cell hb11 K180.out.1 (by have z0 := Z6.out; have z1 := Z19.out; have z2 := Z32.out; have z3 := Z51.out; have z4 := Z77.out; have z5 := Z101.out; have z6 := Z127.out; have z7 := Z138.out; have z8 := Z159.out; have z9 := Z175.out; omega), Keeps.cell hb11 K180.out.2 (by have z0 := Z6.out; have z1 := Z19.out; have z2 := Z32.out; have z3 := Z51.out; have z4 := Z77.out; have z5 := Z101.out; have z6 := Z127.out; have z7 := Z138.out; have z8 := Z159.out; have z9 := Z175.out; omega)⟩
    have K198 : Hid (w11.cell? ⟨w4.heap.size, 0, none⟩ = some (.slice ua40 un41 uc42) ∧ w11.cell? ⟨w4.heap.size, 1, none⟩ = some (.slice ta43 tn44 tc45)) := ⟨Keeps.cell hb11 K181.out.1 (by have z0 := Z6.out; have z1 := Z19.out; have z2 := Z32.out; have z3 := Z51.out; have z4 := Z77.out; have z5 := Z101.out; have z6 := Z127.out; have z7 := Z138.out; have z8 := Z159.out; have z9 := Z175.out; omega), Keeps.cell hb11 K181.out.2 (by have z0 := Z6.out; have z1 := Z19.out; have z2 := Z32.out; have z3 := Z51.out; have z4 := Z77.out; have z5 := Z101.out; have z6 := Z127.out; have z7 := Z138.out; have z8 := Z159.out; have z9 := Z175.out; omega)⟩
    have K199 : Hid (w11.cell? ⟨w5.heap.size, 0, none⟩ = some (.slice ua64 un65 uc66) ∧ w11.cell? ⟨w5.heap.size, 1, none⟩ = some (.slice ta67 tn68 tc69)) := ⟨Keeps.cell hb11 K182.out.1 (by have z0 := Z6.out; have z1 := Z19.out; have z2 := Z32.out; have z3 := Z51.out; have z4 := Z77.out; have z5 := Z101.out; have z6 := Z127.out; have z7 := Z138.out; have z8 := Z159.out; have z9 := Z175.out; omega), Keeps.cell hb11 K182.out.2 (by have z0 := Z6.out; have z1 := Z19.out; have z2 := Z32.out; have z3 := Z51.out; have z4 := Z77.out; have z5 := Z101.out; have z6 := Z127.out; have z7 := Z138.out; have z8 := Z159.out; have z9 := Z175.out; omega)⟩
    have B200 : Hid (Below w.heap.size w w11) := Keeps.below B183.out hb11 (by have z0 := Z6.out; have z1 := Z19.out; have z2 := Z32.out; have z3 := Z51.out; have z4 := Z77.out; have z5 := Z101.out; have z6 := Z127.out; have z7 := Z138.out; have z8 := Z159.out; have z9 := Z175.out; omega) B183.out.size
    clear hm hb11
    have cc201 : w11.cell? ⟨w.heap.size, 0, none⟩ = some (.slice ua0 un0 uc0) := K196.out.1
    have cc202 : w11.cell? ⟨w.heap.size, 1, none⟩ = some (.slice ta0 tn0 tc0) := K196.out.2
    have cc203 : w11.cell? ⟨w3.heap.size, 0, none⟩ = some (.slice ua23 un24 uc25) := K197.out.1
    have cc204 : w11.cell? ⟨w3.heap.size, 1, none⟩ = some (.slice ta26 tn27 tc28) := K197.out.2
    have cc205 : w11.cell? ⟨w4.heap.size, 0, none⟩ = some (.slice ua40 un41 uc42) := K198.out.1
    have cc206 : w11.cell? ⟨w4.heap.size, 1, none⟩ = some (.slice ta43 tn44 tc45) := K198.out.2
    have cc207 : w11.cell? ⟨w5.heap.size, 0, none⟩ = some (.slice ua64 un65 uc66) := K199.out.1
    have cc208 : w11.cell? ⟨w5.heap.size, 1, none⟩ = some (.slice ta67 tn68 tc69) := K199.out.2
    go_wp2_with fail
    refine (Krl.q_held (.slice ua64 un65 uc66) (.slice ta67 tn68 tc69) _ _ 1 nx184 _ O193.out).mono ?_
    rintro e w12 ⟨rfl, hb12⟩
    clear cc201 cc202 cc203 cc204 cc205 cc206 cc207 cc208
    have Z209 : Hid (w11.heap.size ≤ w12.heap.size) := hb12.size
    have O210 : Hid (Krl.QOwn w12 (w2.heap.size) (w3.heap.size) (.slice ua23 un24 uc25) (.slice ta26 tn27 tc28) (Rel.chooseV (ns0, Lls.lplain rs0) i1 i2 i3)) := Krl.qOwn_below O195.out hb12
    have O211 : Hid (Krl.QMarked w12 (w4.heap.size + 1) (w5.heap.size) (.slice ua64 un65 uc66) (.slice ta67 tn68 tc69) 1 nx184) := Krl.qMarked_below O193.out hb12
    have K212 : Hid (w12.cell? ⟨w.heap.size, 0, none⟩ = some (.slice ua0 un0 uc0) ∧ w12.cell? ⟨w.heap.size, 1, none⟩ = some (.slice ta0 tn0 tc0)) := ⟨(hb12.cell (p := ⟨w.heap.size, 0, none⟩) (Frame.cell_lt K196.out.1)).trans K196.out.1, (hb12.cell (p := ⟨w.heap.size, 1, none⟩) (Frame.cell_lt K196.out.2)).trans K196.out.2⟩
    have K213 : Hid (w12.cell? ⟨w3.heap.size, 0, none⟩ = some (.slice ua23 un24 uc25) ∧ w12.cell? ⟨w3.heap.size, 1, none⟩ = some (.slice ta26 tn27 tc28)) := ⟨(hb12.cell (p := ⟨w3.heap.size, 0, none⟩) (Frame.cell_lt K197.out.1)).trans K197.out.1, (hb12.cell (p := ⟨w3.heap.size, 1, none⟩) (Frame.cell_lt K197.out.2)).trans K197.out.2⟩
    have K214 : Hid (w12.cell? ⟨w4.heap.size, 0, none⟩ = some (.slice ua40 un41 uc42) ∧ w12.cell? ⟨w4.heap.size, 1, none⟩ = some (.slice ta43 tn44 tc45)) := ⟨(hb12.cell (p := ⟨w4.heap.size, 0, none⟩) (Frame.cell_lt K198.out.1)).trans K198.out.1, (hb12.cell (p := ⟨w4.heap.size, 1, none⟩) (Frame.cell_lt K198.out.2)).trans K198.out.2⟩
    have K215 : Hid (w12.cell? ⟨w5.heap.size, 0, none⟩ = some (.slice ua64 un65 uc66) ∧ w12.cell? ⟨w5.heap.size, 1, none⟩ = some (.slice ta67 tn68 tc69)) := ⟨(hb12.cell (p := ⟨w5.heap.size, 0, none⟩) (Frame.cell_lt K199.out.1)).trans K199.out.1, (hb12.cell (p := ⟨w5.heap.size, 1, none⟩) (Frame.cell_lt K199.out.2)).trans K199.out.2⟩
    have B216 : Hid (Below w.heap.size w w12) := Frame.next B200.out hb12 B200.out.size
    clear hb12
    have cc223 : w12.cell? ⟨w.heap.size, 0, none⟩ = some (.slice ua0 un0 uc0) := K212.out.1
    have cc224 : w12.cell? ⟨w.heap.size, 1, none⟩ = some (.slice ta0 tn0 tc0) := K212.out.2
    have cc225 : w12.cell? ⟨w3.heap.size, 0, none⟩ = some (.slice ua23 un24 uc25) := K213.out.1
    have cc226 : w12.cell? ⟨w3.heap.size, 1, none⟩ = some (.slice ta26 tn27 tc28) := K213.out.2
    have cc227 : w12.cell? ⟨w4.heap.size, 0, none⟩ = some (.slice ua40 un41 uc42) := K214.out.1
    have cc228 : w12.cell? ⟨w4.heap.size, 1, none⟩ = some (.slice ta43 tn44 tc45) := K214.out.2
    have cc229 : w12.cell? ⟨w5.heap.size, 0, none⟩ = some (.slice ua64 un65 uc66) := K215.out.1
    have cc230 : w12.cell? ⟨w5.heap.size, 1, none⟩ = some (.slice ta67 tn68 tc69) := K215.out.2
    go_wp2_with fail
    refine (Krl.q_to6 (.slice ua0 un0 uc0) (.slice ta0 tn0 tc0) (ns0, Lls.lplain rs0) _ (Krl.qIs_below A0.out B216.out)).mono ?_
    rintro e w13 ⟨ua217, un218, uc219, ta220, tn221, tc222, rfl, ho, hb13⟩
    clear cc223 cc224 cc225 cc226 cc227 cc228 cc229 cc230
    have O231 : Hid (Krl.QOwn w13 (w12.heap.size) (w13.heap.size) (.slice ua217 un218 uc219) (.slice ta220 tn221 tc222) (ns0, Lls.lplain rs0)) := ho
    have Z232 : Hid (w12.heap.size ≤ w13.heap.size) := hb13.size
    have O233 : Hid (Krl.QOwn w13 (w2.heap.size) (w3.heap.size) (.slice ua23 un24 uc25) (.slice ta26 tn27 tc28) (Rel.chooseV (ns0, Lls.lplain rs0) i1 i2 i3)) := Krl.qOwn_below O210.out hb13
    have O234 : Hid (Krl.QMarked w13 (w4.heap.size + 1) (w5.heap.size) (.slice ua64 un65 uc66) (.slice ta67 tn68 tc69) 1 nx184) := Krl.qMarked_below O211.out hb13
    have K235 : Hid (w13.cell? ⟨w.heap.size, 0, none⟩ = some (.slice ua0 un0 uc0) ∧ w13.cell? ⟨w.heap.size, 1, none⟩ = some (.slice ta0 tn0 tc0)) := ⟨(hb13.cell (p := ⟨w.heap.size, 0, none⟩) (Frame.cell_lt K212.out.1)).trans K212.out.1, (hb13.cell (p := ⟨w.heap.size, 1, none⟩) (Frame.cell_lt K212.out.2)).trans K212.out.2⟩
    have K236 : Hid (w13.cell? ⟨w3.heap.size, 0, none⟩ = some (.slice ua23 un24 uc25) ∧ w13.cell? ⟨w3.heap.size, 1, none⟩ = some (.slice ta26 tn27 tc28)) := ⟨(hb13.cell (p := ⟨w3.heap.size, 0, none⟩) (Frame.cell_lt K213.out.1)).trans K213.out.1, (hb13.cell (p := ⟨w3.heap.size, 1, none⟩) (Frame.cell_lt K213.out.2)).trans K213.out.2⟩
    have K237 : Hid (w13.cell? ⟨w4.heap.size, 0, none⟩ = some (.slice ua40 un41 uc42) ∧ w13.cell? ⟨w4.heap.size, 1, none⟩ = some (.slice ta43 tn44 tc45)) := ⟨(hb13.cell (p := ⟨w4.heap.size, 0, none⟩) (Frame.cell_lt K214.out.1)).trans K214.out.1, (hb13.cell (p := ⟨w4.heap.size, 1, none⟩) (Frame.cell_lt K214.out.2)).trans K214.out.2⟩
    have K238 : Hid (w13.cell? ⟨w5.heap.size, 0, none⟩ = some (.slice ua64 un65 uc66) ∧ w13.cell? ⟨w5.heap.size, 1, none⟩ = some (.slice ta67 tn68 tc69)) := ⟨(hb13.cell (p := ⟨w5.heap.size, 0, none⟩) (Frame.cell_lt K215.out.1)).trans K215.out.1, (hb13.cell (p := ⟨w5.heap.size, 1, none⟩) (Frame.cell_lt K215.out.2)).trans K215.out.2⟩
    have B239 : Hid (Below w.heap.size w w13) := Frame.next B216.out hb13 B216.out.size
    clear ho hb13
    have cc247 : w13.cell? ⟨w.heap.size, 0, none⟩ = some (.slice ua0 un0 uc0) := K235.out.1
    have cc248 : w13.cell? ⟨w.heap.size, 1, none⟩ = some (.slice ta0 tn0 tc0) := K235.out.2
    have cc249 : w13.cell? ⟨w3.heap.size, 0, none⟩ = some (.slice ua23 un24 uc25) := K236.out.1
    have cc250 : w13.cell? ⟨w3.heap.size, 1, none⟩ = some (.slice ta26 tn27 tc28) := K236.out.2
    have cc251 : w13.cell? ⟨w4.heap.size, 0, none⟩ = some (.slice ua40 un41 uc42) := K237.out.1
    have cc252 : w13.cell? ⟨w4.heap.size, 1, none⟩ = some (.slice ta43 tn44 tc45) := K237.out.2
    have cc253 : w13.cell? ⟨w5.heap.size, 0, none⟩ = some (.slice ua64 un65 uc66) := K238.out.1
    have cc254 : w13.cell? ⟨w5.heap.size, 1, none⟩ = some (.slice ta67 tn68 tc69) := K238.out.2
    go_wp2_with fail
    refine (Rfc.impl_Choose (.slice ua217 un218 uc219) (.slice ta220 tn221 tc222) (ns0, Lls.lplain rs0) i1 i2 i3 _ (Krl.qOwn_is O231.out) (HTab.out.below B239.out)).mono ?_
    rintro e w14 ⟨ua241, un242, uc243, ta244, tn245, tc246, rfl, ho0, hb14⟩
    clear cc247 cc248 cc249 cc250 cc251 cc252 cc253 cc254
    have O255 : Hid (Krl.QOwn w14 (w13.heap.size) (w14.heap.size) (.slice ua241 un242 uc243) (.slice ta244 tn245 tc246) (Rel.chooseV (ns0, Lls.lplain rs0) i1 i2 i3)) := ho0
    have Z256 : Hid (w13.heap.size ≤ w14.heap.size) := hb14.size
    have O257 : Hid (Krl.QOwn w14 (w2.heap.size) (w3.heap.size) (.slice ua23 un24 uc25) (.slice ta26 tn27 tc28) (Rel.chooseV (ns0, Lls.lplain rs0) i1 i2 i3)) := Krl.qOwn_below O233.out hb14
    have O258 : Hid (Krl.QMarked w14 (w4.heap.size + 1) (w5.heap.size) (.slice ua64 un65 uc66) (.slice ta67 tn68 tc69) 1 nx184) := Krl.qMarked_below O234.out hb14
    have K259 : Hid (w14.cell? ⟨w.heap.size, 0, none⟩ = some (.slice ua0 un0 uc0) ∧ w14.cell? ⟨w.heap.size, 1, none⟩ = some (.slice ta0 tn0 tc0)) := ⟨(hb14.cell (p := ⟨w.heap.size, 0, none⟩) (Frame.cell_lt K235.out.1)).trans K235.out.1, (hb14.cell (p := ⟨w.heap.size, 1, none⟩) (Frame.cell_lt K235.out.2)).trans K235.out.2⟩
    have K260 : Hid (w14.cell? ⟨w3.heap.size, 0, none⟩ = some (.slice ua23 un24 uc25) ∧ w14.cell? ⟨w3.heap.size, 1, none⟩ = some (.slice ta26 tn27 tc28)) := ⟨(hb14.cell (p := ⟨w3.heap.size, 0, none⟩) (Frame.cell_lt K236.out.1)).trans K236.out.1, (hb14.cell (p := ⟨w3.heap.size, 1, none⟩) (Frame.cell_lt K236.out.2)).trans K236.out.2⟩
    have K261 : Hid (w14.cell? ⟨w4.heap.size, 0, none⟩ = some (.slice ua40 un41 uc42) ∧ w14.cell? ⟨w4.heap.size, 1, none⟩ = some (.slice ta43 tn44 tc45)) := ⟨(hb14.cell (p := ⟨w4.heap.size, 0, none⟩) (Frame.cell_lt K237.out.1)).trans K237.out.1, (hb14.cell (p := ⟨w4.heap.size, 1, none⟩) (Frame.cell_lt K237.out.2)).trans K237.out.2⟩
    have K262 : Hid (w14.cell? ⟨w5.heap.size, 0, none⟩ = some (.slice ua64 un65 uc66) ∧ w14.cell? ⟨w5.heap.size, 1, none⟩ = some (.slice ta67 tn68 tc69)) := ⟨(hb14.cell (p := ⟨w5.heap.size, 0, none⟩) (Frame.cell_lt K238.out.1)).trans K238.out.1, (hb14.cell (p := ⟨w5.heap.size, 1, none⟩) (Frame.cell_lt K238.out.2)).trans K238.out.2⟩
    have B263 : Hid (Below w.heap.size w w14) := Frame.next B239.out hb14 B239.out.size
    clear ho0 hb14
    have O264 : Hid (Krl.QOwn (w14.alloc (.cells #[.slice ua241 un242 uc243, .slice ta244 tn245 tc246] 60)) (w2.heap.size) (w3.heap.size) (.slice ua23 un24 uc25) (.slice ta26 tn27 tc28) (Rel.chooseV (ns0, Lls.lplain rs0) i1 i2 i3)) := Krl.qOwn_below O257.out ((Below.refl w14.heap.size w14).alloc (Nat.le_refl _) (.cells #[.slice ua241 un242 uc243, .slice ta244 tn245 tc246] 60))
    have O265 : Hid (Krl.QMarked (w14.alloc (.cells #[.slice ua241 un242 uc243, .slice ta244 tn245 tc246] 60)) (w4.heap.size + 1) (w5.heap.size) (.slice ua64 un65 uc66) (.slice ta67 tn68 tc69) 1 nx184) := Krl.qMarked_below O258.out ((Below.refl w14.heap.size w14).alloc (Nat.le_refl _) (.cells #[.slice ua241 un242 uc243, .slice ta244 tn245 tc246] 60))
    have O266 : Hid (Krl.QOwn (w14.alloc (.cells #[.slice ua241 un242 uc243, .slice ta244 tn245 tc246] 60)) (w13.heap.size) (w14.heap.size) (.slice ua241 un242 uc243) (.slice ta244 tn245 tc246) (Rel.chooseV (ns0, Lls.lplain rs0) i1 i2 i3)) := Krl.qOwn_below O255.out ((Below.refl w14.heap.size w14).alloc (Nat.le_refl _) (.cells #[.slice ua241 un242 uc243, .slice ta244 tn245 tc246] 60))
    have K267 : Hid ((w14.alloc (.cells #[.slice ua241 un242 uc243, .slice ta244 tn245 tc246] 60)).cell? ⟨w.heap.size, 0, none⟩ = some (.slice ua0 un0 uc0) ∧ (w14.alloc (.cells #[.slice ua241 un242 uc243, .slice ta244 tn245 tc246] 60)).cell? ⟨w.heap.size, 1, none⟩ = some (.slice ta0 tn0 tc0)) := ⟨(((Below.refl w14.heap.size w14).alloc (Nat.le_refl _) (.cells #[.slice ua241 un242 uc243, .slice ta244 tn245 tc246] 60)).cell (p := ⟨w.heap.size, 0, none⟩) (Frame.cell_lt K259.out.1)).trans K259.out.1, (((Below.refl w14.heap.size w14).alloc (Nat.le_refl _) (.cells #[.slice ua241 un242 uc243, .slice ta244 tn245 tc246] 60)).cell (p := ⟨w.heap.size, 1, none⟩) (Frame.cell_lt K259.out.2)).trans K259.out.2⟩
    have K268 : Hid ((w14.alloc (.cells #[.slice ua241 un242 uc243, .slice ta244 tn245 tc246] 60)).cell? ⟨w3.heap.size, 0, none⟩ = some (.slice ua23 un24 uc25) ∧ (w14.alloc (.cells #[.slice ua241 un242 uc243, .slice ta244 tn245 tc246] 60)).cell? ⟨w3.heap.size, 1, none⟩ = some (.slice ta26 tn27 tc28)) := ⟨(((Below.refl w14.heap.size w14).alloc (Nat.le_refl _) (.cells #[.slice ua241 un242 uc243, .slice ta244 tn245 tc246] 60)).cell (p := ⟨w3.heap.size, 0, none⟩) (Frame.cell_lt K260.out.1)).trans K260.out.1, (((Below.refl w14.heap.size w14).alloc (Nat.le_refl _) (.cells #[.slice ua241 un242 uc243, .slice ta244 tn245 tc246] 60)).cell (p := ⟨w3.heap.size, 1, none⟩) (Frame.cell_lt K260.out.2)).trans K260.out.2⟩
    have K269 : Hid ((w14.alloc (.cells #[.slice ua241 un242 uc243, .slice ta244 tn245 tc246] 60)).cell? ⟨w4.heap.size, 0, none⟩ = some (.slice ua40 un41 uc42) ∧ (w14.alloc (.cells #[.slice ua241 un242 uc243, .slice ta244 tn245 tc246] 60)).cell? ⟨w4.heap.size, 1, none⟩ = some (.slice ta43 tn44 tc45)) := ⟨(((Below.refl w14.heap.size w14).alloc (Nat.le_refl _) (.cells #[.slice ua241 un242 uc243, .slice ta244 tn245 tc246] 60)).cell (p := ⟨w4.heap.size, 0, none⟩) (Frame.cell_lt K261.out.1)).trans K261.out.1, (((Below.refl w14.heap.size w14).alloc (Nat.le_refl _) (.cells #[.slice ua241 un242 uc243, .slice ta244 tn245 tc246] 60)).cell (p := ⟨w4.heap.size, 1, none⟩) (Frame.cell_lt K261.out.2)).trans K261.out.2⟩
    have K270 : Hid ((w14.alloc (.cells #[.slice ua241 un242 uc243, .slice ta244 tn245 tc246] 60)).cell? ⟨w5.heap.size, 0, none⟩ = some (.slice ua64 un65 uc66) ∧ (w14.alloc (.cells #[.slice ua241 un242 uc243, .slice ta244 tn245 tc246] 60)).cell? ⟨w5.heap.size, 1, none⟩ = some (.slice ta67 tn68 tc69)) := ⟨(((Below.refl w14.heap.size w14).alloc (Nat.le_refl _) (.cells #[.slice ua241 un242 uc243, .slice ta244 tn245 tc246] 60)).cell (p := ⟨w5.heap.size, 0, none⟩) (Frame.cell_lt K262.out.1)).trans K262.out.1, (((Below.refl w14.heap.size w14).alloc (Nat.le_refl _) (.cells #[.slice ua241 un242 uc243, .slice ta244 tn245 tc246] 60)).cell (p := ⟨w5.heap.size, 1, none⟩) (Frame.cell_lt K262.out.2)).trans K262.out.2⟩
    have B271 : Hid (Below w.heap.size w (w14.alloc (.cells #[.slice ua241 un242 uc243, .slice ta244 tn245 tc246] 60))) := Frame.next B263.out ((Below.refl w14.heap.size w14).alloc (Nat.le_refl _) (.cells #[.slice ua241 un242 uc243, .slice ta244 tn245 tc246] 60)) B263.out.size
    have K272 : Hid ((w14.alloc (.cells #[.slice ua241 un242 uc243, .slice ta244 tn245 tc246] 60)).cell? ⟨w14.heap.size, 0, none⟩ = some (.slice ua241 un242 uc243) ∧ (w14.alloc (.cells #[.slice ua241 un242 uc243, .slice ta244 tn245 tc246] 60)).cell? ⟨w14.heap.size, 1, none⟩ = some (.slice ta244 tn245 tc246)) := by
      show _ ∧ _
      refine ⟨?_, ?_⟩ <;> rw [World.cell?_alloc_at _ _ _ _ rfl] <;> rfl
    have E273 : Hid ((w14.alloc (.cells #[.slice ua241 un242 uc243, .slice ta244 tn245 tc246] 60)).heap.size = w14.heap.size + 1) := by show _ = _; simp
    have cc274 : (w14.alloc (.cells #[.slice ua241 un242 uc243, .slice ta244 tn245 tc246] 60)).cell? ⟨w.heap.size, 0, none⟩ = some (.slice ua0 un0 uc0) := K267.out.1
    have cc275 : (w14.alloc (.cells #[.slice ua241 un242 uc243, .slice ta244 tn245 tc246] 60)).cell? ⟨w.heap.size, 1, none⟩ = some (.slice ta0 tn0 tc0) := K267.out.2
    have cc276 : (w14.alloc (.cells #[.slice ua241 un242 uc243, .slice ta244 tn245 tc246] 60)).cell? ⟨w3.heap.size, 0, none⟩ = some (.slice ua23 un24 uc25) := K268.out.1
    have cc277 : (w14.alloc (.cells #[.slice ua241 un242 uc243, .slice ta244 tn245 tc246] 60)).cell? ⟨w3.heap.size, 1, none⟩ = some (.slice ta26 tn27 tc28) := K268.out.2
    have cc278 : (w14.alloc (.cells #[.slice ua241 un242 uc243, .slice ta244 tn245 tc246] 60)).cell? ⟨w4.heap.size, 0, none⟩ = some (.slice ua40 un41 uc42) := K269.out.1
    have cc279 : (w14.alloc (.cells #[.slice ua241 un242 uc243, .slice ta244 tn245 tc246] 60)).cell? ⟨w4.heap.size, 1, none⟩ = some (.slice ta43 tn44 tc45) := K269.out.2
    have cc280 : (w14.alloc (.cells #[.slice ua241 un242 uc243, .slice ta244 tn245 tc246] 60)).cell? ⟨w5.heap.size, 0, none⟩ = some (.slice ua64 un65 uc66) := K270.out.1
    have cc281 : (w14.alloc (.cells #[.slice ua241 un242 uc243, .slice ta244 tn245 tc246] 60)).cell? ⟨w5.heap.size, 1, none⟩ = some (.slice ta67 tn68 tc69) := K270.out.2
    have cc282 : (w14.alloc (.cells #[.slice ua241 un242 uc243, .slice ta244 tn245 tc246] 60)).cell? ⟨w14.heap.size, 0, none⟩ = some (.slice ua241 un242 uc243) := K272.out.1
    have cc283 : (w14.alloc (.cells #[.slice ua241 un242 uc243, .slice ta244 tn245 tc246] 60)).cell? ⟨w14.heap.size, 1, none⟩ = some (.slice ta244 tn245 tc246) := K272.out.2
    go_wp2_with fail
    refine (Krl.q_eq (.slice ua241 un242 uc243) (.slice ta244 tn245 tc246) (.slice ua23 un24 uc25) (.slice ta26 tn27 tc28) (Rel.chooseV (ns0, Lls.lplain rs0) i1 i2 i3) (Rel.chooseV (ns0, Lls.lplain rs0) i1 i2 i3) _ (Krl.qOwn_is O266.out) (Krl.qOwn_is O264.out)).mono ?_
    rintro e w15 ⟨rfl, hb15⟩
    clear cc274 cc275 cc276 cc277 cc278 cc279 cc280 cc281 cc282 cc283
    rw [decide_eq_true (Eq.refl ((Rel.chooseV (ns0, Lls.lplain rs0) i1 i2 i3)))]
    have Z284 : Hid (w14.heap.size + 1 ≤ w15.heap.size) := (by have hh := hb15.size; rw [E273.out] at hh; exact hh)
    have O285 : Hid (Krl.QOwn w15 (w2.heap.size) (w3.heap.size) (.slice ua23 un24 uc25) (.slice ta26 tn27 tc28) (Rel.chooseV (ns0, Lls.lplain rs0) i1 i2 i3)) := Krl.qOwn_below O264.out hb15
    have O286 : Hid (Krl.QMarked w15 (w4.heap.size + 1) (w5.heap.size) (.slice ua64 un65 uc66) (.slice ta67 tn68 tc69) 1 nx184) := Krl.qMarked_below O265.out hb15
    have O287 : Hid (Krl.QOwn w15 (w13.heap.size) (w14.heap.size) (.slice ua241 un242 uc243) (.slice ta244 tn245 tc246) (Rel.chooseV (ns0, Lls.lplain rs0) i1 i2 i3)) := Krl.qOwn_below O266.out hb15
    have K288 : Hid (w15.cell? ⟨w.heap.size, 0, none⟩ = some (.slice ua0 un0 uc0) ∧ w15.cell? ⟨w.heap.size, 1, none⟩ = some (.slice ta0 tn0 tc0)) := ⟨(hb15.cell (p := ⟨w.heap.size, 0, none⟩) (Frame.cell_lt K267.out.1)).trans K267.out.1, (hb15.cell (p := ⟨w.heap.size, 1, none⟩) (Frame.cell_lt K267.out.2)).trans K267.out.2⟩
    have K289 : Hid (w15.cell? ⟨w3.heap.size, 0, none⟩ = some (.slice ua23 un24 uc25) ∧ w15.cell? ⟨w3.heap.size, 1, none⟩ = some (.slice ta26 tn27 tc28)) := ⟨(hb15.cell (p := ⟨w3.heap.size, 0, none⟩) (Frame.cell_lt K268.out.1)).trans K268.out.1, (hb15.cell (p := ⟨w3.heap.size, 1, none⟩) (Frame.cell_lt K268.out.2)).trans K268.out.2⟩
    have K290 : Hid (w15.cell? ⟨w4.heap.size, 0, none⟩ = some (.slice ua40 un41 uc42) ∧ w15.cell? ⟨w4.heap.size, 1, none⟩ = some (.slice ta43 tn44 tc45)) := ⟨(hb15.cell (p := ⟨w4.heap.size, 0, none⟩) (Frame.cell_lt K269.out.1)).trans K269.out.1, (hb15.cell (p := ⟨w4.heap.size, 1, none⟩) (Frame.cell_lt K269.out.2)).trans K269.out.2⟩
    have K291 : Hid (w15.cell? ⟨w5.heap.size, 0, none⟩ = some (.slice ua64 un65 uc66) ∧ w15.cell? ⟨w5.heap.size, 1, none⟩ = some (.slice ta67 tn68 tc69)) := ⟨(hb15.cell (p := ⟨w5.heap.size, 0, none⟩) (Frame.cell_lt K270.out.1)).trans K270.out.1, (hb15.cell (p := ⟨w5.heap.size, 1, none⟩) (Frame.cell_lt K270.out.2)).trans K270.out.2⟩
    have K292 : Hid (w15.cell? ⟨w14.heap.size, 0, none⟩ = some (.slice ua241 un242 uc243) ∧ w15.cell? ⟨w14.heap.size, 1, none⟩ = some (.slice ta244 tn245 tc246)) := ⟨(hb15.cell (p := ⟨w14.heap.size, 0, none⟩) (Frame.cell_lt K272.out.1)).trans K272.out.1, (hb15.cell (p := ⟨w14.heap.size, 1, none⟩) (Frame.cell_lt K272.out.2)).trans K272.out.2⟩
    have B293 : Hid (Below w.heap.size w w15) := Frame.next B271.out hb15 B271.out.size
    clear hb15
    have cc294 : w15.cell? ⟨w.heap.size, 0, none⟩ = some (.slice ua0 un0 uc0) := K288.out.1
    have cc295 : w15.cell? ⟨w.heap.size, 1, none⟩ = some (.slice ta0 tn0 tc0) := K288.out.2
    have cc296 : w15.cell? ⟨w3.heap.size, 0, none⟩ = some (.slice ua23 un24 uc25) := K289.out.1
    have cc297 : w15.cell? ⟨w3.heap.size, 1, none⟩ = some (.slice ta26 tn27 tc28) := K289.out.2
    have cc298 : w15.cell? ⟨w4.heap.size, 0, none⟩ = some (.slice ua40 un41 uc42) := K290.out.1
    have cc299 : w15.cell? ⟨w4.heap.size, 1, none⟩ = some (.slice ta43 tn44 tc45) := K290.out.2
    have cc300 : w15.cell? ⟨w5.heap.size, 0, none⟩ = some (.slice ua64 un65 uc66) := K291.out.1
    have cc301 : w15.cell? ⟨w5.heap.size, 1, none⟩ = some (.slice ta67 tn68 tc69) := K291.out.2
    have cc302 : w15.cell? ⟨w14.heap.size, 0, none⟩ = some (.slice ua241 un242 uc243) := K292.out.1
    have cc303 : w15.cell? ⟨w14.heap.size, 1, none⟩ = some (.slice ta244 tn245 tc246) := K292.out.2
    go_wp2_with fail
    refine (Krl.q_held (.slice ua64 un65 uc66) (.slice ta67 tn68 tc69) _ _ 1 nx184 _ O286.out).mono ?_
    rintro e w16 ⟨rfl, hb16⟩
    clear cc294 cc295 cc296 cc297 cc298 cc299 cc300 cc301 cc302 cc303
    have Z304 : Hid (w15.heap.size ≤ w16.heap.size) := hb16.size
    have O305 : Hid (Krl.QOwn w16 (w2.heap.size) (w3.heap.size) (.slice ua23 un24 uc25) (.slice ta26 tn27 tc28) (Rel.chooseV (ns0, Lls.lplain rs0) i1 i2 i3)) := Krl.qOwn_below O285.out hb16
    have O306 : Hid (Krl.QMarked w16 (w4.heap.size + 1) (w5.heap.size) (.slice ua64 un65 uc66) (.slice ta67 tn68 tc69) 1 nx184) := Krl.qMarked_below O286.out hb16
    have O307 : Hid (Krl.QOwn w16 (w13.heap.size) (w14.heap.size) (.slice ua241 un242 uc243) (.slice ta244 tn245 tc246) (Rel.chooseV (ns0, Lls.lplain rs0) i1 i2 i3)) := Krl.qOwn_below O287.out hb16
    have K308 : Hid (w16.cell? ⟨w.heap.size, 0, none⟩ = some (.slice ua0 un0 uc0) ∧ w16.cell? ⟨w.heap.size, 1, none⟩ = some (.slice ta0 tn0 tc0)) := ⟨(hb16.cell (p := ⟨w.heap.size, 0, none⟩) (Frame.cell_lt K288.out.1)).trans K288.out.1, (hb16.cell (p := ⟨w.heap.size, 1, none⟩) (Frame.cell_lt K288.out.2)).trans K288.out.2⟩
    have K309 : Hid (w16.cell? ⟨w3.heap.size, 0, none⟩ = some (.slice ua23 un24 uc25) ∧ w16.cell? ⟨w3.heap.size, 1, none⟩ = some (.slice ta26 tn27 tc28)) := ⟨(hb16.cell (p := ⟨w3.heap.size, 0, none⟩) (Frame.cell_lt K289.out.1)).trans K289.out.1, (hb16.cell (p := ⟨w3.heap.size, 1, none⟩) (Frame.cell_lt K289.out.2)).trans K289.out.2⟩
    have K310 : Hid (w16.cell? ⟨w4.heap.size, 0, none⟩ = some (.slice ua40 un41 uc42) ∧ w16.cell? ⟨w4.heap.size, 1, none⟩ = some (.slice ta43 tn44 tc45)) := ⟨(hb16.cell (p := ⟨w4.heap.size, 0, none⟩) (Frame.cell_lt K290.out.1)).trans K290.out.1, (hb16.cell (p := ⟨w4.heap.size, 1, none⟩) (Frame.cell_lt K290.out.2)).trans K290.out.2⟩
    have K311 : Hid (w16.cell? ⟨w5.heap.size, 0, none⟩ = some (.slice ua64 un65 uc66) ∧ w16.cell? ⟨w5.heap.size, 1, none⟩ = some (.slice ta67 tn68 tc69)) := ⟨(hb16.cell (p := ⟨w5.heap.size, 0, none⟩) (Frame.cell_lt K291.out.1)).trans K291.out.1, (hb16.cell (p := ⟨w5.heap.size, 1, none⟩) (Frame.cell_lt K291.out.2)).trans K291.out.2⟩
    have K312 : Hid (w16.cell? ⟨w14.heap.size, 0, none⟩ = some (.slice ua241 un242 uc243) ∧ w16.cell? ⟨w14.heap.size, 1, none⟩ = some (.slice ta244 tn245 tc246)) := ⟨(hb16.cell (p := ⟨w14.heap.size, 0, none⟩) (Frame.cell_lt K292.out.1)).trans K292.out.1, (hb16.cell (p := ⟨w14.heap.size, 1, none⟩) (Frame.cell_lt K292.out.2)).trans K292.out.2⟩
    have B313 : Hid (Below w.heap.size w w16) := Frame.next B293.out hb16 B293.out.size
    clear hb16
    go_wp2
    go_ret
    exact ⟨rfl, B313.out⟩

set_option maxRecDepth 100000 in
theorem contract (H : Type) (enc : TypeId × Value → H) (W : World) (base : Nat) (args : Array Value) (ds gs : List (DataW H)) (before : List MemPlace)
    (hval0 : ∀ (j : Nat) t v, Tryd.f5.params[j]? = some t → args[j]? = some v → Value.okWide Tryd.prog W .any base t v)
    (hW : DataW.Whole enc Tryd.prog Tryd.f5.params.toList Rows.fnExactChooseSpec.vars false W args.toList ds gs before) (hL : laidMetH Tryd.prog Rows.fnExactChooseRow.laid W) :
    Calls Tryd.prog 5 args W fun e W' => ∃ v, e = .returned v ∧ Rows.fnExactChooseSpec.post enc Tryd.prog Tryd.f5 false true false false W args v W' := by
  refine Frame.law_calls (tb := 4) laidOut (by kernel_rfl) (by kernel_rfl) (by kernel_rfl) Tryd.underlying4 hW (fun ds gs h1 h2 => ?_) ?_
  · rw [Tryd.params5] at h1
    match ds, gs, h1, h2 with
    | [_, _, _, _], [_], _, _ => rfl
  · obtain ⟨p, q, hA0, _, _, _, _⟩ := hW
    have hval : ∀ (j : Nat) t v, Tryd.f5.params[j]? = some t → args[j]? = some v → Value.okWide Tryd.prog W .any base t v := hval0
    have hA : DataW.TrodAll enc Tryd.prog W 0 (fun _ => true) true Tryd.f5.params.toList args.toList ds p := hA0
    rw [Tryd.params5] at hA hval
    obtain ⟨v0, vs0, d0, ds0, p0, q0, hargs, rfl, rfl, h0, r0⟩ := trodAll_cons hA
    obtain ⟨v1, vs1, d1, ds1, p1, q1, rfl, rfl, rfl, h1, r1⟩ := trodAll_cons r0
    obtain ⟨v2, vs2, d2, ds2, p2, q2, rfl, rfl, rfl, h2, r2⟩ := trodAll_cons r1
    obtain ⟨v3, vs3, d3, ds3, p3, q3, rfl, rfl, rfl, h3, r3⟩ := trodAll_cons r2
    obtain ⟨rfl, rfl, rfl⟩ := trodAll_nil r3
    obtain rfl : args = #[v0, v1, v2, v3] := by cases args; simp_all
    obtain ⟨ua0, un0, uc0, ns0, ta0, tn0, tc0, rs0, rfl, wu0, wt0⟩ := Opr.relation_of (hval 0 58 v0 rfl rfl) h0
    obtain ⟨a1, rfl, rfl, rfl, w1⟩ := open_int Tryd.underlying3 (hval 1 3 v1 rfl rfl) h1
    obtain ⟨a2, rfl, rfl, rfl, w2⟩ := open_int Tryd.underlying3 (hval 2 3 v2 rfl rfl) h2
    obtain ⟨a3, rfl, rfl, rfl, w3⟩ := open_int Tryd.underlying3 (hval 3 3 v3 rfl rfl) h3
    exact walk ua0 un0 uc0 ns0 ta0 tn0 tc0 rs0 a1 a2 a3 W wu0 wt0 w1 w2 w3 (table0 hL)

theorem laid_met (os : Os) : laidMetH Tryd.prog Rows.fnExactChooseRow.laid ((World.doorLaid Tryd.prog 400 os).forCall (fun _ _ => 0) ⟨#[], #[.agg #[.slice none 0 0, .slice none 0 0], .int .i64 0, .int .i64 0, .int .i64 0], []⟩).memory :=
  laidMetH_of_parts3 (fuel := 8) (laidMet_of_run' 8 (by kernel_rfl) (by kernel_rfl)) (by kernel_rfl) (by kernel_rfl)

set_option maxRecDepth 100000 in
theorem lifted (os : Os) (started : os.Started) (H : Type) (enc : TypeId × Value → H) (F : Stop.Interp) :
    ReturnsInHanded {} Tryd.checked os 5 .any ((OpenSpec.ofChange Rows.fnExactChooseSpec).preRow enc Tryd.prog Tryd.f5 Rows.fnExactChooseRow.domain false Rows.fnExactChooseRow.laid) (((OpenSpec.ofChange Rows.fnExactChooseSpec).at F).post enc Tryd.prog Tryd.f5 false true false false) := by
  obtain ⟨places, hx⟩ : ∃ places, DataW.whole enc Tryd.prog ((World.doorLaid Tryd.prog 400 os).forCall (fun _ _ => 0) ⟨#[], #[.agg #[.slice none 0 0, .slice none 0 0], .int .i64 0, .int .i64 0, .int .i64 0], []⟩).memory Tryd.f5.params.toList Rows.fnExactChooseSpec.vars false #[Value.agg #[.slice none 0 0, .slice none 0 0], Value.int .i64 0, Value.int .i64 0, Value.int .i64 0].toList 8 = some ([.agg [.nil, .nil], .lit (.int .i64 0), .lit (.int .i64 0), .lit (.int .i64 0)], [Rows.laid_loop_example_g00641_impl_toldByKind], places) := ⟨MemPlace.row ⟨0, 0, none⟩ 9, by kernel_rfl⟩
  refine returnsInHanded_of_row (C := Tryd.checked) (s := OpenSpec.ofChange Rows.fnExactChooseSpec) own started (by kernel_rfl) Tryd.func5
    (witness_row_at (enc := enc) (C := Tryd.checked) false (World.doorLaid Tryd.prog 400 os) #[.agg #[.slice none 0 0, .slice none 0 0], .int .i64 0, .int .i64 0, .int .i64 0] rfl (by kernel_rfl) (by kernel_rfl) (by kernel_rfl)
      (OpenSpec.preRow_of_cond 8 hx (by kernel_rfl) (fun k hk => by cases hk) (by kernel_rfl) (laid_met os))) ?_
  intro W base args ds gs before hval hW _ _ _ hL _ _
  exact contract H enc W base args ds gs before hval hW hL

theorem said : Rows.FnExactChooseSaid :=
  OpenClaim.holds_of_cond 5 Tryd.f5 rfl rfl rfl rfl rfl rfl rfl ⟨rfl, rfl, rfl, rfl, rfl⟩ rfl rfl rfl rfl rfl (by kernel_rfl) Tryd.func5 (by kernel_rfl)
    (of_decide_eq_true (by kernel_rfl)) (by unfold Func.isWrapper; first | (rw [if_pos (by decide +kernel)]; kernel_rfl) | (rw [if_neg (by decide +kernel)]; exact ⟨rfl, rfl⟩))
    (fun os started H enc _ F => by rw [OpenClaim.pre_eq_preRow]; exact lifted os started H enc F)

theorem plain (f : FuncId) (fn : Func) (hf : Tryd.pinned.checked.prog.funcNamed "loop.example/g00641/laws.FnExactChoose" = some f) (hfn : Tryd.pinned.checked.prog.funcs[f]? = some fn) :
    false = Tryd.pinned.checked.prog.looks [] ∧ ∀ (j : Nat) t, fn.params[j]? = some t → Tryd.pinned.checked.prog.wantsStandIn t = false := by
  obtain rfl : f = 5 := Option.some.inj ((show Tryd.prog.funcNamed "loop.example/g00641/laws.FnExactChoose" = some 5 by kernel_rfl).symm.trans hf) |>.symm
  obtain rfl : fn = Tryd.f5 := (Option.some.inj (Tryd.func5.symm.trans hfn)).symm
  refine ⟨by kernel_rfl, fun j t ht => ?_⟩
  have hm := Array.mem_of_getElem? ht
  have hall : (Tryd.f5.params.toList.all fun u => !Tryd.prog.wantsStandIn u) = true := by kernel_rfl
  exact (show Tryd.prog.wantsStandIn t = false by simpa using List.all_eq_true.1 hall t (by simpa using hm))

/-- The card. -/
theorem proved : Rows.FnExactChooseCardSaid :=
  Claim7.holds_tied_plain_at .later [] _ _ _ _ said (fun _ h => by cases h) (by kernel_rfl) (fun _ h => by cases h) fnExactChoose_row_tie rfl ⟨rfl, rfl⟩ (by kernel_rfl) rfl plain (by kernel_rfl)
#print axioms proved

end Go.Proofs.YtdlcjcobfckncaaDoor.fnExactChoose
