/-
  Proved: at every argument the law FnExactFindRow returns true, and its arguments read afterwards as they did.
-/
import Derived.Test.YtciaegdgoabipaaFrame
import Derived.Test.YtciaegdgoabipaaTfn
import Derived.Test.YtciaegdgoabipaaOpn
import Derived.Test.YtciaegdgoabipaaKnr
import Derived.Test.YtciaegdgoabipaaKep
namespace Go.Proofs.Ytciaegdgoabipaa.fnExactFindRow
open Go.ChangeShapes Go.WideShapes Go.ChangeAt Go.RowKit

theorem own : ownKnob Try.prog.godebug = none := by kernel_rfl
theorem laidOut : laidOutB Try.prog = true := by kernel_rfl

open Go.Proofs.Ytciaegdgoabipaa.Kep

set_option maxRecDepth 100000 in
set_option maxHeartbeats 4000000 in
theorem walk (a0 : Option Addr) (n0 c0 : Nat) (rs0 : List Rws.RowV) (i1 : Int) (w : World) (h0 : Rws.IsRows w a0 n0 c0 rs0) (hf1 : (Lit.int .i64 i1).wf = true) :
    Calls Try.prog 6 #[.slice a0 n0 c0, .int .i64 i1] w fun e w' => e = .returned (.bool true) ∧ Below w.heap.size w w' := by
  have HR0 : Hid (Rws.IsRows w a0 n0 c0 rs0) := h0
  clear h0
  have HWF1 : Hid ((Lit.int .i64 i1).wf = true) := hf1
  clear hf1
  have B0 : Hid (Below w.heap.size w w) := Below.refl _ _
  go_enter Try.func6, Try.ntmps6
  go_wp2_with fail
  refine (Rws.szRowS a0 n0 c0 rs0 1048576 _ HR0.out (by omega) (by omega)).mono ?_
  rintro e w1 ⟨rfl, hb1⟩
  have Z1 : Hid (w.heap.size ≤ w1.heap.size) := hb1.size
  have B2 : Hid (Below w.heap.size w w1) := Frame.next B0.out hb1 B0.out.size
  clear hb1
  by_cases hL1 : Rws.left 1048576 (Rws.total rs0) < 0
  · go_wp2
    go_ret
    exact ⟨rfl, B2.out⟩
  · have ht0 : Rws.total rs0 ≤ 1048576 := by unfold Rws.left at hL1; split at hL1 <;> omega
    have A0 : Hid (Knr.RIs w (.slice a0 n0 c0) (Rws.plain rs0)) := ⟨_, _, _, _, rfl, HR0.out, rfl, ht0⟩
    have hB1 : Rws.left 1048576 (Rws.total rs0) ≤ 1048576 := by have hq := Rws.sumN_nonneg rs0; unfold Rws.left; unfold Rws.total at *; split <;> omega
    clear ht0
    generalize hG1 : Rws.left 1048576 (Rws.total rs0) = L3 at hL1 hB1 ⊢
    clear hG1
    go_wp2_with fail
    refine (Knr.r_to (.slice a0 n0 c0) (Rws.plain rs0) _ (Knr.rIs_below A0.out B2.out)).mono ?_
    rintro e w2 ⟨u4, rfl, ho, hb2⟩
    have O5 : Hid (Knr.ROwn w2 (w1.heap.size) (w2.heap.size) u4 (Rws.plain rs0)) := ho
    have Z6 : Hid (w1.heap.size ≤ w2.heap.size) := hb2.size
    have B7 : Hid (Below w.heap.size w w2) := Frame.next B2.out hb2 B2.out.size
    clear ho hb2
    go_wp2_with fail
    refine (Tfn.spec_FindRow u4 (Rws.plain rs0) i1 _ (Knr.rOwn_is O5.out) HWF1.out).mono ?_
    rintro e w3 ⟨a9, n10, c11, rfl, ho0, hb3⟩
    have O12 : Hid (Knr.WOwn w3 (w2.heap.size) (w3.heap.size) a9 n10 c11 (Tfn.pRowV i1 (Rws.plain rs0))) := ho0
    have Z13 : Hid (w2.heap.size ≤ w3.heap.size) := hb3.size
    have B14 : Hid (Below w.heap.size w w3) := Frame.next B7.out hb3 B7.out.size
    clear ho0 hb3
    have O15 : Hid (Knr.WOwn (w3.alloc (.cells #[.int .i64 (Tfn.pRowV i1 (Rws.plain rs0)).1, .slice a9 n10 c11] 26)) (w2.heap.size) (w3.heap.size) a9 n10 c11 (Tfn.pRowV i1 (Rws.plain rs0))) := Knr.wOwn_below O12.out ((Below.refl w3.heap.size w3).alloc (Nat.le_refl _) (.cells #[.int .i64 (Tfn.pRowV i1 (Rws.plain rs0)).1, .slice a9 n10 c11] 26))
    have B16 : Hid (Below w.heap.size w (w3.alloc (.cells #[.int .i64 (Tfn.pRowV i1 (Rws.plain rs0)).1, .slice a9 n10 c11] 26))) := Frame.next B14.out ((Below.refl w3.heap.size w3).alloc (Nat.le_refl _) (.cells #[.int .i64 (Tfn.pRowV i1 (Rws.plain rs0)).1, .slice a9 n10 c11] 26)) B14.out.size
    have K17 : Hid ((w3.alloc (.cells #[.int .i64 (Tfn.pRowV i1 (Rws.plain rs0)).1, .slice a9 n10 c11] 26)).cell? ⟨w3.heap.size, 0, none⟩ = some (.int .i64 (Tfn.pRowV i1 (Rws.plain rs0)).1) ∧ (w3.alloc (.cells #[.int .i64 (Tfn.pRowV i1 (Rws.plain rs0)).1, .slice a9 n10 c11] 26)).cell? ⟨w3.heap.size, 1, none⟩ = some (.slice a9 n10 c11)) := by
      show _ ∧ _
      refine ⟨?_, ?_⟩ <;> rw [World.cell?_alloc_at _ _ _ _ rfl] <;> rfl
    have E18 : Hid ((w3.alloc (.cells #[.int .i64 (Tfn.pRowV i1 (Rws.plain rs0)).1, .slice a9 n10 c11] 26)).heap.size = w3.heap.size + 1) := by show _ = _; simp
    go_wp2_with fail
    refine (Knr.r_to (.slice a0 n0 c0) (Rws.plain rs0) _ (Knr.rIs_below A0.out B16.out)).mono ?_
    rintro e w4 ⟨u19, rfl, ho, hb4⟩
    have O20 : Hid (Knr.ROwn w4 (w3.heap.size + 1) (w4.heap.size) u19 (Rws.plain rs0)) := (by have hh := ho; rw [E18.out] at hh; exact hh)
    have Z21 : Hid (w3.heap.size + 1 ≤ w4.heap.size) := (by have hh := hb4.size; rw [E18.out] at hh; exact hh)
    have O22 : Hid (Knr.WOwn w4 (w2.heap.size) (w3.heap.size) a9 n10 c11 (Tfn.pRowV i1 (Rws.plain rs0))) := Knr.wOwn_below O15.out hb4
    have K23 : Hid (w4.cell? ⟨w3.heap.size, 0, none⟩ = some (.int .i64 (Tfn.pRowV i1 (Rws.plain rs0)).1) ∧ w4.cell? ⟨w3.heap.size, 1, none⟩ = some (.slice a9 n10 c11)) := ⟨(hb4.cell (p := ⟨w3.heap.size, 0, none⟩) (Frame.cell_lt K17.out.1)).trans K17.out.1, (hb4.cell (p := ⟨w3.heap.size, 1, none⟩) (Frame.cell_lt K17.out.2)).trans K17.out.2⟩
    have B24 : Hid (Below w.heap.size w w4) := Frame.next B16.out hb4 B16.out.size
    clear ho hb4
    go_wp2_with fail
    refine (Tfn.impl_FindRow u19 (Rws.plain rs0) i1 _ (Knr.rOwn_is O20.out) HWF1.out).mono ?_
    rintro e w5 ⟨a26, n27, c28, rfl, ho0, hb5⟩
    have O29 : Hid (Knr.WOwn w5 (w4.heap.size) (w5.heap.size) a26 n27 c28 (Tfn.pRowV i1 (Rws.plain rs0))) := ho0
    have Z30 : Hid (w4.heap.size ≤ w5.heap.size) := hb5.size
    have O31 : Hid (Knr.WOwn w5 (w2.heap.size) (w3.heap.size) a9 n10 c11 (Tfn.pRowV i1 (Rws.plain rs0))) := Knr.wOwn_below O22.out hb5
    have O32 : Hid (Knr.ROwn w5 (w3.heap.size + 1) (w4.heap.size) u19 (Rws.plain rs0)) := Knr.rOwn_below O20.out hb5
    have K33 : Hid (w5.cell? ⟨w3.heap.size, 0, none⟩ = some (.int .i64 (Tfn.pRowV i1 (Rws.plain rs0)).1) ∧ w5.cell? ⟨w3.heap.size, 1, none⟩ = some (.slice a9 n10 c11)) := ⟨(hb5.cell (p := ⟨w3.heap.size, 0, none⟩) (Frame.cell_lt K23.out.1)).trans K23.out.1, (hb5.cell (p := ⟨w3.heap.size, 1, none⟩) (Frame.cell_lt K23.out.2)).trans K23.out.2⟩
    have B34 : Hid (Below w.heap.size w w5) := Frame.next B24.out hb5 B24.out.size
    clear ho0 hb5
    have O35 : Hid (Knr.WOwn (w5.alloc (.cells #[.int .i64 (Tfn.pRowV i1 (Rws.plain rs0)).1, .slice a26 n27 c28] 26)) (w2.heap.size) (w3.heap.size) a9 n10 c11 (Tfn.pRowV i1 (Rws.plain rs0))) := Knr.wOwn_below O31.out ((Below.refl w5.heap.size w5).alloc (Nat.le_refl _) (.cells #[.int .i64 (Tfn.pRowV i1 (Rws.plain rs0)).1, .slice a26 n27 c28] 26))
    have O36 : Hid (Knr.ROwn (w5.alloc (.cells #[.int .i64 (Tfn.pRowV i1 (Rws.plain rs0)).1, .slice a26 n27 c28] 26)) (w3.heap.size + 1) (w4.heap.size) u19 (Rws.plain rs0)) := Knr.rOwn_below O32.out ((Below.refl w5.heap.size w5).alloc (Nat.le_refl _) (.cells #[.int .i64 (Tfn.pRowV i1 (Rws.plain rs0)).1, .slice a26 n27 c28] 26))
    have O37 : Hid (Knr.WOwn (w5.alloc (.cells #[.int .i64 (Tfn.pRowV i1 (Rws.plain rs0)).1, .slice a26 n27 c28] 26)) (w4.heap.size) (w5.heap.size) a26 n27 c28 (Tfn.pRowV i1 (Rws.plain rs0))) := Knr.wOwn_below O29.out ((Below.refl w5.heap.size w5).alloc (Nat.le_refl _) (.cells #[.int .i64 (Tfn.pRowV i1 (Rws.plain rs0)).1, .slice a26 n27 c28] 26))
    have K38 : Hid ((w5.alloc (.cells #[.int .i64 (Tfn.pRowV i1 (Rws.plain rs0)).1, .slice a26 n27 c28] 26)).cell? ⟨w3.heap.size, 0, none⟩ = some (.int .i64 (Tfn.pRowV i1 (Rws.plain rs0)).1) ∧ (w5.alloc (.cells #[.int .i64 (Tfn.pRowV i1 (Rws.plain rs0)).1, .slice a26 n27 c28] 26)).cell? ⟨w3.heap.size, 1, none⟩ = some (.slice a9 n10 c11)) := ⟨(((Below.refl w5.heap.size w5).alloc (Nat.le_refl _) (.cells #[.int .i64 (Tfn.pRowV i1 (Rws.plain rs0)).1, .slice a26 n27 c28] 26)).cell (p := ⟨w3.heap.size, 0, none⟩) (Frame.cell_lt K33.out.1)).trans K33.out.1, (((Below.refl w5.heap.size w5).alloc (Nat.le_refl _) (.cells #[.int .i64 (Tfn.pRowV i1 (Rws.plain rs0)).1, .slice a26 n27 c28] 26)).cell (p := ⟨w3.heap.size, 1, none⟩) (Frame.cell_lt K33.out.2)).trans K33.out.2⟩
    have B39 : Hid (Below w.heap.size w (w5.alloc (.cells #[.int .i64 (Tfn.pRowV i1 (Rws.plain rs0)).1, .slice a26 n27 c28] 26))) := Frame.next B34.out ((Below.refl w5.heap.size w5).alloc (Nat.le_refl _) (.cells #[.int .i64 (Tfn.pRowV i1 (Rws.plain rs0)).1, .slice a26 n27 c28] 26)) B34.out.size
    have K40 : Hid ((w5.alloc (.cells #[.int .i64 (Tfn.pRowV i1 (Rws.plain rs0)).1, .slice a26 n27 c28] 26)).cell? ⟨w5.heap.size, 0, none⟩ = some (.int .i64 (Tfn.pRowV i1 (Rws.plain rs0)).1) ∧ (w5.alloc (.cells #[.int .i64 (Tfn.pRowV i1 (Rws.plain rs0)).1, .slice a26 n27 c28] 26)).cell? ⟨w5.heap.size, 1, none⟩ = some (.slice a26 n27 c28)) := by
      show _ ∧ _
      refine ⟨?_, ?_⟩ <;> rw [World.cell?_alloc_at _ _ _ _ rfl] <;> rfl
    have E41 : Hid ((w5.alloc (.cells #[.int .i64 (Tfn.pRowV i1 (Rws.plain rs0)).1, .slice a26 n27 c28] 26)).heap.size = w5.heap.size + 1) := by show _ = _; simp
    have c42 : (w5.alloc (.cells #[.int .i64 (Tfn.pRowV i1 (Rws.plain rs0)).1, .slice a26 n27 c28] 26)).cell? ⟨w3.heap.size, 0, none⟩ = some (.int .i64 (Tfn.pRowV i1 (Rws.plain rs0)).1) := K38.out.1
    have c43 : (w5.alloc (.cells #[.int .i64 (Tfn.pRowV i1 (Rws.plain rs0)).1, .slice a26 n27 c28] 26)).cell? ⟨w3.heap.size, 1, none⟩ = some (.slice a9 n10 c11) := K38.out.2
    have c44 : (w5.alloc (.cells #[.int .i64 (Tfn.pRowV i1 (Rws.plain rs0)).1, .slice a26 n27 c28] 26)).cell? ⟨w5.heap.size, 0, none⟩ = some (.int .i64 (Tfn.pRowV i1 (Rws.plain rs0)).1) := K40.out.1
    have c45 : (w5.alloc (.cells #[.int .i64 (Tfn.pRowV i1 (Rws.plain rs0)).1, .slice a26 n27 c28] 26)).cell? ⟨w5.heap.size, 1, none⟩ = some (.slice a26 n27 c28) := K40.out.2
    go_wp2_with fail
    refine (Knr.w_eq a26 a9 n27 c28 n10 c11 (Tfn.pRowV i1 (Rws.plain rs0)) (Tfn.pRowV i1 (Rws.plain rs0)) _ (Knr.wOwn_is O37.out) (Knr.wOwn_is O35.out)).mono ?_
    rintro e w6 ⟨rfl, hb6⟩
    rw [decide_eq_true (Eq.refl ((Tfn.pRowV i1 (Rws.plain rs0))))]
    have Z46 : Hid (w5.heap.size + 1 ≤ w6.heap.size) := (by have hh := hb6.size; rw [E41.out] at hh; exact hh)
    have O47 : Hid (Knr.WOwn w6 (w2.heap.size) (w3.heap.size) a9 n10 c11 (Tfn.pRowV i1 (Rws.plain rs0))) := Knr.wOwn_below O35.out hb6
    have O48 : Hid (Knr.ROwn w6 (w3.heap.size + 1) (w4.heap.size) u19 (Rws.plain rs0)) := Knr.rOwn_below O36.out hb6
    have O49 : Hid (Knr.WOwn w6 (w4.heap.size) (w5.heap.size) a26 n27 c28 (Tfn.pRowV i1 (Rws.plain rs0))) := Knr.wOwn_below O37.out hb6
    have K50 : Hid (w6.cell? ⟨w3.heap.size, 0, none⟩ = some (.int .i64 (Tfn.pRowV i1 (Rws.plain rs0)).1) ∧ w6.cell? ⟨w3.heap.size, 1, none⟩ = some (.slice a9 n10 c11)) := ⟨(hb6.cell (p := ⟨w3.heap.size, 0, none⟩) (Frame.cell_lt K38.out.1)).trans K38.out.1, (hb6.cell (p := ⟨w3.heap.size, 1, none⟩) (Frame.cell_lt K38.out.2)).trans K38.out.2⟩
    have K51 : Hid (w6.cell? ⟨w5.heap.size, 0, none⟩ = some (.int .i64 (Tfn.pRowV i1 (Rws.plain rs0)).1) ∧ w6.cell? ⟨w5.heap.size, 1, none⟩ = some (.slice a26 n27 c28)) := ⟨(hb6.cell (p := ⟨w5.heap.size, 0, none⟩) (Frame.cell_lt K40.out.1)).trans K40.out.1, (hb6.cell (p := ⟨w5.heap.size, 1, none⟩) (Frame.cell_lt K40.out.2)).trans K40.out.2⟩
    have B52 : Hid (Below w.heap.size w w6) := Frame.next B39.out hb6 B39.out.size
    clear hb6
    clear c42 c43 c44 c45
    go_wp2_with fail
    refine (Knr.r_to (.slice a0 n0 c0) (Rws.plain rs0) _ (Knr.rIs_below A0.out B52.out)).mono ?_
    rintro e w7 ⟨u53, rfl, ho, hb7⟩
    have O54 : Hid (Knr.ROwn w7 (w6.heap.size) (w7.heap.size) u53 (Rws.plain rs0)) := ho
    have Z55 : Hid (w6.heap.size ≤ w7.heap.size) := hb7.size
    have O56 : Hid (Knr.WOwn w7 (w2.heap.size) (w3.heap.size) a9 n10 c11 (Tfn.pRowV i1 (Rws.plain rs0))) := Knr.wOwn_below O47.out hb7
    have O57 : Hid (Knr.ROwn w7 (w3.heap.size + 1) (w4.heap.size) u19 (Rws.plain rs0)) := Knr.rOwn_below O48.out hb7
    have O58 : Hid (Knr.WOwn w7 (w4.heap.size) (w5.heap.size) a26 n27 c28 (Tfn.pRowV i1 (Rws.plain rs0))) := Knr.wOwn_below O49.out hb7
    have K59 : Hid (w7.cell? ⟨w3.heap.size, 0, none⟩ = some (.int .i64 (Tfn.pRowV i1 (Rws.plain rs0)).1) ∧ w7.cell? ⟨w3.heap.size, 1, none⟩ = some (.slice a9 n10 c11)) := ⟨(hb7.cell (p := ⟨w3.heap.size, 0, none⟩) (Frame.cell_lt K50.out.1)).trans K50.out.1, (hb7.cell (p := ⟨w3.heap.size, 1, none⟩) (Frame.cell_lt K50.out.2)).trans K50.out.2⟩
    have K60 : Hid (w7.cell? ⟨w5.heap.size, 0, none⟩ = some (.int .i64 (Tfn.pRowV i1 (Rws.plain rs0)).1) ∧ w7.cell? ⟨w5.heap.size, 1, none⟩ = some (.slice a26 n27 c28)) := ⟨(hb7.cell (p := ⟨w5.heap.size, 0, none⟩) (Frame.cell_lt K51.out.1)).trans K51.out.1, (hb7.cell (p := ⟨w5.heap.size, 1, none⟩) (Frame.cell_lt K51.out.2)).trans K51.out.2⟩
    have B61 : Hid (Below w.heap.size w w7) := Frame.next B52.out hb7 B52.out.size
    clear ho hb7
    go_wp2_with fail
    refine (Knr.r_eq u19 u53 (Rws.plain rs0) (Rws.plain rs0) _ (Knr.rOwn_is O57.out) (Knr.rOwn_is O54.out)).mono ?_
    rintro e w8 ⟨rfl, hb8⟩
    rw [decide_eq_true (Eq.refl ((Rws.plain rs0)))]
    have Z63 : Hid (w7.heap.size ≤ w8.heap.size) := hb8.size
    have O64 : Hid (Knr.WOwn w8 (w2.heap.size) (w3.heap.size) a9 n10 c11 (Tfn.pRowV i1 (Rws.plain rs0))) := Knr.wOwn_below O56.out hb8
    have O65 : Hid (Knr.ROwn w8 (w3.heap.size + 1) (w4.heap.size) u19 (Rws.plain rs0)) := Knr.rOwn_below O57.out hb8
    have O66 : Hid (Knr.WOwn w8 (w4.heap.size) (w5.heap.size) a26 n27 c28 (Tfn.pRowV i1 (Rws.plain rs0))) := Knr.wOwn_below O58.out hb8
    have O67 : Hid (Knr.ROwn w8 (w6.heap.size) (w7.heap.size) u53 (Rws.plain rs0)) := Knr.rOwn_below O54.out hb8
    have K68 : Hid (w8.cell? ⟨w3.heap.size, 0, none⟩ = some (.int .i64 (Tfn.pRowV i1 (Rws.plain rs0)).1) ∧ w8.cell? ⟨w3.heap.size, 1, none⟩ = some (.slice a9 n10 c11)) := ⟨(hb8.cell (p := ⟨w3.heap.size, 0, none⟩) (Frame.cell_lt K59.out.1)).trans K59.out.1, (hb8.cell (p := ⟨w3.heap.size, 1, none⟩) (Frame.cell_lt K59.out.2)).trans K59.out.2⟩
    have K69 : Hid (w8.cell? ⟨w5.heap.size, 0, none⟩ = some (.int .i64 (Tfn.pRowV i1 (Rws.plain rs0)).1) ∧ w8.cell? ⟨w5.heap.size, 1, none⟩ = some (.slice a26 n27 c28)) := ⟨(hb8.cell (p := ⟨w5.heap.size, 0, none⟩) (Frame.cell_lt K60.out.1)).trans K60.out.1, (hb8.cell (p := ⟨w5.heap.size, 1, none⟩) (Frame.cell_lt K60.out.2)).trans K60.out.2⟩
    have B70 : Hid (Below w.heap.size w w8) := Frame.next B61.out hb8 B61.out.size
    clear hb8
    go_wp2_with fail
    refine (Knr.r_mark u19 (Rws.plain rs0) _ _ 1 _ O65.out (by omega) (by omega)).mono ?_
    rintro e w9 ⟨nx71, rfl, hn0nx71, hn1nx71, hm, hb9⟩
    have hznx71 : ¬ nx71 < 0 := by omega
    have O72 : Hid (Knr.RMarked w9 (w3.heap.size + 1) (w4.heap.size) u19 1 nx71) := hm
    have Z73 : Hid (w8.heap.size ≤ w9.heap.size) := hb9.size
    have O74 : Hid (Knr.WOwn w9 (w2.heap.size) (w3.heap.size) a9 n10 c11 (Tfn.pRowV i1 (Rws.plain rs0))) := Knr.wOwn_keeps O64.out hb9 (by have z0 := Z1.out; have z1 := Z6.out; have z2 := Z13.out; have z3 := Z21.out; have z4 := Z30.out; have z5 := Z46.out; have z6 := Z55.out; have z7 := Z63.out; omega)
    have O75 : Hid (Knr.WOwn w9 (w4.heap.size) (w5.heap.size) a26 n27 c28 (Tfn.pRowV i1 (Rws.plain rs0))) := Knr.wOwn_keeps O66.out hb9 (by have z0 := Z1.out; have z1 := Z6.out; have z2 := Z13.out; have z3 := Z21.out; have z4 := Z30.out; have z5 := Z46.out; have z6 := Z55.out; have z7 := Z63.out; omega)
    have K76 : Hid (w9.cell? ⟨w3.heap.size, 0, none⟩ = some (.int .i64 (Tfn.pRowV i1 (Rws.plain rs0)).1) ∧ w9.cell? ⟨w3.heap.size, 1, none⟩ = some (.slice a9 n10 c11)) := ⟨Keeps.cell hb9 K68.out.1 (by have z0 := Z1.out; have z1 := Z6.out; have z2 := Z13.out; have z3 := Z21.out; have z4 := Z30.out; have z5 := Z46.out; have z6 := Z55.out; have z7 := Z63.out; omega), Keeps.cell hb9 K68.out.2 (by have z0 := Z1.out; have z1 := Z6.out; have z2 := Z13.out; have z3 := Z21.out; have z4 := Z30.out; have z5 := Z46.out; have z6 := Z55.out; have z7 := Z63.out; omega)⟩
    have K77 : Hid (w9.cell? ⟨w5.heap.size, 0, none⟩ = some (.int .i64 (Tfn.pRowV i1 (Rws.plain rs0)).1) ∧ w9.cell? ⟨w5.heap.size, 1, none⟩ = some (.slice a26 n27 c28)) := ⟨Keeps.cell hb9 K69.out.1 (by have z0 := Z1.out; have z1 := Z6.out; have z2 := Z13.out; have z3 := Z21.out; have z4 := Z30.out; have z5 := Z46.out; have z6 := Z55.out; have z7 := Z63.out; omega), Keeps.cell hb9 K69.out.2 (by have z0 := Z1.out; have z1 := Z6.out; have z2 := Z13.out; have z3 := Z21.out; have z4 := Z30.out; have z5 := Z46.out; have z6 := Z55.out; have z7 := Z63.out; omega)⟩
    have B78 : Hid (Below w.heap.size w w9) := Keeps.below B70.out hb9 (by have z0 := Z1.out; have z1 := Z6.out; have z2 := Z13.out; have z3 := Z21.out; have z4 := Z30.out; have z5 := Z46.out; have z6 := Z55.out; have z7 := Z63.out; omega) B70.out.size
    clear hm hb9
    have c79 : w9.cell? ⟨w3.heap.size, 0, none⟩ = some (.int .i64 (Tfn.pRowV i1 (Rws.plain rs0)).1) := K76.out.1
    have c80 : w9.cell? ⟨w3.heap.size, 1, none⟩ = some (.slice a9 n10 c11) := K76.out.2
    have c81 : w9.cell? ⟨w5.heap.size, 0, none⟩ = some (.int .i64 (Tfn.pRowV i1 (Rws.plain rs0)).1) := K77.out.1
    have c82 : w9.cell? ⟨w5.heap.size, 1, none⟩ = some (.slice a26 n27 c28) := K77.out.2
    go_wp2_with fail
    refine (Knr.w_eq a26 a9 n27 c28 n10 c11 (Tfn.pRowV i1 (Rws.plain rs0)) (Tfn.pRowV i1 (Rws.plain rs0)) _ (Knr.wOwn_is O75.out) (Knr.wOwn_is O74.out)).mono ?_
    rintro e w10 ⟨rfl, hb10⟩
    rw [decide_eq_true (Eq.refl ((Tfn.pRowV i1 (Rws.plain rs0))))]
    have Z83 : Hid (w9.heap.size ≤ w10.heap.size) := hb10.size
    have O84 : Hid (Knr.WOwn w10 (w2.heap.size) (w3.heap.size) a9 n10 c11 (Tfn.pRowV i1 (Rws.plain rs0))) := Knr.wOwn_below O74.out hb10
    have O85 : Hid (Knr.RMarked w10 (w3.heap.size + 1) (w4.heap.size) u19 1 nx71) := Knr.rMarked_below O72.out hb10
    have O86 : Hid (Knr.WOwn w10 (w4.heap.size) (w5.heap.size) a26 n27 c28 (Tfn.pRowV i1 (Rws.plain rs0))) := Knr.wOwn_below O75.out hb10
    have K87 : Hid (w10.cell? ⟨w3.heap.size, 0, none⟩ = some (.int .i64 (Tfn.pRowV i1 (Rws.plain rs0)).1) ∧ w10.cell? ⟨w3.heap.size, 1, none⟩ = some (.slice a9 n10 c11)) := ⟨(hb10.cell (p := ⟨w3.heap.size, 0, none⟩) (Frame.cell_lt K76.out.1)).trans K76.out.1, (hb10.cell (p := ⟨w3.heap.size, 1, none⟩) (Frame.cell_lt K76.out.2)).trans K76.out.2⟩
    have K88 : Hid (w10.cell? ⟨w5.heap.size, 0, none⟩ = some (.int .i64 (Tfn.pRowV i1 (Rws.plain rs0)).1) ∧ w10.cell? ⟨w5.heap.size, 1, none⟩ = some (.slice a26 n27 c28)) := ⟨(hb10.cell (p := ⟨w5.heap.size, 0, none⟩) (Frame.cell_lt K77.out.1)).trans K77.out.1, (hb10.cell (p := ⟨w5.heap.size, 1, none⟩) (Frame.cell_lt K77.out.2)).trans K77.out.2⟩
    have B89 : Hid (Below w.heap.size w w10) := Frame.next B78.out hb10 B78.out.size
    clear hb10
    clear c79 c80 c81 c82
    have c91 : w10.cell? ⟨w3.heap.size, 0, none⟩ = some (.int .i64 (Tfn.pRowV i1 (Rws.plain rs0)).1) := K87.out.1
    have c92 : w10.cell? ⟨w3.heap.size, 1, none⟩ = some (.slice a9 n10 c11) := K87.out.2
    have c93 : w10.cell? ⟨w5.heap.size, 0, none⟩ = some (.int .i64 (Tfn.pRowV i1 (Rws.plain rs0)).1) := K88.out.1
    have c94 : w10.cell? ⟨w5.heap.size, 1, none⟩ = some (.slice a26 n27 c28) := K88.out.2
    go_wp2_with fail
    refine (Knr.w_mark _ a26 n27 c28 (Tfn.pRowV i1 (Rws.plain rs0)) _ _ 1 _ O86.out (by omega) (by omega)).mono ?_
    rintro e w11 ⟨nx90, rfl, hn0nx90, hn1nx90, hm, hb11⟩
    have hznx90 : ¬ nx90 < 0 := by omega
    have O95 : Hid (Knr.WMarked w11 (w4.heap.size) (w5.heap.size) a26 n27 c28 1 nx90) := hm
    have Z96 : Hid (w10.heap.size ≤ w11.heap.size) := hb11.size
    have O97 : Hid (Knr.WOwn w11 (w2.heap.size) (w3.heap.size) a9 n10 c11 (Tfn.pRowV i1 (Rws.plain rs0))) := Knr.wOwn_keeps O84.out hb11 (by have z0 := Z1.out; have z1 := Z6.out; have z2 := Z13.out; have z3 := Z21.out; have z4 := Z30.out; have z5 := Z46.out; have z6 := Z55.out; have z7 := Z63.out; have z8 := Z73.out; have z9 := Z83.out; omega)
    have K98 : Hid (w11.cell? ⟨w3.heap.size, 0, none⟩ = some (.int .i64 (Tfn.pRowV i1 (Rws.plain rs0)).1) ∧ w11.cell? ⟨w3.heap.size, 1, none⟩ = some (.slice a9 n10 c11)) := ⟨Keeps.cell hb11 K87.out.1 (by have z0 := Z1.out; have z1 := Z6.out; have z2 := Z13.out; have z3 := Z21.out; have z4 := Z30.out; have z5 := Z46.out; have z6 := Z55.out; have z7 := Z63.out; have z8 := Z73.out; have z9 := Z83.out; omega), Keeps.cell hb11 K87.out.2 (by have z0 := Z1.out; have z1 := Z6.out; have z2 := Z13.out; have z3 := Z21.out; have z4 := Z30.out; have z5 := Z46.out; have z6 := Z55.out; have z7 := Z63.out; have z8 := Z73.out; have z9 := Z83.out; omega)⟩
    have K99 : Hid (w11.cell? ⟨w5.heap.size, 0, none⟩ = some (.int .i64 (Tfn.pRowV i1 (Rws.plain rs0)).1) ∧ w11.cell? ⟨w5.heap.size, 1, none⟩ = some (.slice a26 n27 c28)) := ⟨Keeps.cell hb11 K88.out.1 (by have z0 := Z1.out; have z1 := Z6.out; have z2 := Z13.out; have z3 := Z21.out; have z4 := Z30.out; have z5 := Z46.out; have z6 := Z55.out; have z7 := Z63.out; have z8 := Z73.out; have z9 := Z83.out; omega), Keeps.cell hb11 K88.out.2 (by have z0 := Z1.out; have z1 := Z6.out; have z2 := Z13.out; have z3 := Z21.out; have z4 := Z30.out; have z5 := Z46.out; have z6 := Z55.out; have z7 := Z63.out; have z8 := Z73.out; have z9 := Z83.out; omega)⟩
    have B100 : Hid (Below w.heap.size w w11) := Keeps.below B89.out hb11 (by have z0 := Z1.out; have z1 := Z6.out; have z2 := Z13.out; have z3 := Z21.out; have z4 := Z30.out; have z5 := Z46.out; have z6 := Z55.out; have z7 := Z63.out; have z8 := Z73.out; have z9 := Z83.out; omega) B89.out.size
    clear hm hb11
    clear c91 c92 c93 c94
    have c101 : w11.cell? ⟨w3.heap.size, 0, none⟩ = some (.int .i64 (Tfn.pRowV i1 (Rws.plain rs0)).1) := K98.out.1
    have c102 : w11.cell? ⟨w3.heap.size, 1, none⟩ = some (.slice a9 n10 c11) := K98.out.2
    have c103 : w11.cell? ⟨w5.heap.size, 0, none⟩ = some (.int .i64 (Tfn.pRowV i1 (Rws.plain rs0)).1) := K99.out.1
    have c104 : w11.cell? ⟨w5.heap.size, 1, none⟩ = some (.slice a26 n27 c28) := K99.out.2
    go_wp2_with fail
    refine (Knr.w_held _ a26 n27 c28 _ _ 1 nx90 _ O95.out).mono ?_
    rintro e w12 ⟨rfl, hb12⟩
    have Z105 : Hid (w11.heap.size ≤ w12.heap.size) := hb12.size
    have O106 : Hid (Knr.WOwn w12 (w2.heap.size) (w3.heap.size) a9 n10 c11 (Tfn.pRowV i1 (Rws.plain rs0))) := Knr.wOwn_below O97.out hb12
    have O107 : Hid (Knr.WMarked w12 (w4.heap.size) (w5.heap.size) a26 n27 c28 1 nx90) := Knr.wMarked_below O95.out hb12
    have K108 : Hid (w12.cell? ⟨w3.heap.size, 0, none⟩ = some (.int .i64 (Tfn.pRowV i1 (Rws.plain rs0)).1) ∧ w12.cell? ⟨w3.heap.size, 1, none⟩ = some (.slice a9 n10 c11)) := ⟨(hb12.cell (p := ⟨w3.heap.size, 0, none⟩) (Frame.cell_lt K98.out.1)).trans K98.out.1, (hb12.cell (p := ⟨w3.heap.size, 1, none⟩) (Frame.cell_lt K98.out.2)).trans K98.out.2⟩
    have K109 : Hid (w12.cell? ⟨w5.heap.size, 0, none⟩ = some (.int .i64 (Tfn.pRowV i1 (Rws.plain rs0)).1) ∧ w12.cell? ⟨w5.heap.size, 1, none⟩ = some (.slice a26 n27 c28)) := ⟨(hb12.cell (p := ⟨w5.heap.size, 0, none⟩) (Frame.cell_lt K99.out.1)).trans K99.out.1, (hb12.cell (p := ⟨w5.heap.size, 1, none⟩) (Frame.cell_lt K99.out.2)).trans K99.out.2⟩
    have B110 : Hid (Below w.heap.size w w12) := Frame.next B100.out hb12 B100.out.size
    clear hb12
    clear c101 c102 c103 c104
    go_wp2_with fail
    refine (Knr.r_to (.slice a0 n0 c0) (Rws.plain rs0) _ (Knr.rIs_below A0.out B110.out)).mono ?_
    rintro e w13 ⟨u111, rfl, ho, hb13⟩
    have O112 : Hid (Knr.ROwn w13 (w12.heap.size) (w13.heap.size) u111 (Rws.plain rs0)) := ho
    have Z113 : Hid (w12.heap.size ≤ w13.heap.size) := hb13.size
    have O114 : Hid (Knr.WOwn w13 (w2.heap.size) (w3.heap.size) a9 n10 c11 (Tfn.pRowV i1 (Rws.plain rs0))) := Knr.wOwn_below O106.out hb13
    have O115 : Hid (Knr.WMarked w13 (w4.heap.size) (w5.heap.size) a26 n27 c28 1 nx90) := Knr.wMarked_below O107.out hb13
    have K116 : Hid (w13.cell? ⟨w3.heap.size, 0, none⟩ = some (.int .i64 (Tfn.pRowV i1 (Rws.plain rs0)).1) ∧ w13.cell? ⟨w3.heap.size, 1, none⟩ = some (.slice a9 n10 c11)) := ⟨(hb13.cell (p := ⟨w3.heap.size, 0, none⟩) (Frame.cell_lt K108.out.1)).trans K108.out.1, (hb13.cell (p := ⟨w3.heap.size, 1, none⟩) (Frame.cell_lt K108.out.2)).trans K108.out.2⟩
    have K117 : Hid (w13.cell? ⟨w5.heap.size, 0, none⟩ = some (.int .i64 (Tfn.pRowV i1 (Rws.plain rs0)).1) ∧ w13.cell? ⟨w5.heap.size, 1, none⟩ = some (.slice a26 n27 c28)) := ⟨(hb13.cell (p := ⟨w5.heap.size, 0, none⟩) (Frame.cell_lt K109.out.1)).trans K109.out.1, (hb13.cell (p := ⟨w5.heap.size, 1, none⟩) (Frame.cell_lt K109.out.2)).trans K109.out.2⟩
    have B118 : Hid (Below w.heap.size w w13) := Frame.next B110.out hb13 B110.out.size
    clear ho hb13
    go_wp2_with fail
    refine (Tfn.impl_FindRow u111 (Rws.plain rs0) i1 _ (Knr.rOwn_is O112.out) HWF1.out).mono ?_
    rintro e w14 ⟨a120, n121, c122, rfl, ho0, hb14⟩
    have O123 : Hid (Knr.WOwn w14 (w13.heap.size) (w14.heap.size) a120 n121 c122 (Tfn.pRowV i1 (Rws.plain rs0))) := ho0
    have Z124 : Hid (w13.heap.size ≤ w14.heap.size) := hb14.size
    have O125 : Hid (Knr.WOwn w14 (w2.heap.size) (w3.heap.size) a9 n10 c11 (Tfn.pRowV i1 (Rws.plain rs0))) := Knr.wOwn_below O114.out hb14
    have O126 : Hid (Knr.WMarked w14 (w4.heap.size) (w5.heap.size) a26 n27 c28 1 nx90) := Knr.wMarked_below O115.out hb14
    have K127 : Hid (w14.cell? ⟨w3.heap.size, 0, none⟩ = some (.int .i64 (Tfn.pRowV i1 (Rws.plain rs0)).1) ∧ w14.cell? ⟨w3.heap.size, 1, none⟩ = some (.slice a9 n10 c11)) := ⟨(hb14.cell (p := ⟨w3.heap.size, 0, none⟩) (Frame.cell_lt K116.out.1)).trans K116.out.1, (hb14.cell (p := ⟨w3.heap.size, 1, none⟩) (Frame.cell_lt K116.out.2)).trans K116.out.2⟩
    have K128 : Hid (w14.cell? ⟨w5.heap.size, 0, none⟩ = some (.int .i64 (Tfn.pRowV i1 (Rws.plain rs0)).1) ∧ w14.cell? ⟨w5.heap.size, 1, none⟩ = some (.slice a26 n27 c28)) := ⟨(hb14.cell (p := ⟨w5.heap.size, 0, none⟩) (Frame.cell_lt K117.out.1)).trans K117.out.1, (hb14.cell (p := ⟨w5.heap.size, 1, none⟩) (Frame.cell_lt K117.out.2)).trans K117.out.2⟩
    have B129 : Hid (Below w.heap.size w w14) := Frame.next B118.out hb14 B118.out.size
    clear ho0 hb14
    have O130 : Hid (Knr.WOwn (w14.alloc (.cells #[.int .i64 (Tfn.pRowV i1 (Rws.plain rs0)).1, .slice a120 n121 c122] 26)) (w2.heap.size) (w3.heap.size) a9 n10 c11 (Tfn.pRowV i1 (Rws.plain rs0))) := Knr.wOwn_below O125.out ((Below.refl w14.heap.size w14).alloc (Nat.le_refl _) (.cells #[.int .i64 (Tfn.pRowV i1 (Rws.plain rs0)).1, .slice a120 n121 c122] 26))
    have O131 : Hid (Knr.WMarked (w14.alloc (.cells #[.int .i64 (Tfn.pRowV i1 (Rws.plain rs0)).1, .slice a120 n121 c122] 26)) (w4.heap.size) (w5.heap.size) a26 n27 c28 1 nx90) := Knr.wMarked_below O126.out ((Below.refl w14.heap.size w14).alloc (Nat.le_refl _) (.cells #[.int .i64 (Tfn.pRowV i1 (Rws.plain rs0)).1, .slice a120 n121 c122] 26))
    have O132 : Hid (Knr.WOwn (w14.alloc (.cells #[.int .i64 (Tfn.pRowV i1 (Rws.plain rs0)).1, .slice a120 n121 c122] 26)) (w13.heap.size) (w14.heap.size) a120 n121 c122 (Tfn.pRowV i1 (Rws.plain rs0))) := Knr.wOwn_below O123.out ((Below.refl w14.heap.size w14).alloc (Nat.le_refl _) (.cells #[.int .i64 (Tfn.pRowV i1 (Rws.plain rs0)).1, .slice a120 n121 c122] 26))
    have K133 : Hid ((w14.alloc (.cells #[.int .i64 (Tfn.pRowV i1 (Rws.plain rs0)).1, .slice a120 n121 c122] 26)).cell? ⟨w3.heap.size, 0, none⟩ = some (.int .i64 (Tfn.pRowV i1 (Rws.plain rs0)).1) ∧ (w14.alloc (.cells #[.int .i64 (Tfn.pRowV i1 (Rws.plain rs0)).1, .slice a120 n121 c122] 26)).cell? ⟨w3.heap.size, 1, none⟩ = some (.slice a9 n10 c11)) := ⟨(((Below.refl w14.heap.size w14).alloc (Nat.le_refl _) (.cells #[.int .i64 (Tfn.pRowV i1 (Rws.plain rs0)).1, .slice a120 n121 c122] 26)).cell (p := ⟨w3.heap.size, 0, none⟩) (Frame.cell_lt K127.out.1)).trans K127.out.1, (((Below.refl w14.heap.size w14).alloc (Nat.le_refl _) (.cells #[.int .i64 (Tfn.pRowV i1 (Rws.plain rs0)).1, .slice a120 n121 c122] 26)).cell (p := ⟨w3.heap.size, 1, none⟩) (Frame.cell_lt K127.out.2)).trans K127.out.2⟩
    have K134 : Hid ((w14.alloc (.cells #[.int .i64 (Tfn.pRowV i1 (Rws.plain rs0)).1, .slice a120 n121 c122] 26)).cell? ⟨w5.heap.size, 0, none⟩ = some (.int .i64 (Tfn.pRowV i1 (Rws.plain rs0)).1) ∧ (w14.alloc (.cells #[.int .i64 (Tfn.pRowV i1 (Rws.plain rs0)).1, .slice a120 n121 c122] 26)).cell? ⟨w5.heap.size, 1, none⟩ = some (.slice a26 n27 c28)) := ⟨(((Below.refl w14.heap.size w14).alloc (Nat.le_refl _) (.cells #[.int .i64 (Tfn.pRowV i1 (Rws.plain rs0)).1, .slice a120 n121 c122] 26)).cell (p := ⟨w5.heap.size, 0, none⟩) (Frame.cell_lt K128.out.1)).trans K128.out.1, (((Below.refl w14.heap.size w14).alloc (Nat.le_refl _) (.cells #[.int .i64 (Tfn.pRowV i1 (Rws.plain rs0)).1, .slice a120 n121 c122] 26)).cell (p := ⟨w5.heap.size, 1, none⟩) (Frame.cell_lt K128.out.2)).trans K128.out.2⟩
    have B135 : Hid (Below w.heap.size w (w14.alloc (.cells #[.int .i64 (Tfn.pRowV i1 (Rws.plain rs0)).1, .slice a120 n121 c122] 26))) := Frame.next B129.out ((Below.refl w14.heap.size w14).alloc (Nat.le_refl _) (.cells #[.int .i64 (Tfn.pRowV i1 (Rws.plain rs0)).1, .slice a120 n121 c122] 26)) B129.out.size
    have K136 : Hid ((w14.alloc (.cells #[.int .i64 (Tfn.pRowV i1 (Rws.plain rs0)).1, .slice a120 n121 c122] 26)).cell? ⟨w14.heap.size, 0, none⟩ = some (.int .i64 (Tfn.pRowV i1 (Rws.plain rs0)).1) ∧ (w14.alloc (.cells #[.int .i64 (Tfn.pRowV i1 (Rws.plain rs0)).1, .slice a120 n121 c122] 26)).cell? ⟨w14.heap.size, 1, none⟩ = some (.slice a120 n121 c122)) := by
      show _ ∧ _
      refine ⟨?_, ?_⟩ <;> rw [World.cell?_alloc_at _ _ _ _ rfl] <;> rfl
    have E137 : Hid ((w14.alloc (.cells #[.int .i64 (Tfn.pRowV i1 (Rws.plain rs0)).1, .slice a120 n121 c122] 26)).heap.size = w14.heap.size + 1) := by show _ = _; simp
    have c138 : (w14.alloc (.cells #[.int .i64 (Tfn.pRowV i1 (Rws.plain rs0)).1, .slice a120 n121 c122] 26)).cell? ⟨w3.heap.size, 0, none⟩ = some (.int .i64 (Tfn.pRowV i1 (Rws.plain rs0)).1) := K133.out.1
    have c139 : (w14.alloc (.cells #[.int .i64 (Tfn.pRowV i1 (Rws.plain rs0)).1, .slice a120 n121 c122] 26)).cell? ⟨w3.heap.size, 1, none⟩ = some (.slice a9 n10 c11) := K133.out.2
    have c140 : (w14.alloc (.cells #[.int .i64 (Tfn.pRowV i1 (Rws.plain rs0)).1, .slice a120 n121 c122] 26)).cell? ⟨w5.heap.size, 0, none⟩ = some (.int .i64 (Tfn.pRowV i1 (Rws.plain rs0)).1) := K134.out.1
    have c141 : (w14.alloc (.cells #[.int .i64 (Tfn.pRowV i1 (Rws.plain rs0)).1, .slice a120 n121 c122] 26)).cell? ⟨w5.heap.size, 1, none⟩ = some (.slice a26 n27 c28) := K134.out.2
    have c142 : (w14.alloc (.cells #[.int .i64 (Tfn.pRowV i1 (Rws.plain rs0)).1, .slice a120 n121 c122] 26)).cell? ⟨w14.heap.size, 0, none⟩ = some (.int .i64 (Tfn.pRowV i1 (Rws.plain rs0)).1) := K136.out.1
    have c143 : (w14.alloc (.cells #[.int .i64 (Tfn.pRowV i1 (Rws.plain rs0)).1, .slice a120 n121 c122] 26)).cell? ⟨w14.heap.size, 1, none⟩ = some (.slice a120 n121 c122) := K136.out.2
    go_wp2_with fail
    refine (Knr.w_eq a120 a9 n121 c122 n10 c11 (Tfn.pRowV i1 (Rws.plain rs0)) (Tfn.pRowV i1 (Rws.plain rs0)) _ (Knr.wOwn_is O132.out) (Knr.wOwn_is O130.out)).mono ?_
    rintro e w15 ⟨rfl, hb15⟩
    rw [decide_eq_true (Eq.refl ((Tfn.pRowV i1 (Rws.plain rs0))))]
    have Z144 : Hid (w14.heap.size + 1 ≤ w15.heap.size) := (by have hh := hb15.size; rw [E137.out] at hh; exact hh)
    have O145 : Hid (Knr.WOwn w15 (w2.heap.size) (w3.heap.size) a9 n10 c11 (Tfn.pRowV i1 (Rws.plain rs0))) := Knr.wOwn_below O130.out hb15
    have O146 : Hid (Knr.WMarked w15 (w4.heap.size) (w5.heap.size) a26 n27 c28 1 nx90) := Knr.wMarked_below O131.out hb15
    have O147 : Hid (Knr.WOwn w15 (w13.heap.size) (w14.heap.size) a120 n121 c122 (Tfn.pRowV i1 (Rws.plain rs0))) := Knr.wOwn_below O132.out hb15
    have K148 : Hid (w15.cell? ⟨w3.heap.size, 0, none⟩ = some (.int .i64 (Tfn.pRowV i1 (Rws.plain rs0)).1) ∧ w15.cell? ⟨w3.heap.size, 1, none⟩ = some (.slice a9 n10 c11)) := ⟨(hb15.cell (p := ⟨w3.heap.size, 0, none⟩) (Frame.cell_lt K133.out.1)).trans K133.out.1, (hb15.cell (p := ⟨w3.heap.size, 1, none⟩) (Frame.cell_lt K133.out.2)).trans K133.out.2⟩
    have K149 : Hid (w15.cell? ⟨w5.heap.size, 0, none⟩ = some (.int .i64 (Tfn.pRowV i1 (Rws.plain rs0)).1) ∧ w15.cell? ⟨w5.heap.size, 1, none⟩ = some (.slice a26 n27 c28)) := ⟨(hb15.cell (p := ⟨w5.heap.size, 0, none⟩) (Frame.cell_lt K134.out.1)).trans K134.out.1, (hb15.cell (p := ⟨w5.heap.size, 1, none⟩) (Frame.cell_lt K134.out.2)).trans K134.out.2⟩
    have K150 : Hid (w15.cell? ⟨w14.heap.size, 0, none⟩ = some (.int .i64 (Tfn.pRowV i1 (Rws.plain rs0)).1) ∧ w15.cell? ⟨w14.heap.size, 1, none⟩ = some (.slice a120 n121 c122)) := ⟨(hb15.cell (p := ⟨w14.heap.size, 0, none⟩) (Frame.cell_lt K136.out.1)).trans K136.out.1, (hb15.cell (p := ⟨w14.heap.size, 1, none⟩) (Frame.cell_lt K136.out.2)).trans K136.out.2⟩
    have B151 : Hid (Below w.heap.size w w15) := Frame.next B135.out hb15 B135.out.size
    clear hb15
    clear c138 c139 c140 c141 c142 c143
    have c152 : w15.cell? ⟨w3.heap.size, 0, none⟩ = some (.int .i64 (Tfn.pRowV i1 (Rws.plain rs0)).1) := K148.out.1
    have c153 : w15.cell? ⟨w3.heap.size, 1, none⟩ = some (.slice a9 n10 c11) := K148.out.2
    have c154 : w15.cell? ⟨w5.heap.size, 0, none⟩ = some (.int .i64 (Tfn.pRowV i1 (Rws.plain rs0)).1) := K149.out.1
    have c155 : w15.cell? ⟨w5.heap.size, 1, none⟩ = some (.slice a26 n27 c28) := K149.out.2
    have c156 : w15.cell? ⟨w14.heap.size, 0, none⟩ = some (.int .i64 (Tfn.pRowV i1 (Rws.plain rs0)).1) := K150.out.1
    have c157 : w15.cell? ⟨w14.heap.size, 1, none⟩ = some (.slice a120 n121 c122) := K150.out.2
    go_wp2_with fail
    refine (Knr.w_held _ a26 n27 c28 _ _ 1 nx90 _ O146.out).mono ?_
    rintro e w16 ⟨rfl, hb16⟩
    have Z158 : Hid (w15.heap.size ≤ w16.heap.size) := hb16.size
    have O159 : Hid (Knr.WOwn w16 (w2.heap.size) (w3.heap.size) a9 n10 c11 (Tfn.pRowV i1 (Rws.plain rs0))) := Knr.wOwn_below O145.out hb16
    have O160 : Hid (Knr.WMarked w16 (w4.heap.size) (w5.heap.size) a26 n27 c28 1 nx90) := Knr.wMarked_below O146.out hb16
    have O161 : Hid (Knr.WOwn w16 (w13.heap.size) (w14.heap.size) a120 n121 c122 (Tfn.pRowV i1 (Rws.plain rs0))) := Knr.wOwn_below O147.out hb16
    have K162 : Hid (w16.cell? ⟨w3.heap.size, 0, none⟩ = some (.int .i64 (Tfn.pRowV i1 (Rws.plain rs0)).1) ∧ w16.cell? ⟨w3.heap.size, 1, none⟩ = some (.slice a9 n10 c11)) := ⟨(hb16.cell (p := ⟨w3.heap.size, 0, none⟩) (Frame.cell_lt K148.out.1)).trans K148.out.1, (hb16.cell (p := ⟨w3.heap.size, 1, none⟩) (Frame.cell_lt K148.out.2)).trans K148.out.2⟩
    have K163 : Hid (w16.cell? ⟨w5.heap.size, 0, none⟩ = some (.int .i64 (Tfn.pRowV i1 (Rws.plain rs0)).1) ∧ w16.cell? ⟨w5.heap.size, 1, none⟩ = some (.slice a26 n27 c28)) := ⟨(hb16.cell (p := ⟨w5.heap.size, 0, none⟩) (Frame.cell_lt K149.out.1)).trans K149.out.1, (hb16.cell (p := ⟨w5.heap.size, 1, none⟩) (Frame.cell_lt K149.out.2)).trans K149.out.2⟩
    have K164 : Hid (w16.cell? ⟨w14.heap.size, 0, none⟩ = some (.int .i64 (Tfn.pRowV i1 (Rws.plain rs0)).1) ∧ w16.cell? ⟨w14.heap.size, 1, none⟩ = some (.slice a120 n121 c122)) := ⟨(hb16.cell (p := ⟨w14.heap.size, 0, none⟩) (Frame.cell_lt K150.out.1)).trans K150.out.1, (hb16.cell (p := ⟨w14.heap.size, 1, none⟩) (Frame.cell_lt K150.out.2)).trans K150.out.2⟩
    have B165 : Hid (Below w.heap.size w w16) := Frame.next B151.out hb16 B151.out.size
    clear hb16
    clear c152 c153 c154 c155 c156 c157
    go_wp2
    go_ret
    exact ⟨rfl, B165.out⟩

set_option maxRecDepth 100000 in
theorem contract (H : Type) (enc : TypeId × Value → H) (W : World) (base : Nat) (args : Array Value) (ds gs : List (DataW H)) (before : List MemPlace)
    (hval0 : ∀ (j : Nat) t v, Try.f6.params[j]? = some t → args[j]? = some v → Value.okWide Try.prog W .any base t v)
    (hW : DataW.Whole enc Try.prog Try.f6.params.toList Rows.fnExactFindRowSpec.vars false W args.toList ds gs before) :
    Calls Try.prog 6 args W fun e W' => ∃ v, e = .returned v ∧ Rows.fnExactFindRowSpec.post enc Try.prog Try.f6 false true false false W args v W' := by
  refine Frame.law_calls (tb := 4) laidOut (by kernel_rfl) (by kernel_rfl) (by kernel_rfl) Try.underlying4 hW (fun ds gs h1 h2 => ?_) ?_
  · rw [Try.params6] at h1
    match ds, gs, h1, h2 with
    | [_, _], [], _, _ => rfl
  · obtain ⟨p, q, hA0, _, _, _, _⟩ := hW
    have hval : ∀ (j : Nat) t v, Try.f6.params[j]? = some t → args[j]? = some v → Value.okWide Try.prog W .any base t v := hval0
    have hA : DataW.TrodAll enc Try.prog W 0 (fun _ => true) true Try.f6.params.toList args.toList ds p := hA0
    rw [Try.params6] at hA hval
    obtain ⟨v0, vs0, d0, ds0, p0, q0, hargs, rfl, rfl, h0, r0⟩ := trodAll_cons hA
    obtain ⟨v1, vs1, d1, ds1, p1, q1, rfl, rfl, rfl, h1, r1⟩ := trodAll_cons r0
    obtain ⟨rfl, rfl, rfl⟩ := trodAll_nil r1
    obtain rfl : args = #[v0, v1] := by cases args; simp_all
    obtain ⟨a0, len0, cap0, rfl⟩ := okWide_slice Try.underlying54 (hval 0 54 v0 rfl rfl)
    obtain ⟨z0, w0⟩ := Opn.isRows_of h0
    obtain ⟨a1, rfl, rfl, rfl, w1⟩ := open_int Try.underlying3 (hval 1 3 v1 rfl rfl) h1
    exact walk a0 len0 cap0 z0 a1 W w0 w1

set_option maxRecDepth 100000 in
theorem lifted (os : Os) (started : os.Started) (H : Type) (enc : TypeId × Value → H) :
    ReturnsInHanded {} Try.checked os 6 .any (Rows.fnExactFindRowSpec.pre6 enc Try.prog Try.f6 Rows.fnExactFindRowRow.domain false) (Rows.fnExactFindRowSpec.post enc Try.prog Try.f6 false true false false) := by
  refine returnsInHanded_of_change (C := Try.checked) own started (by kernel_rfl) Try.func6
    (ChangeSpec.witness6 (enc := enc) (C := Try.checked) false ⟨#[], #[.slice none 0 0, .int .i64 0], []⟩ 8 (by kernel_rfl) (by kernel_rfl) (by kernel_rfl) (by kernel_rfl)) ?_
  intro W base args ds gs before hval hW _ _
  exact contract H enc W base args ds gs before hval hW

/-- The statement. -/
theorem proved : Rows.FnExactFindRowSaid :=
  OpenClaim.holds_of_wide 6 Try.f6 rfl rfl rfl rfl rfl rfl rfl ⟨rfl, rfl, rfl, rfl, rfl⟩ rfl rfl rfl rfl rfl (by kernel_rfl) Try.func6 (by kernel_rfl)
    (of_decide_eq_true (by kernel_rfl)) (by unfold Func.isWrapper; first | (rw [if_pos (by decide +kernel)]; kernel_rfl) | (rw [if_neg (by decide +kernel)]; exact ⟨rfl, rfl⟩))
    (fun os started H enc _ => lifted os started H enc)
#print axioms proved

end Go.Proofs.Ytciaegdgoabipaa.fnExactFindRow
