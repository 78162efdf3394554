/-
  Proved: at every argument the law FnExactSetColumn returns true, and its arguments read afterwards as they did.
-/
import Derived.Test.YtciaegdgoabipabFrame
import Derived.Test.YtciaegdgoabipabTfn
import Derived.Test.YtciaegdgoabipabOpn
import Derived.Test.YtciaegdgoabipabKnr
import Derived.Test.YtciaegdgoabipabKep
namespace Go.Proofs.Ytciaegdgoabipab.fnExactSetColumn
open Go.ChangeShapes Go.WideShapes Go.ChangeAt Go.RowKit

theorem own : ownKnob Try.prog.godebug = none := by kernel_rfl
theorem laidOut : laidOutB Try.prog = true := by kernel_rfl

open Go.Proofs.Ytciaegdgoabipab.Kep

set_option maxRecDepth 100000 in
set_option maxHeartbeats 4000000 in
theorem walk (a0 : Option Addr) (n0 c0 : Nat) (rs0 : List Rws.RowV) (i1 : Int) (i2 : Int) (b3 : Bool) (m3 : Int) (w : World) (h0 : Rws.IsRows w a0 n0 c0 rs0) (hf1 : (Lit.int .i64 i1).wf = true) (hf2 : (Lit.int .i64 i2).wf = true) (hf3 : (Lit.int .i64 m3).wf = true) :
    Calls Try.prog 4 #[.slice a0 n0 c0, .int .i64 i1, .int .i64 i2, .agg #[.bool b3, .int .i64 m3]] w fun e w' => e = .returned (.bool true) ∧ Below w.heap.size w w' := by
  have HR0 : Hid (Rws.IsRows w a0 n0 c0 rs0) := h0
  clear h0
  have HWF1 : Hid ((Lit.int .i64 i1).wf = true) := hf1
  clear hf1
  have HWF2 : Hid ((Lit.int .i64 i2).wf = true) := hf2
  clear hf2
  have HWF3 : Hid ((Lit.int .i64 m3).wf = true) := hf3
  clear hf3
  have B0 : Hid (Below w.heap.size w w) := Below.refl _ _
  have B1 : Hid (Below w.heap.size w (w.alloc (.cells #[.bool b3, .int .i64 m3] 32))) := (Below.refl _ _).alloc (Nat.le_refl _) _
  have K0 : Hid ((w.alloc (.cells #[.bool b3, .int .i64 m3] 32)).cell? ⟨w.heap.size, 0, none⟩ = some (.bool b3) ∧ (w.alloc (.cells #[.bool b3, .int .i64 m3] 32)).cell? ⟨w.heap.size, 1, none⟩ = some (.int .i64 m3)) := by
    show _ ∧ _
    refine ⟨?_, ?_⟩ <;> rw [World.cell?_alloc_at _ _ _ _ rfl] <;> rfl
  have E0 : Hid ((w.alloc (.cells #[.bool b3, .int .i64 m3] 32)).heap.size = w.heap.size + 1) := by show _ = _; simp
  go_enter Try.func4, Try.ntmps4
  have cc1 : (w.alloc (.cells #[.bool b3, .int .i64 m3] 32)).cell? ⟨w.heap.size, 0, none⟩ = some (.bool b3) := K0.out.1
  have cc2 : (w.alloc (.cells #[.bool b3, .int .i64 m3] 32)).cell? ⟨w.heap.size, 1, none⟩ = some (.int .i64 m3) := K0.out.2
  go_wp2_with fail
  refine (Rws.szRowS a0 n0 c0 rs0 1048576 _ (HR0.out.below B1.out) (by omega) (by omega)).mono ?_
  rintro e w1 ⟨rfl, hb1⟩
  clear cc1 cc2
  have Z3 : Hid (w.heap.size + 1 ≤ w1.heap.size) := (by have hh := hb1.size; rw [E0.out] at hh; exact hh)
  have K4 : Hid (w1.cell? ⟨w.heap.size, 0, none⟩ = some (.bool b3) ∧ w1.cell? ⟨w.heap.size, 1, none⟩ = some (.int .i64 m3)) := ⟨(hb1.cell (p := ⟨w.heap.size, 0, none⟩) (Frame.cell_lt K0.out.1)).trans K0.out.1, (hb1.cell (p := ⟨w.heap.size, 1, none⟩) (Frame.cell_lt K0.out.2)).trans K0.out.2⟩
  have B5 : Hid (Below w.heap.size w w1) := Frame.next B1.out hb1 B1.out.size
  clear hb1
  by_cases hL1 : Rws.left 1048576 (Rws.total rs0) < 0
  · go_wp2
    go_ret
    exact ⟨rfl, B5.out⟩
  · have ht0 : Rws.total rs0 ≤ 1048576 := by unfold Rws.left at hL1; split at hL1 <;> omega
    have A0 : Hid (Knr.RIs w (.slice a0 n0 c0) (Rws.plain rs0)) := ⟨_, _, _, _, rfl, HR0.out, rfl, ht0⟩
    have hB1 : Rws.left 1048576 (Rws.total rs0) ≤ 1048576 := by have hq := Rws.sumN_nonneg rs0; unfold Rws.left; unfold Rws.total at *; split <;> omega
    clear ht0
    generalize hG1 : Rws.left 1048576 (Rws.total rs0) = L6 at hL1 hB1 ⊢
    clear hG1
    go_wp2_with fail
    have K7 : Hid ((w1.drew).cell? ⟨w.heap.size, 0, none⟩ = some (.bool b3) ∧ (w1.drew).cell? ⟨w.heap.size, 1, none⟩ = some (.int .i64 m3)) := ⟨(((Below.refl _ _).drew : Below w1.heap.size w1 w1.drew).cell (p := ⟨w.heap.size, 0, none⟩) (Frame.cell_lt K4.out.1)).trans K4.out.1, (((Below.refl _ _).drew : Below w1.heap.size w1 w1.drew).cell (p := ⟨w.heap.size, 1, none⟩) (Frame.cell_lt K4.out.2)).trans K4.out.2⟩
    have B8 : Hid (Below w.heap.size w w1.drew) := Frame.next B5.out ((Below.refl _ _).drew : Below w1.heap.size w1 w1.drew) B5.out.size
    have E9 : Hid (w1.drew.heap.size = w1.heap.size) := rfl
    have S10 : Hid ((w1.drew).cell? ⟨w.heap.size, 0, none⟩ = some (.bool b3) ∧ (w1.drew).cell? ⟨w.heap.size, 1, none⟩ = some (.int .i64 m3)) := ⟨K7.out.1, K7.out.2⟩
    go_region_held3 (fun w' => (w').cell? ⟨w.heap.size, 0, none⟩ = some (.bool b3) ∧ (w').cell? ⟨w.heap.size, 1, none⟩ = some (.int .i64 m3)) (first | exact S10.out | exact S16.out | exact S22.out | exact S28.out) (first | (go_at_call 8; refine (Knr.r_to (.slice a0 n0 c0) (Rws.plain rs0) _ (Knr.rIs_below A0.out B8.out)).mono ?_; rintro e w2 ⟨u11, rfl, ho, hb2⟩; have O12 : Hid (Knr.ROwn w2 (w1.heap.size) (w2.heap.size) u11 (Rws.plain rs0)) := (by have hh := ho; rw [E9.out] at hh; exact hh); have Z13 : Hid (w1.heap.size ≤ w2.heap.size) := (by have hh := hb2.size; rw [E9.out] at hh; exact hh); have K14 : Hid (w2.cell? ⟨w.heap.size, 0, none⟩ = some (.bool b3) ∧ w2.cell? ⟨w.heap.size, 1, none⟩ = some (.int .i64 m3)) := ⟨(hb2.cell (p := ⟨w.heap.size, 0, none⟩) (Frame.cell_lt K7.out.1)).trans K7.out.1, (hb2.cell (p := ⟨w.heap.size, 1, none⟩) (Frame.cell_lt K7.out.2)).trans K7.out.2⟩; have B15 : Hid (Below w.heap.size w w2) := Frame.next B8.out hb2 B8.out.size; clear ho hb2; have S16 : Hid (w2.cell? ⟨w.heap.size, 0, none⟩ = some (.bool b3) ∧ w2.cell? ⟨w.heap.size, 1, none⟩ = some (.int .i64 m3)) := ⟨K14.out.1, K14.out.2⟩) | (go_at_call 14; refine (Val.toValue b3 m3 _).mono ?_; rintro e w3 ⟨rfl, hb3⟩; have Z18 : Hid (w2.heap.size ≤ w3.heap.size) := hb3.size; have O19 : Hid (Knr.ROwn w3 (w1.heap.size) (w2.heap.size) u11 (Rws.plain rs0)) := Knr.rOwn_below O12.out hb3; have K20 : Hid (w3.cell? ⟨w.heap.size, 0, none⟩ = some (.bool b3) ∧ w3.cell? ⟨w.heap.size, 1, none⟩ = some (.int .i64 m3)) := ⟨(hb3.cell (p := ⟨w.heap.size, 0, none⟩) (Frame.cell_lt K14.out.1)).trans K14.out.1, (hb3.cell (p := ⟨w.heap.size, 1, none⟩) (Frame.cell_lt K14.out.2)).trans K14.out.2⟩; have B21 : Hid (Below w.heap.size w w3) := Frame.next B15.out hb3 B15.out.size; clear hb3; have S22 : Hid (w3.cell? ⟨w.heap.size, 0, none⟩ = some (.bool b3) ∧ w3.cell? ⟨w.heap.size, 1, none⟩ = some (.int .i64 m3)) := ⟨K20.out.1, K20.out.2⟩) | (go_at_call 13; refine (Tfn.spec_SetColumn u11 (Rws.plain rs0) i1 i2 b3 m3 _ (Knr.rOwn_is O19.out) HWF1.out HWF3.out).mono ?_; rintro e w4 ⟨u23, rfl, ho0, hb4⟩; have O24 : Hid (Knr.ROwn w4 (w3.heap.size) (w4.heap.size) u23 (Tfn.pSetV i1 i2 (b3, m3) (Rws.plain rs0))) := ho0; have Z25 : Hid (w3.heap.size ≤ w4.heap.size) := hb4.size; have K26 : Hid (w4.cell? ⟨w.heap.size, 0, none⟩ = some (.bool b3) ∧ w4.cell? ⟨w.heap.size, 1, none⟩ = some (.int .i64 m3)) := ⟨(hb4.cell (p := ⟨w.heap.size, 0, none⟩) (Frame.cell_lt K20.out.1)).trans K20.out.1, (hb4.cell (p := ⟨w.heap.size, 1, none⟩) (Frame.cell_lt K20.out.2)).trans K20.out.2⟩; have B27 : Hid (Below w.heap.size w w4) := Frame.next B21.out hb4 B21.out.size; clear ho0 hb4; have S28 : Hid (w4.cell? ⟨w.heap.size, 0, none⟩ = some (.bool b3) ∧ w4.cell? ⟨w.heap.size, 1, none⟩ = some (.int .i64 m3)) := ⟨K26.out.1, K26.out.2⟩))
    have cc30 : w4.cell? ⟨w.heap.size, 0, none⟩ = some (.bool b3) := K26.out.1
    have cc31 : w4.cell? ⟨w.heap.size, 1, none⟩ = some (.int .i64 m3) := K26.out.2
    go_wp2_with fail
    refine (Knr.r_to (.slice a0 n0 c0) (Rws.plain rs0) _ (Knr.rIs_below A0.out B27.out)).mono ?_
    rintro e w5 ⟨u29, rfl, ho, hb5⟩
    clear cc30 cc31
    have O32 : Hid (Knr.ROwn w5 (w4.heap.size) (w5.heap.size) u29 (Rws.plain rs0)) := ho
    have Z33 : Hid (w4.heap.size ≤ w5.heap.size) := hb5.size
    have O34 : Hid (Knr.ROwn w5 (w3.heap.size) (w4.heap.size) u23 (Tfn.pSetV i1 i2 (b3, m3) (Rws.plain rs0))) := Knr.rOwn_below O24.out hb5
    have K35 : Hid (w5.cell? ⟨w.heap.size, 0, none⟩ = some (.bool b3) ∧ w5.cell? ⟨w.heap.size, 1, none⟩ = some (.int .i64 m3)) := ⟨(hb5.cell (p := ⟨w.heap.size, 0, none⟩) (Frame.cell_lt K26.out.1)).trans K26.out.1, (hb5.cell (p := ⟨w.heap.size, 1, none⟩) (Frame.cell_lt K26.out.2)).trans K26.out.2⟩
    have B36 : Hid (Below w.heap.size w w5) := Frame.next B27.out hb5 B27.out.size
    clear ho hb5
    have cc38 : w5.cell? ⟨w.heap.size, 0, none⟩ = some (.bool b3) := K35.out.1
    have cc39 : w5.cell? ⟨w.heap.size, 1, none⟩ = some (.int .i64 m3) := K35.out.2
    go_wp2_with fail
    refine (Val.toValue b3 m3 _).mono ?_
    rintro e w6 ⟨rfl, hb6⟩
    clear cc38 cc39
    have Z40 : Hid (w5.heap.size ≤ w6.heap.size) := hb6.size
    have O41 : Hid (Knr.ROwn w6 (w3.heap.size) (w4.heap.size) u23 (Tfn.pSetV i1 i2 (b3, m3) (Rws.plain rs0))) := Knr.rOwn_below O34.out hb6
    have O42 : Hid (Knr.ROwn w6 (w4.heap.size) (w5.heap.size) u29 (Rws.plain rs0)) := Knr.rOwn_below O32.out hb6
    have K43 : Hid (w6.cell? ⟨w.heap.size, 0, none⟩ = some (.bool b3) ∧ w6.cell? ⟨w.heap.size, 1, none⟩ = some (.int .i64 m3)) := ⟨(hb6.cell (p := ⟨w.heap.size, 0, none⟩) (Frame.cell_lt K35.out.1)).trans K35.out.1, (hb6.cell (p := ⟨w.heap.size, 1, none⟩) (Frame.cell_lt K35.out.2)).trans K35.out.2⟩
    have B44 : Hid (Below w.heap.size w w6) := Frame.next B36.out hb6 B36.out.size
    clear hb6
    have cc46 : w6.cell? ⟨w.heap.size, 0, none⟩ = some (.bool b3) := K43.out.1
    have cc47 : w6.cell? ⟨w.heap.size, 1, none⟩ = some (.int .i64 m3) := K43.out.2
    go_wp2_with fail
    refine (Tfn.impl_SetColumn u29 (Rws.plain rs0) i1 i2 b3 m3 _ (Knr.rOwn_is O42.out) HWF1.out HWF3.out).mono ?_
    rintro e w7 ⟨u45, rfl, ho0, hb7⟩
    clear cc46 cc47
    have O48 : Hid (Knr.ROwn w7 (w6.heap.size) (w7.heap.size) u45 (Tfn.pSetV i1 i2 (b3, m3) (Rws.plain rs0))) := ho0
    have Z49 : Hid (w6.heap.size ≤ w7.heap.size) := hb7.size
    have O50 : Hid (Knr.ROwn w7 (w3.heap.size) (w4.heap.size) u23 (Tfn.pSetV i1 i2 (b3, m3) (Rws.plain rs0))) := Knr.rOwn_below O41.out hb7
    have O51 : Hid (Knr.ROwn w7 (w4.heap.size) (w5.heap.size) u29 (Rws.plain rs0)) := Knr.rOwn_below O42.out hb7
    have K52 : Hid (w7.cell? ⟨w.heap.size, 0, none⟩ = some (.bool b3) ∧ w7.cell? ⟨w.heap.size, 1, none⟩ = some (.int .i64 m3)) := ⟨(hb7.cell (p := ⟨w.heap.size, 0, none⟩) (Frame.cell_lt K43.out.1)).trans K43.out.1, (hb7.cell (p := ⟨w.heap.size, 1, none⟩) (Frame.cell_lt K43.out.2)).trans K43.out.2⟩
    have B53 : Hid (Below w.heap.size w w7) := Frame.next B44.out hb7 B44.out.size
    clear ho0 hb7
    have cc54 : w7.cell? ⟨w.heap.size, 0, none⟩ = some (.bool b3) := K52.out.1
    have cc55 : w7.cell? ⟨w.heap.size, 1, none⟩ = some (.int .i64 m3) := K52.out.2
    go_wp2_with fail
    refine (Knr.r_eq u45 u23 (Tfn.pSetV i1 i2 (b3, m3) (Rws.plain rs0)) (Tfn.pSetV i1 i2 (b3, m3) (Rws.plain rs0)) _ (Knr.rOwn_is O48.out) (Knr.rOwn_is O50.out)).mono ?_
    rintro e w8 ⟨rfl, hb8⟩
    clear cc54 cc55
    rw [decide_eq_true (Eq.refl ((Tfn.pSetV i1 i2 (b3, m3) (Rws.plain rs0))))]
    have Z56 : Hid (w7.heap.size ≤ w8.heap.size) := hb8.size
    have O57 : Hid (Knr.ROwn w8 (w3.heap.size) (w4.heap.size) u23 (Tfn.pSetV i1 i2 (b3, m3) (Rws.plain rs0))) := Knr.rOwn_below O50.out hb8
    have O58 : Hid (Knr.ROwn w8 (w4.heap.size) (w5.heap.size) u29 (Rws.plain rs0)) := Knr.rOwn_below O51.out hb8
    have O59 : Hid (Knr.ROwn w8 (w6.heap.size) (w7.heap.size) u45 (Tfn.pSetV i1 i2 (b3, m3) (Rws.plain rs0))) := Knr.rOwn_below O48.out hb8
    have K60 : Hid (w8.cell? ⟨w.heap.size, 0, none⟩ = some (.bool b3) ∧ w8.cell? ⟨w.heap.size, 1, none⟩ = some (.int .i64 m3)) := ⟨(hb8.cell (p := ⟨w.heap.size, 0, none⟩) (Frame.cell_lt K52.out.1)).trans K52.out.1, (hb8.cell (p := ⟨w.heap.size, 1, none⟩) (Frame.cell_lt K52.out.2)).trans K52.out.2⟩
    have B61 : Hid (Below w.heap.size w w8) := Frame.next B53.out hb8 B53.out.size
    clear hb8
    have cc63 : w8.cell? ⟨w.heap.size, 0, none⟩ = some (.bool b3) := K60.out.1
    have cc64 : w8.cell? ⟨w.heap.size, 1, none⟩ = some (.int .i64 m3) := K60.out.2
    go_wp2_with fail
    refine (Knr.r_to (.slice a0 n0 c0) (Rws.plain rs0) _ (Knr.rIs_below A0.out B61.out)).mono ?_
    rintro e w9 ⟨u62, rfl, ho, hb9⟩
    clear cc63 cc64
    have O65 : Hid (Knr.ROwn w9 (w8.heap.size) (w9.heap.size) u62 (Rws.plain rs0)) := ho
    have Z66 : Hid (w8.heap.size ≤ w9.heap.size) := hb9.size
    have O67 : Hid (Knr.ROwn w9 (w3.heap.size) (w4.heap.size) u23 (Tfn.pSetV i1 i2 (b3, m3) (Rws.plain rs0))) := Knr.rOwn_below O57.out hb9
    have O68 : Hid (Knr.ROwn w9 (w4.heap.size) (w5.heap.size) u29 (Rws.plain rs0)) := Knr.rOwn_below O58.out hb9
    have O69 : Hid (Knr.ROwn w9 (w6.heap.size) (w7.heap.size) u45 (Tfn.pSetV i1 i2 (b3, m3) (Rws.plain rs0))) := Knr.rOwn_below O59.out hb9
    have K70 : Hid (w9.cell? ⟨w.heap.size, 0, none⟩ = some (.bool b3) ∧ w9.cell? ⟨w.heap.size, 1, none⟩ = some (.int .i64 m3)) := ⟨(hb9.cell (p := ⟨w.heap.size, 0, none⟩) (Frame.cell_lt K60.out.1)).trans K60.out.1, (hb9.cell (p := ⟨w.heap.size, 1, none⟩) (Frame.cell_lt K60.out.2)).trans K60.out.2⟩
    have B71 : Hid (Below w.heap.size w w9) := Frame.next B61.out hb9 B61.out.size
    clear ho hb9
    have cc73 : w9.cell? ⟨w.heap.size, 0, none⟩ = some (.bool b3) := K70.out.1
    have cc74 : w9.cell? ⟨w.heap.size, 1, none⟩ = some (.int .i64 m3) := K70.out.2
    go_wp2_with fail
    refine (Knr.r_eq u29 u62 (Rws.plain rs0) (Rws.plain rs0) _ (Knr.rOwn_is O68.out) (Knr.rOwn_is O65.out)).mono ?_
    rintro e w10 ⟨rfl, hb10⟩
    clear cc73 cc74
    rw [decide_eq_true (Eq.refl ((Rws.plain rs0)))]
    have Z75 : Hid (w9.heap.size ≤ w10.heap.size) := hb10.size
    have O76 : Hid (Knr.ROwn w10 (w3.heap.size) (w4.heap.size) u23 (Tfn.pSetV i1 i2 (b3, m3) (Rws.plain rs0))) := Knr.rOwn_below O67.out hb10
    have O77 : Hid (Knr.ROwn w10 (w4.heap.size) (w5.heap.size) u29 (Rws.plain rs0)) := Knr.rOwn_below O68.out hb10
    have O78 : Hid (Knr.ROwn w10 (w6.heap.size) (w7.heap.size) u45 (Tfn.pSetV i1 i2 (b3, m3) (Rws.plain rs0))) := Knr.rOwn_below O69.out hb10
    have O79 : Hid (Knr.ROwn w10 (w8.heap.size) (w9.heap.size) u62 (Rws.plain rs0)) := Knr.rOwn_below O65.out hb10
    have K80 : Hid (w10.cell? ⟨w.heap.size, 0, none⟩ = some (.bool b3) ∧ w10.cell? ⟨w.heap.size, 1, none⟩ = some (.int .i64 m3)) := ⟨(hb10.cell (p := ⟨w.heap.size, 0, none⟩) (Frame.cell_lt K70.out.1)).trans K70.out.1, (hb10.cell (p := ⟨w.heap.size, 1, none⟩) (Frame.cell_lt K70.out.2)).trans K70.out.2⟩
    have B81 : Hid (Below w.heap.size w w10) := Frame.next B71.out hb10 B71.out.size
    clear hb10
    have cc83 : w10.cell? ⟨w.heap.size, 0, none⟩ = some (.bool b3) := K80.out.1
    have cc84 : w10.cell? ⟨w.heap.size, 1, none⟩ = some (.int .i64 m3) := K80.out.2
    go_wp2_with fail
    refine (Knr.r_mark u29 (Rws.plain rs0) _ _ 1 _ O77.out (by omega) (by omega)).mono ?_
    rintro e w11 ⟨nx82, rfl, hn0nx82, hn1nx82, hm, hb11⟩
    clear cc83 cc84
    have hznx82 : ¬ nx82 < 0 := by omega
    have O85 : Hid (Knr.RMarked w11 (w4.heap.size) (w5.heap.size) u29 1 nx82) := hm
    have Z86 : Hid (w10.heap.size ≤ w11.heap.size) := hb11.size
    have O87 : Hid (Knr.ROwn w11 (w3.heap.size) (w4.heap.size) u23 (Tfn.pSetV i1 i2 (b3, m3) (Rws.plain rs0))) := Knr.rOwn_keeps O76.out hb11 (by have z0 := Z3.out; have z1 := Z13.out; have z2 := Z18.out; have z3 := Z25.out; have z4 := Z33.out; have z5 := Z40.out; have z6 := Z49.out; have z7 := Z56.out; have z8 := Z66.out; have z9 := Z75.out; omega)
    have O88 : Hid (Knr.ROwn w11 (w6.heap.size) (w7.heap.size) u45 (Tfn.pSetV i1 i2 (b3, m3) (Rws.plain rs0))) := Knr.rOwn_keeps O78.out hb11 (by have z0 := Z3.out; have z1 := Z13.out; have z2 := Z18.out; have z3 := Z25.out; have z4 := Z33.out; have z5 := Z40.out; have z6 := Z49.out; have z7 := Z56.out; have z8 := Z66.out; have z9 := Z75.out; omega)
    have K89 : Hid (w11.cell? ⟨w.heap.size, 0, none⟩ = some (.bool b3) ∧ w11.cell? ⟨w.heap.size, 1, none⟩ = some (.int .i64 m3)) := ⟨Keeps.cell hb11 K80.out.1 (by have z0 := Z3.out; have z1 := Z13.out; have z2 := Z18.out; have z3 := Z25.out; have z4 := Z33.out; have z5 := Z40.out; have z6 := Z49.out; have z7 := Z56.out; have z8 := Z66.out; have z9 := Z75.out; omega), Keeps.cell hb11 K80.out.2 (by have z0 := Z3.out; have z1 := Z13.out; have z2 := Z18.out; have z3 := Z25.out; have z4 := Z33.out; have z5 := Z40.out; have z6 := Z49.out; have z7 := Z56.out; have z8 := Z66.out; have z9 := Z75.out; omega)⟩
    have B90 : Hid (Below w.heap.size w w11) := Keeps.below B81.out hb11 (by have z0 := Z3.out; have z1 := Z13.out; have z2 := Z18.out; have z3 := Z25.out; have z4 := Z33.out; have z5 := Z40.out; have z6 := Z49.out; have z7 := Z56.out; have z8 := Z66.out; have z9 := Z75.out; omega) B81.out.size
    clear hm hb11
    have cc91 : w11.cell? ⟨w.heap.size, 0, none⟩ = some (.bool b3) := K89.out.1
    have cc92 : w11.cell? ⟨w.heap.size, 1, none⟩ = some (.int .i64 m3) := K89.out.2
    go_wp2_with fail
    refine (Knr.r_eq u45 u23 (Tfn.pSetV i1 i2 (b3, m3) (Rws.plain rs0)) (Tfn.pSetV i1 i2 (b3, m3) (Rws.plain rs0)) _ (Knr.rOwn_is O88.out) (Knr.rOwn_is O87.out)).mono ?_
    rintro e w12 ⟨rfl, hb12⟩
    clear cc91 cc92
    rw [decide_eq_true (Eq.refl ((Tfn.pSetV i1 i2 (b3, m3) (Rws.plain rs0))))]
    have Z93 : Hid (w11.heap.size ≤ w12.heap.size) := hb12.size
    have O94 : Hid (Knr.ROwn w12 (w3.heap.size) (w4.heap.size) u23 (Tfn.pSetV i1 i2 (b3, m3) (Rws.plain rs0))) := Knr.rOwn_below O87.out hb12
    have O95 : Hid (Knr.RMarked w12 (w4.heap.size) (w5.heap.size) u29 1 nx82) := Knr.rMarked_below O85.out hb12
    have O96 : Hid (Knr.ROwn w12 (w6.heap.size) (w7.heap.size) u45 (Tfn.pSetV i1 i2 (b3, m3) (Rws.plain rs0))) := Knr.rOwn_below O88.out hb12
    have K97 : Hid (w12.cell? ⟨w.heap.size, 0, none⟩ = some (.bool b3) ∧ w12.cell? ⟨w.heap.size, 1, none⟩ = some (.int .i64 m3)) := ⟨(hb12.cell (p := ⟨w.heap.size, 0, none⟩) (Frame.cell_lt K89.out.1)).trans K89.out.1, (hb12.cell (p := ⟨w.heap.size, 1, none⟩) (Frame.cell_lt K89.out.2)).trans K89.out.2⟩
    have B98 : Hid (Below w.heap.size w w12) := Frame.next B90.out hb12 B90.out.size
    clear hb12
    have cc100 : w12.cell? ⟨w.heap.size, 0, none⟩ = some (.bool b3) := K97.out.1
    have cc101 : w12.cell? ⟨w.heap.size, 1, none⟩ = some (.int .i64 m3) := K97.out.2
    go_wp2_with fail
    refine (Knr.r_mark u45 (Tfn.pSetV i1 i2 (b3, m3) (Rws.plain rs0)) _ _ 1 _ O96.out (by omega) (by omega)).mono ?_
    rintro e w13 ⟨nx99, rfl, hn0nx99, hn1nx99, hm, hb13⟩
    clear cc100 cc101
    have hznx99 : ¬ nx99 < 0 := by omega
    have O102 : Hid (Knr.RMarked w13 (w6.heap.size) (w7.heap.size) u45 1 nx99) := hm
    have Z103 : Hid (w12.heap.size ≤ w13.heap.size) := hb13.size
    have O104 : Hid (Knr.ROwn w13 (w3.heap.size) (w4.heap.size) u23 (Tfn.pSetV i1 i2 (b3, m3) (Rws.plain rs0))) := Knr.rOwn_keeps O94.out hb13 (by have z0 := Z3.out; have z1 := Z13.out; have z2 := Z18.out; have z3 := Z25.out; have z4 := Z33.out; have z5 := Z40.out; have z6 := Z49.out; have z7 := Z56.out; have z8 := Z66.out; have z9 := Z75.out; have z10 := Z86.out; have z11 := Z93.out; omega)
    have K105 : Hid (w13.cell? ⟨w.heap.size, 0, none⟩ = some (.bool b3) ∧ w13.cell? ⟨w.heap.size, 1, none⟩ = some (.int .i64 m3)) := ⟨Keeps.cell hb13 K97.out.1 (by have z0 := Z3.out; have z1 := Z13.out; have z2 := Z18.out; have z3 := Z25.out; have z4 := Z33.out; have z5 := Z40.out; have z6 := Z49.out; have z7 := Z56.out; have z8 := Z66.out; have z9 := Z75.out; have z10 := Z86.out; have z11 := Z93.out; omega), Keeps.cell hb13 K97.out.2 (by have z0 := Z3.out; have z1 := Z13.out; have z2 := Z18.out; have z3 := Z25.out; have z4 := Z33.out; have z5 := Z40.out; have z6 := Z49.out; have z7 := Z56.out; have z8 := Z66.out; have z9 := Z75.out; have z10 := Z86.out; have z11 := Z93.out; omega)⟩
    have B106 : Hid (Below w.heap.size w w13) := Keeps.below B98.out hb13 (by have z0 := Z3.out; have z1 := Z13.out; have z2 := Z18.out; have z3 := Z25.out; have z4 := Z33.out; have z5 := Z40.out; have z6 := Z49.out; have z7 := Z56.out; have z8 := Z66.out; have z9 := Z75.out; have z10 := Z86.out; have z11 := Z93.out; omega) B98.out.size
    clear hm hb13
    have cc107 : w13.cell? ⟨w.heap.size, 0, none⟩ = some (.bool b3) := K105.out.1
    have cc108 : w13.cell? ⟨w.heap.size, 1, none⟩ = some (.int .i64 m3) := K105.out.2
    go_wp2_with fail
    refine (Knr.r_held u45 _ _ 1 nx99 _ O102.out).mono ?_
    rintro e w14 ⟨rfl, hb14⟩
    clear cc107 cc108
    have Z109 : Hid (w13.heap.size ≤ w14.heap.size) := hb14.size
    have O110 : Hid (Knr.ROwn w14 (w3.heap.size) (w4.heap.size) u23 (Tfn.pSetV i1 i2 (b3, m3) (Rws.plain rs0))) := Knr.rOwn_below O104.out hb14
    have O111 : Hid (Knr.RMarked w14 (w6.heap.size) (w7.heap.size) u45 1 nx99) := Knr.rMarked_below O102.out hb14
    have K112 : Hid (w14.cell? ⟨w.heap.size, 0, none⟩ = some (.bool b3) ∧ w14.cell? ⟨w.heap.size, 1, none⟩ = some (.int .i64 m3)) := ⟨(hb14.cell (p := ⟨w.heap.size, 0, none⟩) (Frame.cell_lt K105.out.1)).trans K105.out.1, (hb14.cell (p := ⟨w.heap.size, 1, none⟩) (Frame.cell_lt K105.out.2)).trans K105.out.2⟩
    have B113 : Hid (Below w.heap.size w w14) := Frame.next B106.out hb14 B106.out.size
    clear hb14
    go_wp2_with fail
    have O114 : Hid (Knr.ROwn w14.drew (w3.heap.size) (w4.heap.size) u23 (Tfn.pSetV i1 i2 (b3, m3) (Rws.plain rs0))) := Knr.rOwn_below O110.out ((Below.refl _ _).drew : Below w14.heap.size w14 w14.drew)
    have O115 : Hid (Knr.RMarked w14.drew (w6.heap.size) (w7.heap.size) u45 1 nx99) := Knr.rMarked_below O111.out ((Below.refl _ _).drew : Below w14.heap.size w14 w14.drew)
    have K116 : Hid ((w14.drew).cell? ⟨w.heap.size, 0, none⟩ = some (.bool b3) ∧ (w14.drew).cell? ⟨w.heap.size, 1, none⟩ = some (.int .i64 m3)) := ⟨(((Below.refl _ _).drew : Below w14.heap.size w14 w14.drew).cell (p := ⟨w.heap.size, 0, none⟩) (Frame.cell_lt K112.out.1)).trans K112.out.1, (((Below.refl _ _).drew : Below w14.heap.size w14 w14.drew).cell (p := ⟨w.heap.size, 1, none⟩) (Frame.cell_lt K112.out.2)).trans K112.out.2⟩
    have B117 : Hid (Below w.heap.size w w14.drew) := Frame.next B113.out ((Below.refl _ _).drew : Below w14.heap.size w14 w14.drew) B113.out.size
    have E118 : Hid (w14.drew.heap.size = w14.heap.size) := rfl
    have S119 : Hid ((w14.drew).cell? ⟨w.heap.size, 0, none⟩ = some (.bool b3) ∧ (w14.drew).cell? ⟨w.heap.size, 1, none⟩ = some (.int .i64 m3)) := ⟨K116.out.1, K116.out.2⟩
    go_region_held3 (fun w' => (w').cell? ⟨w.heap.size, 0, none⟩ = some (.bool b3) ∧ (w').cell? ⟨w.heap.size, 1, none⟩ = some (.int .i64 m3)) (first | exact S119.out | exact S127.out | exact S135.out | exact S143.out) (first | (go_at_call 8; refine (Knr.r_to (.slice a0 n0 c0) (Rws.plain rs0) _ (Knr.rIs_below A0.out B117.out)).mono ?_; rintro e w15 ⟨u120, rfl, ho, hb15⟩; have O121 : Hid (Knr.ROwn w15 (w14.heap.size) (w15.heap.size) u120 (Rws.plain rs0)) := (by have hh := ho; rw [E118.out] at hh; exact hh); have Z122 : Hid (w14.heap.size ≤ w15.heap.size) := (by have hh := hb15.size; rw [E118.out] at hh; exact hh); have O123 : Hid (Knr.ROwn w15 (w3.heap.size) (w4.heap.size) u23 (Tfn.pSetV i1 i2 (b3, m3) (Rws.plain rs0))) := Knr.rOwn_below O114.out hb15; have O124 : Hid (Knr.RMarked w15 (w6.heap.size) (w7.heap.size) u45 1 nx99) := Knr.rMarked_below O115.out hb15; have K125 : Hid (w15.cell? ⟨w.heap.size, 0, none⟩ = some (.bool b3) ∧ w15.cell? ⟨w.heap.size, 1, none⟩ = some (.int .i64 m3)) := ⟨(hb15.cell (p := ⟨w.heap.size, 0, none⟩) (Frame.cell_lt K116.out.1)).trans K116.out.1, (hb15.cell (p := ⟨w.heap.size, 1, none⟩) (Frame.cell_lt K116.out.2)).trans K116.out.2⟩; have B126 : Hid (Below w.heap.size w w15) := Frame.next B117.out hb15 B117.out.size; clear ho hb15; have S127 : Hid (w15.cell? ⟨w.heap.size, 0, none⟩ = some (.bool b3) ∧ w15.cell? ⟨w.heap.size, 1, none⟩ = some (.int .i64 m3)) := ⟨K125.out.1, K125.out.2⟩) | (go_at_call 14; refine (Val.toValue b3 m3 _).mono ?_; rintro e w16 ⟨rfl, hb16⟩; have Z129 : Hid (w15.heap.size ≤ w16.heap.size) := hb16.size; have O130 : Hid (Knr.ROwn w16 (w3.heap.size) (w4.heap.size) u23 (Tfn.pSetV i1 i2 (b3, m3) (Rws.plain rs0))) := Knr.rOwn_below O123.out hb16; have O131 : Hid (Knr.RMarked w16 (w6.heap.size) (w7.heap.size) u45 1 nx99) := Knr.rMarked_below O124.out hb16; have O132 : Hid (Knr.ROwn w16 (w14.heap.size) (w15.heap.size) u120 (Rws.plain rs0)) := Knr.rOwn_below O121.out hb16; have K133 : Hid (w16.cell? ⟨w.heap.size, 0, none⟩ = some (.bool b3) ∧ w16.cell? ⟨w.heap.size, 1, none⟩ = some (.int .i64 m3)) := ⟨(hb16.cell (p := ⟨w.heap.size, 0, none⟩) (Frame.cell_lt K125.out.1)).trans K125.out.1, (hb16.cell (p := ⟨w.heap.size, 1, none⟩) (Frame.cell_lt K125.out.2)).trans K125.out.2⟩; have B134 : Hid (Below w.heap.size w w16) := Frame.next B126.out hb16 B126.out.size; clear hb16; have S135 : Hid (w16.cell? ⟨w.heap.size, 0, none⟩ = some (.bool b3) ∧ w16.cell? ⟨w.heap.size, 1, none⟩ = some (.int .i64 m3)) := ⟨K133.out.1, K133.out.2⟩) | (go_at_call 15; refine (Tfn.impl_SetColumn u120 (Rws.plain rs0) i1 i2 b3 m3 _ (Knr.rOwn_is O132.out) HWF1.out HWF3.out).mono ?_; rintro e w17 ⟨u136, rfl, ho0, hb17⟩; have O137 : Hid (Knr.ROwn w17 (w16.heap.size) (w17.heap.size) u136 (Tfn.pSetV i1 i2 (b3, m3) (Rws.plain rs0))) := ho0; have Z138 : Hid (w16.heap.size ≤ w17.heap.size) := hb17.size; have O139 : Hid (Knr.ROwn w17 (w3.heap.size) (w4.heap.size) u23 (Tfn.pSetV i1 i2 (b3, m3) (Rws.plain rs0))) := Knr.rOwn_below O130.out hb17; have O140 : Hid (Knr.RMarked w17 (w6.heap.size) (w7.heap.size) u45 1 nx99) := Knr.rMarked_below O131.out hb17; have K141 : Hid (w17.cell? ⟨w.heap.size, 0, none⟩ = some (.bool b3) ∧ w17.cell? ⟨w.heap.size, 1, none⟩ = some (.int .i64 m3)) := ⟨(hb17.cell (p := ⟨w.heap.size, 0, none⟩) (Frame.cell_lt K133.out.1)).trans K133.out.1, (hb17.cell (p := ⟨w.heap.size, 1, none⟩) (Frame.cell_lt K133.out.2)).trans K133.out.2⟩; have B142 : Hid (Below w.heap.size w w17) := Frame.next B134.out hb17 B134.out.size; clear ho0 hb17; have S143 : Hid (w17.cell? ⟨w.heap.size, 0, none⟩ = some (.bool b3) ∧ w17.cell? ⟨w.heap.size, 1, none⟩ = some (.int .i64 m3)) := ⟨K141.out.1, K141.out.2⟩))
    have cc144 : w17.cell? ⟨w.heap.size, 0, none⟩ = some (.bool b3) := K141.out.1
    have cc145 : w17.cell? ⟨w.heap.size, 1, none⟩ = some (.int .i64 m3) := K141.out.2
    go_wp2_with fail
    refine (Knr.r_eq u136 u23 (Tfn.pSetV i1 i2 (b3, m3) (Rws.plain rs0)) (Tfn.pSetV i1 i2 (b3, m3) (Rws.plain rs0)) _ (Knr.rOwn_is O137.out) (Knr.rOwn_is O139.out)).mono ?_
    rintro e w18 ⟨rfl, hb18⟩
    clear cc144 cc145
    rw [decide_eq_true (Eq.refl ((Tfn.pSetV i1 i2 (b3, m3) (Rws.plain rs0))))]
    have Z146 : Hid (w17.heap.size ≤ w18.heap.size) := hb18.size
    have O147 : Hid (Knr.ROwn w18 (w3.heap.size) (w4.heap.size) u23 (Tfn.pSetV i1 i2 (b3, m3) (Rws.plain rs0))) := Knr.rOwn_below O139.out hb18
    have O148 : Hid (Knr.RMarked w18 (w6.heap.size) (w7.heap.size) u45 1 nx99) := Knr.rMarked_below O140.out hb18
    have O149 : Hid (Knr.ROwn w18 (w16.heap.size) (w17.heap.size) u136 (Tfn.pSetV i1 i2 (b3, m3) (Rws.plain rs0))) := Knr.rOwn_below O137.out hb18
    have K150 : Hid (w18.cell? ⟨w.heap.size, 0, none⟩ = some (.bool b3) ∧ w18.cell? ⟨w.heap.size, 1, none⟩ = some (.int .i64 m3)) := ⟨(hb18.cell (p := ⟨w.heap.size, 0, none⟩) (Frame.cell_lt K141.out.1)).trans K141.out.1, (hb18.cell (p := ⟨w.heap.size, 1, none⟩) (Frame.cell_lt K141.out.2)).trans K141.out.2⟩
    have B151 : Hid (Below w.heap.size w w18) := Frame.next B142.out hb18 B142.out.size
    clear hb18
    have cc152 : w18.cell? ⟨w.heap.size, 0, none⟩ = some (.bool b3) := K150.out.1
    have cc153 : w18.cell? ⟨w.heap.size, 1, none⟩ = some (.int .i64 m3) := K150.out.2
    go_wp2_with fail
    refine (Knr.r_held u45 _ _ 1 nx99 _ O148.out).mono ?_
    rintro e w19 ⟨rfl, hb19⟩
    clear cc152 cc153
    have Z154 : Hid (w18.heap.size ≤ w19.heap.size) := hb19.size
    have O155 : Hid (Knr.ROwn w19 (w3.heap.size) (w4.heap.size) u23 (Tfn.pSetV i1 i2 (b3, m3) (Rws.plain rs0))) := Knr.rOwn_below O147.out hb19
    have O156 : Hid (Knr.RMarked w19 (w6.heap.size) (w7.heap.size) u45 1 nx99) := Knr.rMarked_below O148.out hb19
    have O157 : Hid (Knr.ROwn w19 (w16.heap.size) (w17.heap.size) u136 (Tfn.pSetV i1 i2 (b3, m3) (Rws.plain rs0))) := Knr.rOwn_below O149.out hb19
    have K158 : Hid (w19.cell? ⟨w.heap.size, 0, none⟩ = some (.bool b3) ∧ w19.cell? ⟨w.heap.size, 1, none⟩ = some (.int .i64 m3)) := ⟨(hb19.cell (p := ⟨w.heap.size, 0, none⟩) (Frame.cell_lt K150.out.1)).trans K150.out.1, (hb19.cell (p := ⟨w.heap.size, 1, none⟩) (Frame.cell_lt K150.out.2)).trans K150.out.2⟩
    have B159 : Hid (Below w.heap.size w w19) := Frame.next B151.out hb19 B151.out.size
    clear hb19
    go_wp2
    go_ret
    exact ⟨rfl, B159.out⟩

set_option maxRecDepth 100000 in
theorem contract (H : Type) (enc : TypeId × Value → H) (W : World) (base : Nat) (args : Array Value) (ds gs : List (DataW H)) (before : List MemPlace)
    (hval0 : ∀ (j : Nat) t v, Try.f4.params[j]? = some t → args[j]? = some v → Value.okWide Try.prog W .any base t v)
    (hW : DataW.Whole enc Try.prog Try.f4.params.toList Rows.fnExactSetColumnSpec.vars false W args.toList ds gs before) :
    Calls Try.prog 4 args W fun e W' => ∃ v, e = .returned v ∧ Rows.fnExactSetColumnSpec.post enc Try.prog Try.f4 false true false false W args v W' := by
  refine Frame.law_calls (tb := 4) laidOut (by kernel_rfl) (by kernel_rfl) (by kernel_rfl) Try.underlying4 hW (fun ds gs h1 h2 => ?_) ?_
  · rw [Try.params4] at h1
    match ds, gs, h1, h2 with
    | [_, _, _, _], [], _, _ => rfl
  · obtain ⟨p, q, hA0, _, _, _, _⟩ := hW
    have hval : ∀ (j : Nat) t v, Try.f4.params[j]? = some t → args[j]? = some v → Value.okWide Try.prog W .any base t v := hval0
    have hA : DataW.TrodAll enc Try.prog W 0 (fun _ => true) true Try.f4.params.toList args.toList ds p := hA0
    rw [Try.params4] at hA hval
    obtain ⟨v0, vs0, d0, ds0, p0, q0, hargs, rfl, rfl, h0, r0⟩ := trodAll_cons hA
    obtain ⟨v1, vs1, d1, ds1, p1, q1, rfl, rfl, rfl, h1, r1⟩ := trodAll_cons r0
    obtain ⟨v2, vs2, d2, ds2, p2, q2, rfl, rfl, rfl, h2, r2⟩ := trodAll_cons r1
    obtain ⟨v3, vs3, d3, ds3, p3, q3, rfl, rfl, rfl, h3, r3⟩ := trodAll_cons r2
    obtain ⟨rfl, rfl, rfl⟩ := trodAll_nil r3
    obtain rfl : args = #[v0, v1, v2, v3] := by cases args; simp_all
    obtain ⟨a0, len0, cap0, rfl⟩ := okWide_slice Try.underlying22 (hval 0 22 v0 rfl rfl)
    obtain ⟨z0, w0⟩ := Opn.isRows_of h0
    obtain ⟨a1, rfl, rfl, rfl, w1⟩ := open_int Try.underlying3 (hval 1 3 v1 rfl rfl) h1
    obtain ⟨a2, rfl, rfl, rfl, w2⟩ := open_int Try.underlying3 (hval 2 3 v2 rfl rfl) h2
    obtain ⟨b3, n3, rfl, w3⟩ := Frame.value_of Try.underlying32 (by kernel_rfl) (by kernel_rfl) Try.underlying4 Try.underlying3 (hval 3 32 v3 rfl rfl) h3
    exact walk a0 len0 cap0 z0 a1 a2 b3 n3 W w0 w1 w2 w3

set_option maxRecDepth 100000 in
theorem lifted (os : Os) (started : os.Started) (H : Type) (enc : TypeId × Value → H) :
    ReturnsInHanded {} Try.checked os 4 .any (Rows.fnExactSetColumnSpec.pre6 enc Try.prog Try.f4 Rows.fnExactSetColumnRow.domain false) (Rows.fnExactSetColumnSpec.post enc Try.prog Try.f4 false true false false) := by
  refine returnsInHanded_of_change (C := Try.checked) own started (by kernel_rfl) Try.func4
    (ChangeSpec.witness6 (enc := enc) (C := Try.checked) false ⟨#[], #[.slice none 0 0, .int .i64 0, .int .i64 0, .agg #[.bool false, .int .i64 0]], []⟩ 8 (by kernel_rfl) (by kernel_rfl) (by kernel_rfl) (by kernel_rfl)) ?_
  intro W base args ds gs before hval hW _ _
  exact contract H enc W base args ds gs before hval hW

/-- The statement. -/
theorem proved : Rows.FnExactSetColumnSaid :=
  OpenClaim.holds_of_wide 4 Try.f4 rfl rfl rfl rfl rfl rfl rfl ⟨rfl, rfl, rfl, rfl, rfl⟩ rfl rfl rfl rfl rfl (by kernel_rfl) Try.func4 (by kernel_rfl)
    (of_decide_eq_true (by kernel_rfl)) (by unfold Func.isWrapper; first | (rw [if_pos (by decide +kernel)]; kernel_rfl) | (rw [if_neg (by decide +kernel)]; exact ⟨rfl, rfl⟩))
    (fun os started H enc _ => lifted os started H enc)
#print axioms proved

end Go.Proofs.Ytciaegdgoabipab.fnExactSetColumn
