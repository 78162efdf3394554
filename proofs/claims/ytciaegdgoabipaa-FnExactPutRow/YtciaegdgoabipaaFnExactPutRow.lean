/-
  Proved: at every argument the law FnExactPutRow returns true, and its arguments read afterwards as they did.
-/
import Derived.Test.YtciaegdgoabipaaFrame
import Derived.Test.YtciaegdgoabipaaTfn
import Derived.Test.YtciaegdgoabipaaOpn
import Derived.Test.YtciaegdgoabipaaKnr
import Derived.Test.YtciaegdgoabipaaKep
namespace Go.Proofs.Ytciaegdgoabipaa.fnExactPutRow
open Go.ChangeShapes Go.WideShapes Go.ChangeAt Go.RowKit

theorem own : ownKnob Try.prog.godebug = none := by kernel_rfl
theorem laidOut : laidOutB Try.prog = true := by kernel_rfl

open Go.Proofs.Ytciaegdgoabipaa.Kep

set_option maxRecDepth 100000 in
set_option maxHeartbeats 4000000 in
theorem walk (a0 : Option Addr) (n0 c0 : Nat) (rs0 : List Rws.RowV) (k1 : Int) (a1 : Option Addr) (n1 c1 : Nat) (vs1 : List (Bool × Int)) (w : World) (h0 : Rws.IsRows w a0 n0 c0 rs0) (hk1 : (Lit.int .i64 k1).wf = true) (h1 : Vals.IsVals w a1 n1 c1 vs1) :
    Calls Try.prog 7 #[.slice a0 n0 c0, .agg #[.int .i64 k1, .slice a1 n1 c1]] w fun e w' => e = .returned (.bool true) ∧ Below w.heap.size w w' := by
  have HR0 : Hid (Rws.IsRows w a0 n0 c0 rs0) := h0
  clear h0
  have HWF1 : Hid ((Lit.int .i64 k1).wf = true) := hk1
  have HV1 : Hid (Vals.IsVals w a1 n1 c1 vs1) := h1
  clear hk1 h1
  have B0 : Hid (Below w.heap.size w w) := Below.refl _ _
  have B1 : Hid (Below w.heap.size w (w.alloc (.cells #[.int .i64 k1, .slice a1 n1 c1] 63))) := (Below.refl _ _).alloc (Nat.le_refl _) _
  have K0 : Hid ((w.alloc (.cells #[.int .i64 k1, .slice a1 n1 c1] 63)).cell? ⟨w.heap.size, 0, none⟩ = some (.int .i64 k1) ∧ (w.alloc (.cells #[.int .i64 k1, .slice a1 n1 c1] 63)).cell? ⟨w.heap.size, 1, none⟩ = some (.slice a1 n1 c1)) := by
    show _ ∧ _
    refine ⟨?_, ?_⟩ <;> rw [World.cell?_alloc_at _ _ _ _ rfl] <;> rfl
  have E0 : Hid ((w.alloc (.cells #[.int .i64 k1, .slice a1 n1 c1] 63)).heap.size = w.heap.size + 1) := by show _ = _; simp
  go_enter Try.func7, Try.ntmps7
  have cc1 : (w.alloc (.cells #[.int .i64 k1, .slice a1 n1 c1] 63)).cell? ⟨w.heap.size, 0, none⟩ = some (.int .i64 k1) := K0.out.1
  have cc2 : (w.alloc (.cells #[.int .i64 k1, .slice a1 n1 c1] 63)).cell? ⟨w.heap.size, 1, none⟩ = some (.slice a1 n1 c1) := K0.out.2
  go_wp2_with fail
  refine (Rws.szRowS a0 n0 c0 rs0 1048576 _ (HR0.out.below B1.out) (by omega) (by omega)).mono ?_
  rintro e w1 ⟨rfl, hb1⟩
  clear cc1 cc2
  have Z3 : Hid (w.heap.size + 1 ≤ w1.heap.size) := (by have hh := hb1.size; rw [E0.out] at hh; exact hh)
  have K4 : Hid (w1.cell? ⟨w.heap.size, 0, none⟩ = some (.int .i64 k1) ∧ w1.cell? ⟨w.heap.size, 1, none⟩ = some (.slice a1 n1 c1)) := ⟨(hb1.cell (p := ⟨w.heap.size, 0, none⟩) (Frame.cell_lt K0.out.1)).trans K0.out.1, (hb1.cell (p := ⟨w.heap.size, 1, none⟩) (Frame.cell_lt K0.out.2)).trans K0.out.2⟩
  have B5 : Hid (Below w.heap.size w w1) := Frame.next B1.out hb1 B1.out.size
  clear hb1
  by_cases hL1 : Rws.left 1048576 (Rws.total rs0) < 0
  · go_wp2
    go_ret
    exact ⟨rfl, B5.out⟩
  · have ht0 : Rws.total rs0 ≤ 1048576 := by unfold Rws.left at hL1; split at hL1 <;> omega
    have A0 : Hid (Knr.RIs w (.slice a0 n0 c0) (Rws.plain rs0)) := ⟨_, _, _, _, rfl, HR0.out, rfl, ht0⟩
    have hB1 : Rws.left 1048576 (Rws.total rs0) ≤ 1048576 := by have hq := Rws.sumN_nonneg rs0; unfold Rws.left; unfold Rws.total at *; split <;> omega
    clear ht0
    generalize hG1 : Rws.left 1048576 (Rws.total rs0) = L6 at hL1 hB1 ⊢
    clear hG1
    have cc7 : w1.cell? ⟨w.heap.size, 0, none⟩ = some (.int .i64 k1) := K4.out.1
    have cc8 : w1.cell? ⟨w.heap.size, 1, none⟩ = some (.slice a1 n1 c1) := K4.out.2
    go_wp2_with fail
    refine (Rws.szRow k1 a1 n1 c1 L6 _ (Nat.le_trans HV1.out.fits HV1.out.max) (by omega) (by omega)).mono ?_
    rintro e w2 ⟨rfl, hb2⟩
    clear cc7 cc8
    have Z9 : Hid (w1.heap.size ≤ w2.heap.size) := hb2.size
    have K10 : Hid (w2.cell? ⟨w.heap.size, 0, none⟩ = some (.int .i64 k1) ∧ w2.cell? ⟨w.heap.size, 1, none⟩ = some (.slice a1 n1 c1)) := ⟨(hb2.cell (p := ⟨w.heap.size, 0, none⟩) (Frame.cell_lt K4.out.1)).trans K4.out.1, (hb2.cell (p := ⟨w.heap.size, 1, none⟩) (Frame.cell_lt K4.out.2)).trans K4.out.2⟩
    have B11 : Hid (Below w.heap.size w w2) := Frame.next B5.out hb2 B5.out.size
    clear hb2
    by_cases hL2 : Rws.left L6 n1 < 0
    · go_wp2
      go_ret
      exact ⟨rfl, B11.out⟩
    · have ht1 : n1 ≤ 1048576 := by unfold Rws.left at hL2; split at hL2 <;> omega
      have A1 : Hid (Knr.WIs w a1 n1 c1 (k1, vs1)) := ⟨HV1.out, ht1⟩
      have hB2 : Rws.left L6 n1 ≤ 1048576 := by unfold Rws.left; split <;> omega
      clear ht1
      generalize hG2 : Rws.left L6 n1 = L12 at hL2 hB2 ⊢
      clear hG2
      go_wp2_with fail
      have K13 : Hid ((w2.drew).cell? ⟨w.heap.size, 0, none⟩ = some (.int .i64 k1) ∧ (w2.drew).cell? ⟨w.heap.size, 1, none⟩ = some (.slice a1 n1 c1)) := ⟨(((Below.refl _ _).drew : Below w2.heap.size w2 w2.drew).cell (p := ⟨w.heap.size, 0, none⟩) (Frame.cell_lt K10.out.1)).trans K10.out.1, (((Below.refl _ _).drew : Below w2.heap.size w2 w2.drew).cell (p := ⟨w.heap.size, 1, none⟩) (Frame.cell_lt K10.out.2)).trans K10.out.2⟩
      have B14 : Hid (Below w.heap.size w w2.drew) := Frame.next B11.out ((Below.refl _ _).drew : Below w2.heap.size w2 w2.drew) B11.out.size
      have E15 : Hid (w2.drew.heap.size = w2.heap.size) := rfl
      have S16 : Hid ((w2.drew).cell? ⟨w.heap.size, 0, none⟩ = some (.int .i64 k1) ∧ (w2.drew).cell? ⟨w.heap.size, 1, none⟩ = some (.slice a1 n1 c1)) := ⟨K13.out.1, K13.out.2⟩
      go_region_held3 (fun w' => (w').cell? ⟨w.heap.size, 0, none⟩ = some (.int .i64 k1) ∧ (w').cell? ⟨w.heap.size, 1, none⟩ = some (.slice a1 n1 c1)) (first | exact S16.out | exact S22.out | exact S32.out | exact S39.out) (first | (go_at_call 33; refine (Knr.r_to (.slice a0 n0 c0) (Rws.plain rs0) _ (Knr.rIs_below A0.out B14.out)).mono ?_; rintro e w3 ⟨u17, rfl, ho, hb3⟩; have O18 : Hid (Knr.ROwn w3 (w2.heap.size) (w3.heap.size) u17 (Rws.plain rs0)) := (by have hh := ho; rw [E15.out] at hh; exact hh); have Z19 : Hid (w2.heap.size ≤ w3.heap.size) := (by have hh := hb3.size; rw [E15.out] at hh; exact hh); have K20 : Hid (w3.cell? ⟨w.heap.size, 0, none⟩ = some (.int .i64 k1) ∧ w3.cell? ⟨w.heap.size, 1, none⟩ = some (.slice a1 n1 c1)) := ⟨(hb3.cell (p := ⟨w.heap.size, 0, none⟩) (Frame.cell_lt K13.out.1)).trans K13.out.1, (hb3.cell (p := ⟨w.heap.size, 1, none⟩) (Frame.cell_lt K13.out.2)).trans K13.out.2⟩; have B21 : Hid (Below w.heap.size w w3) := Frame.next B14.out hb3 B14.out.size; clear ho hb3; have S22 : Hid (w3.cell? ⟨w.heap.size, 0, none⟩ = some (.int .i64 k1) ∧ w3.cell? ⟨w.heap.size, 1, none⟩ = some (.slice a1 n1 c1)) := ⟨K20.out.1, K20.out.2⟩) | (go_at_call 40; refine (Knr.w_to k1 a1 n1 c1 vs1 _ (Knr.wIs_below A1.out B21.out)).mono ?_; rintro e w4 ⟨a24, n25, c26, rfl, ho, hb4⟩; have O27 : Hid (Knr.WOwn w4 (w3.heap.size) (w4.heap.size) a24 n25 c26 (k1, vs1)) := ho; have Z28 : Hid (w3.heap.size ≤ w4.heap.size) := hb4.size; have O29 : Hid (Knr.ROwn w4 (w2.heap.size) (w3.heap.size) u17 (Rws.plain rs0)) := Knr.rOwn_below O18.out hb4; have K30 : Hid (w4.cell? ⟨w.heap.size, 0, none⟩ = some (.int .i64 k1) ∧ w4.cell? ⟨w.heap.size, 1, none⟩ = some (.slice a1 n1 c1)) := ⟨(hb4.cell (p := ⟨w.heap.size, 0, none⟩) (Frame.cell_lt K20.out.1)).trans K20.out.1, (hb4.cell (p := ⟨w.heap.size, 1, none⟩) (Frame.cell_lt K20.out.2)).trans K20.out.2⟩; have B31 : Hid (Below w.heap.size w w4) := Frame.next B21.out hb4 B21.out.size; clear ho hb4; have S32 : Hid (w4.cell? ⟨w.heap.size, 0, none⟩ = some (.int .i64 k1) ∧ w4.cell? ⟨w.heap.size, 1, none⟩ = some (.slice a1 n1 c1)) := ⟨K30.out.1, K30.out.2⟩) | (go_at_call 11; refine (Tfn.spec_PutRow u17 (Rws.plain rs0) (k1, vs1) a24 n25 c26 _ (Knr.rOwn_is O29.out) HWF1.out (Knr.wOwn_is O27.out)).mono ?_; rintro e w5 ⟨u34, rfl, ho0, hb5⟩; have O35 : Hid (Knr.ROwn w5 (w4.heap.size) (w5.heap.size) u34 (Tfn.pPutV (k1, vs1) (Rws.plain rs0))) := ho0; have Z36 : Hid (w4.heap.size ≤ w5.heap.size) := hb5.size; have K37 : Hid (w5.cell? ⟨w.heap.size, 0, none⟩ = some (.int .i64 k1) ∧ w5.cell? ⟨w.heap.size, 1, none⟩ = some (.slice a1 n1 c1)) := ⟨(hb5.cell (p := ⟨w.heap.size, 0, none⟩) (Frame.cell_lt K30.out.1)).trans K30.out.1, (hb5.cell (p := ⟨w.heap.size, 1, none⟩) (Frame.cell_lt K30.out.2)).trans K30.out.2⟩; have B38 : Hid (Below w.heap.size w w5) := Frame.next B31.out hb5 B31.out.size; clear ho0 hb5; have S39 : Hid (w5.cell? ⟨w.heap.size, 0, none⟩ = some (.int .i64 k1) ∧ w5.cell? ⟨w.heap.size, 1, none⟩ = some (.slice a1 n1 c1)) := ⟨K37.out.1, K37.out.2⟩))
      have cc41 : w5.cell? ⟨w.heap.size, 0, none⟩ = some (.int .i64 k1) := K37.out.1
      have cc42 : w5.cell? ⟨w.heap.size, 1, none⟩ = some (.slice a1 n1 c1) := K37.out.2
      go_wp2_with fail
      refine (Knr.r_to (.slice a0 n0 c0) (Rws.plain rs0) _ (Knr.rIs_below A0.out B38.out)).mono ?_
      rintro e w6 ⟨u40, rfl, ho, hb6⟩
      clear cc41 cc42
      have O43 : Hid (Knr.ROwn w6 (w5.heap.size) (w6.heap.size) u40 (Rws.plain rs0)) := ho
      have Z44 : Hid (w5.heap.size ≤ w6.heap.size) := hb6.size
      have O45 : Hid (Knr.ROwn w6 (w4.heap.size) (w5.heap.size) u34 (Tfn.pPutV (k1, vs1) (Rws.plain rs0))) := Knr.rOwn_below O35.out hb6
      have K46 : Hid (w6.cell? ⟨w.heap.size, 0, none⟩ = some (.int .i64 k1) ∧ w6.cell? ⟨w.heap.size, 1, none⟩ = some (.slice a1 n1 c1)) := ⟨(hb6.cell (p := ⟨w.heap.size, 0, none⟩) (Frame.cell_lt K37.out.1)).trans K37.out.1, (hb6.cell (p := ⟨w.heap.size, 1, none⟩) (Frame.cell_lt K37.out.2)).trans K37.out.2⟩
      have B47 : Hid (Below w.heap.size w w6) := Frame.next B38.out hb6 B38.out.size
      clear ho hb6
      have cc52 : w6.cell? ⟨w.heap.size, 0, none⟩ = some (.int .i64 k1) := K46.out.1
      have cc53 : w6.cell? ⟨w.heap.size, 1, none⟩ = some (.slice a1 n1 c1) := K46.out.2
      go_wp2_with fail
      refine (Knr.w_to k1 a1 n1 c1 vs1 _ (Knr.wIs_below A1.out B47.out)).mono ?_
      rintro e w7 ⟨a49, n50, c51, rfl, ho, hb7⟩
      clear cc52 cc53
      have O54 : Hid (Knr.WOwn w7 (w6.heap.size) (w7.heap.size) a49 n50 c51 (k1, vs1)) := ho
      have Z55 : Hid (w6.heap.size ≤ w7.heap.size) := hb7.size
      have O56 : Hid (Knr.ROwn w7 (w4.heap.size) (w5.heap.size) u34 (Tfn.pPutV (k1, vs1) (Rws.plain rs0))) := Knr.rOwn_below O45.out hb7
      have O57 : Hid (Knr.ROwn w7 (w5.heap.size) (w6.heap.size) u40 (Rws.plain rs0)) := Knr.rOwn_below O43.out hb7
      have K58 : Hid (w7.cell? ⟨w.heap.size, 0, none⟩ = some (.int .i64 k1) ∧ w7.cell? ⟨w.heap.size, 1, none⟩ = some (.slice a1 n1 c1)) := ⟨(hb7.cell (p := ⟨w.heap.size, 0, none⟩) (Frame.cell_lt K46.out.1)).trans K46.out.1, (hb7.cell (p := ⟨w.heap.size, 1, none⟩) (Frame.cell_lt K46.out.2)).trans K46.out.2⟩
      have B59 : Hid (Below w.heap.size w w7) := Frame.next B47.out hb7 B47.out.size
      clear ho hb7
      have O61 : Hid (Knr.ROwn (w7.alloc (.cells #[.int .i64 k1, .slice a49 n50 c51] 26)) (w4.heap.size) (w5.heap.size) u34 (Tfn.pPutV (k1, vs1) (Rws.plain rs0))) := Knr.rOwn_below O56.out ((Below.refl w7.heap.size w7).alloc (Nat.le_refl _) (.cells #[.int .i64 k1, .slice a49 n50 c51] 26))
      have O62 : Hid (Knr.ROwn (w7.alloc (.cells #[.int .i64 k1, .slice a49 n50 c51] 26)) (w5.heap.size) (w6.heap.size) u40 (Rws.plain rs0)) := Knr.rOwn_below O57.out ((Below.refl w7.heap.size w7).alloc (Nat.le_refl _) (.cells #[.int .i64 k1, .slice a49 n50 c51] 26))
      have O63 : Hid (Knr.WOwn (w7.alloc (.cells #[.int .i64 k1, .slice a49 n50 c51] 26)) (w6.heap.size) (w7.heap.size) a49 n50 c51 (k1, vs1)) := Knr.wOwn_below O54.out ((Below.refl w7.heap.size w7).alloc (Nat.le_refl _) (.cells #[.int .i64 k1, .slice a49 n50 c51] 26))
      have K64 : Hid ((w7.alloc (.cells #[.int .i64 k1, .slice a49 n50 c51] 26)).cell? ⟨w.heap.size, 0, none⟩ = some (.int .i64 k1) ∧ (w7.alloc (.cells #[.int .i64 k1, .slice a49 n50 c51] 26)).cell? ⟨w.heap.size, 1, none⟩ = some (.slice a1 n1 c1)) := ⟨(((Below.refl w7.heap.size w7).alloc (Nat.le_refl _) (.cells #[.int .i64 k1, .slice a49 n50 c51] 26)).cell (p := ⟨w.heap.size, 0, none⟩) (Frame.cell_lt K58.out.1)).trans K58.out.1, (((Below.refl w7.heap.size w7).alloc (Nat.le_refl _) (.cells #[.int .i64 k1, .slice a49 n50 c51] 26)).cell (p := ⟨w.heap.size, 1, none⟩) (Frame.cell_lt K58.out.2)).trans K58.out.2⟩
      have B65 : Hid (Below w.heap.size w (w7.alloc (.cells #[.int .i64 k1, .slice a49 n50 c51] 26))) := Frame.next B59.out ((Below.refl w7.heap.size w7).alloc (Nat.le_refl _) (.cells #[.int .i64 k1, .slice a49 n50 c51] 26)) B59.out.size
      have K66 : Hid ((w7.alloc (.cells #[.int .i64 k1, .slice a49 n50 c51] 26)).cell? ⟨w7.heap.size, 0, none⟩ = some (.int .i64 k1) ∧ (w7.alloc (.cells #[.int .i64 k1, .slice a49 n50 c51] 26)).cell? ⟨w7.heap.size, 1, none⟩ = some (.slice a49 n50 c51)) := by
        show _ ∧ _
        refine ⟨?_, ?_⟩ <;> rw [World.cell?_alloc_at _ _ _ _ rfl] <;> rfl
      have E67 : Hid ((w7.alloc (.cells #[.int .i64 k1, .slice a49 n50 c51] 26)).heap.size = w7.heap.size + 1) := by show _ = _; simp
      have cc69 : (w7.alloc (.cells #[.int .i64 k1, .slice a49 n50 c51] 26)).cell? ⟨w.heap.size, 0, none⟩ = some (.int .i64 k1) := K64.out.1
      have cc70 : (w7.alloc (.cells #[.int .i64 k1, .slice a49 n50 c51] 26)).cell? ⟨w.heap.size, 1, none⟩ = some (.slice a1 n1 c1) := K64.out.2
      have cc71 : (w7.alloc (.cells #[.int .i64 k1, .slice a49 n50 c51] 26)).cell? ⟨w7.heap.size, 0, none⟩ = some (.int .i64 k1) := K66.out.1
      have cc72 : (w7.alloc (.cells #[.int .i64 k1, .slice a49 n50 c51] 26)).cell? ⟨w7.heap.size, 1, none⟩ = some (.slice a49 n50 c51) := K66.out.2
      go_wp2_with fail
      refine (Tfn.impl_PutRow u40 (Rws.plain rs0) (k1, vs1) a49 n50 c51 _ (Knr.rOwn_is O62.out) HWF1.out (Knr.wOwn_is O63.out)).mono ?_
      rintro e w8 ⟨u68, rfl, ho0, hb8⟩
      clear cc69 cc70 cc71 cc72
      have O73 : Hid (Knr.ROwn w8 (w7.heap.size + 1) (w8.heap.size) u68 (Tfn.pPutV (k1, vs1) (Rws.plain rs0))) := (by have hh := ho0; rw [E67.out] at hh; exact hh)
      have Z74 : Hid (w7.heap.size + 1 ≤ w8.heap.size) := (by have hh := hb8.size; rw [E67.out] at hh; exact hh)
      have O75 : Hid (Knr.ROwn w8 (w4.heap.size) (w5.heap.size) u34 (Tfn.pPutV (k1, vs1) (Rws.plain rs0))) := Knr.rOwn_below O61.out hb8
      have O76 : Hid (Knr.ROwn w8 (w5.heap.size) (w6.heap.size) u40 (Rws.plain rs0)) := Knr.rOwn_below O62.out hb8
      have O77 : Hid (Knr.WOwn w8 (w6.heap.size) (w7.heap.size) a49 n50 c51 (k1, vs1)) := Knr.wOwn_below O63.out hb8
      have K78 : Hid (w8.cell? ⟨w.heap.size, 0, none⟩ = some (.int .i64 k1) ∧ w8.cell? ⟨w.heap.size, 1, none⟩ = some (.slice a1 n1 c1)) := ⟨(hb8.cell (p := ⟨w.heap.size, 0, none⟩) (Frame.cell_lt K64.out.1)).trans K64.out.1, (hb8.cell (p := ⟨w.heap.size, 1, none⟩) (Frame.cell_lt K64.out.2)).trans K64.out.2⟩
      have K79 : Hid (w8.cell? ⟨w7.heap.size, 0, none⟩ = some (.int .i64 k1) ∧ w8.cell? ⟨w7.heap.size, 1, none⟩ = some (.slice a49 n50 c51)) := ⟨(hb8.cell (p := ⟨w7.heap.size, 0, none⟩) (Frame.cell_lt K66.out.1)).trans K66.out.1, (hb8.cell (p := ⟨w7.heap.size, 1, none⟩) (Frame.cell_lt K66.out.2)).trans K66.out.2⟩
      have B80 : Hid (Below w.heap.size w w8) := Frame.next B65.out hb8 B65.out.size
      clear ho0 hb8
      have cc81 : w8.cell? ⟨w.heap.size, 0, none⟩ = some (.int .i64 k1) := K78.out.1
      have cc82 : w8.cell? ⟨w.heap.size, 1, none⟩ = some (.slice a1 n1 c1) := K78.out.2
      have cc83 : w8.cell? ⟨w7.heap.size, 0, none⟩ = some (.int .i64 k1) := K79.out.1
      have cc84 : w8.cell? ⟨w7.heap.size, 1, none⟩ = some (.slice a49 n50 c51) := K79.out.2
      go_wp2_with fail
      refine (Knr.r_eq u68 u34 (Tfn.pPutV (k1, vs1) (Rws.plain rs0)) (Tfn.pPutV (k1, vs1) (Rws.plain rs0)) _ (Knr.rOwn_is O73.out) (Knr.rOwn_is O75.out)).mono ?_
      rintro e w9 ⟨rfl, hb9⟩
      clear cc81 cc82 cc83 cc84
      rw [decide_eq_true (Eq.refl ((Tfn.pPutV (k1, vs1) (Rws.plain rs0))))]
      have Z85 : Hid (w8.heap.size ≤ w9.heap.size) := hb9.size
      have O86 : Hid (Knr.ROwn w9 (w4.heap.size) (w5.heap.size) u34 (Tfn.pPutV (k1, vs1) (Rws.plain rs0))) := Knr.rOwn_below O75.out hb9
      have O87 : Hid (Knr.ROwn w9 (w5.heap.size) (w6.heap.size) u40 (Rws.plain rs0)) := Knr.rOwn_below O76.out hb9
      have O88 : Hid (Knr.WOwn w9 (w6.heap.size) (w7.heap.size) a49 n50 c51 (k1, vs1)) := Knr.wOwn_below O77.out hb9
      have O89 : Hid (Knr.ROwn w9 (w7.heap.size + 1) (w8.heap.size) u68 (Tfn.pPutV (k1, vs1) (Rws.plain rs0))) := Knr.rOwn_below O73.out hb9
      have K90 : Hid (w9.cell? ⟨w.heap.size, 0, none⟩ = some (.int .i64 k1) ∧ w9.cell? ⟨w.heap.size, 1, none⟩ = some (.slice a1 n1 c1)) := ⟨(hb9.cell (p := ⟨w.heap.size, 0, none⟩) (Frame.cell_lt K78.out.1)).trans K78.out.1, (hb9.cell (p := ⟨w.heap.size, 1, none⟩) (Frame.cell_lt K78.out.2)).trans K78.out.2⟩
      have K91 : Hid (w9.cell? ⟨w7.heap.size, 0, none⟩ = some (.int .i64 k1) ∧ w9.cell? ⟨w7.heap.size, 1, none⟩ = some (.slice a49 n50 c51)) := ⟨(hb9.cell (p := ⟨w7.heap.size, 0, none⟩) (Frame.cell_lt K79.out.1)).trans K79.out.1, (hb9.cell (p := ⟨w7.heap.size, 1, none⟩) (Frame.cell_lt K79.out.2)).trans K79.out.2⟩
      have B92 : Hid (Below w.heap.size w w9) := Frame.next B80.out hb9 B80.out.size
      clear hb9
      have cc94 : w9.cell? ⟨w.heap.size, 0, none⟩ = some (.int .i64 k1) := K90.out.1
      have cc95 : w9.cell? ⟨w.heap.size, 1, none⟩ = some (.slice a1 n1 c1) := K90.out.2
      have cc96 : w9.cell? ⟨w7.heap.size, 0, none⟩ = some (.int .i64 k1) := K91.out.1
      have cc97 : w9.cell? ⟨w7.heap.size, 1, none⟩ = some (.slice a49 n50 c51) := K91.out.2
      go_wp2_with fail
      refine (Knr.r_to (.slice a0 n0 c0) (Rws.plain rs0) _ (Knr.rIs_below A0.out B92.out)).mono ?_
      rintro e w10 ⟨u93, rfl, ho, hb10⟩
      clear cc94 cc95 cc96 cc97
      have O98 : Hid (Knr.ROwn w10 (w9.heap.size) (w10.heap.size) u93 (Rws.plain rs0)) := ho
      have Z99 : Hid (w9.heap.size ≤ w10.heap.size) := hb10.size
      have O100 : Hid (Knr.ROwn w10 (w4.heap.size) (w5.heap.size) u34 (Tfn.pPutV (k1, vs1) (Rws.plain rs0))) := Knr.rOwn_below O86.out hb10
      have O101 : Hid (Knr.ROwn w10 (w5.heap.size) (w6.heap.size) u40 (Rws.plain rs0)) := Knr.rOwn_below O87.out hb10
      have O102 : Hid (Knr.WOwn w10 (w6.heap.size) (w7.heap.size) a49 n50 c51 (k1, vs1)) := Knr.wOwn_below O88.out hb10
      have O103 : Hid (Knr.ROwn w10 (w7.heap.size + 1) (w8.heap.size) u68 (Tfn.pPutV (k1, vs1) (Rws.plain rs0))) := Knr.rOwn_below O89.out hb10
      have K104 : Hid (w10.cell? ⟨w.heap.size, 0, none⟩ = some (.int .i64 k1) ∧ w10.cell? ⟨w.heap.size, 1, none⟩ = some (.slice a1 n1 c1)) := ⟨(hb10.cell (p := ⟨w.heap.size, 0, none⟩) (Frame.cell_lt K90.out.1)).trans K90.out.1, (hb10.cell (p := ⟨w.heap.size, 1, none⟩) (Frame.cell_lt K90.out.2)).trans K90.out.2⟩
      have K105 : Hid (w10.cell? ⟨w7.heap.size, 0, none⟩ = some (.int .i64 k1) ∧ w10.cell? ⟨w7.heap.size, 1, none⟩ = some (.slice a49 n50 c51)) := ⟨(hb10.cell (p := ⟨w7.heap.size, 0, none⟩) (Frame.cell_lt K91.out.1)).trans K91.out.1, (hb10.cell (p := ⟨w7.heap.size, 1, none⟩) (Frame.cell_lt K91.out.2)).trans K91.out.2⟩
      have B106 : Hid (Below w.heap.size w w10) := Frame.next B92.out hb10 B92.out.size
      clear ho hb10
      have cc108 : w10.cell? ⟨w.heap.size, 0, none⟩ = some (.int .i64 k1) := K104.out.1
      have cc109 : w10.cell? ⟨w.heap.size, 1, none⟩ = some (.slice a1 n1 c1) := K104.out.2
      have cc110 : w10.cell? ⟨w7.heap.size, 0, none⟩ = some (.int .i64 k1) := K105.out.1
      have cc111 : w10.cell? ⟨w7.heap.size, 1, none⟩ = some (.slice a49 n50 c51) := K105.out.2
      go_wp2_with fail
      refine (Knr.r_eq u40 u93 (Rws.plain rs0) (Rws.plain rs0) _ (Knr.rOwn_is O101.out) (Knr.rOwn_is O98.out)).mono ?_
      rintro e w11 ⟨rfl, hb11⟩
      clear cc108 cc109 cc110 cc111
      rw [decide_eq_true (Eq.refl ((Rws.plain rs0)))]
      have Z112 : Hid (w10.heap.size ≤ w11.heap.size) := hb11.size
      have O113 : Hid (Knr.ROwn w11 (w4.heap.size) (w5.heap.size) u34 (Tfn.pPutV (k1, vs1) (Rws.plain rs0))) := Knr.rOwn_below O100.out hb11
      have O114 : Hid (Knr.ROwn w11 (w5.heap.size) (w6.heap.size) u40 (Rws.plain rs0)) := Knr.rOwn_below O101.out hb11
      have O115 : Hid (Knr.WOwn w11 (w6.heap.size) (w7.heap.size) a49 n50 c51 (k1, vs1)) := Knr.wOwn_below O102.out hb11
      have O116 : Hid (Knr.ROwn w11 (w7.heap.size + 1) (w8.heap.size) u68 (Tfn.pPutV (k1, vs1) (Rws.plain rs0))) := Knr.rOwn_below O103.out hb11
      have O117 : Hid (Knr.ROwn w11 (w9.heap.size) (w10.heap.size) u93 (Rws.plain rs0)) := Knr.rOwn_below O98.out hb11
      have K118 : Hid (w11.cell? ⟨w.heap.size, 0, none⟩ = some (.int .i64 k1) ∧ w11.cell? ⟨w.heap.size, 1, none⟩ = some (.slice a1 n1 c1)) := ⟨(hb11.cell (p := ⟨w.heap.size, 0, none⟩) (Frame.cell_lt K104.out.1)).trans K104.out.1, (hb11.cell (p := ⟨w.heap.size, 1, none⟩) (Frame.cell_lt K104.out.2)).trans K104.out.2⟩
      have K119 : Hid (w11.cell? ⟨w7.heap.size, 0, none⟩ = some (.int .i64 k1) ∧ w11.cell? ⟨w7.heap.size, 1, none⟩ = some (.slice a49 n50 c51)) := ⟨(hb11.cell (p := ⟨w7.heap.size, 0, none⟩) (Frame.cell_lt K105.out.1)).trans K105.out.1, (hb11.cell (p := ⟨w7.heap.size, 1, none⟩) (Frame.cell_lt K105.out.2)).trans K105.out.2⟩
      have B120 : Hid (Below w.heap.size w w11) := Frame.next B106.out hb11 B106.out.size
      clear hb11
      go_wp2_with fail
      have O121 : Hid (Knr.ROwn w11.drew (w4.heap.size) (w5.heap.size) u34 (Tfn.pPutV (k1, vs1) (Rws.plain rs0))) := Knr.rOwn_below O113.out ((Below.refl _ _).drew : Below w11.heap.size w11 w11.drew)
      have O122 : Hid (Knr.ROwn w11.drew (w5.heap.size) (w6.heap.size) u40 (Rws.plain rs0)) := Knr.rOwn_below O114.out ((Below.refl _ _).drew : Below w11.heap.size w11 w11.drew)
      have O123 : Hid (Knr.WOwn w11.drew (w6.heap.size) (w7.heap.size) a49 n50 c51 (k1, vs1)) := Knr.wOwn_below O115.out ((Below.refl _ _).drew : Below w11.heap.size w11 w11.drew)
      have O124 : Hid (Knr.ROwn w11.drew (w7.heap.size + 1) (w8.heap.size) u68 (Tfn.pPutV (k1, vs1) (Rws.plain rs0))) := Knr.rOwn_below O116.out ((Below.refl _ _).drew : Below w11.heap.size w11 w11.drew)
      have K125 : Hid ((w11.drew).cell? ⟨w.heap.size, 0, none⟩ = some (.int .i64 k1) ∧ (w11.drew).cell? ⟨w.heap.size, 1, none⟩ = some (.slice a1 n1 c1)) := ⟨(((Below.refl _ _).drew : Below w11.heap.size w11 w11.drew).cell (p := ⟨w.heap.size, 0, none⟩) (Frame.cell_lt K118.out.1)).trans K118.out.1, (((Below.refl _ _).drew : Below w11.heap.size w11 w11.drew).cell (p := ⟨w.heap.size, 1, none⟩) (Frame.cell_lt K118.out.2)).trans K118.out.2⟩
      have K126 : Hid ((w11.drew).cell? ⟨w7.heap.size, 0, none⟩ = some (.int .i64 k1) ∧ (w11.drew).cell? ⟨w7.heap.size, 1, none⟩ = some (.slice a49 n50 c51)) := ⟨(((Below.refl _ _).drew : Below w11.heap.size w11 w11.drew).cell (p := ⟨w7.heap.size, 0, none⟩) (Frame.cell_lt K119.out.1)).trans K119.out.1, (((Below.refl _ _).drew : Below w11.heap.size w11 w11.drew).cell (p := ⟨w7.heap.size, 1, none⟩) (Frame.cell_lt K119.out.2)).trans K119.out.2⟩
      have B127 : Hid (Below w.heap.size w w11.drew) := Frame.next B120.out ((Below.refl _ _).drew : Below w11.heap.size w11 w11.drew) B120.out.size
      have E128 : Hid (w11.drew.heap.size = w11.heap.size) := rfl
      have S129 : Hid ((w11.drew).cell? ⟨w.heap.size, 0, none⟩ = some (.int .i64 k1) ∧ (w11.drew).cell? ⟨w.heap.size, 1, none⟩ = some (.slice a1 n1 c1) ∧ (w11.drew).cell? ⟨w7.heap.size, 0, none⟩ = some (.int .i64 k1) ∧ (w11.drew).cell? ⟨w7.heap.size, 1, none⟩ = some (.slice a49 n50 c51)) := ⟨K125.out.1, K125.out.2, K126.out.1, K126.out.2⟩
      go_region_held3 (fun w' => (w').cell? ⟨w.heap.size, 0, none⟩ = some (.int .i64 k1) ∧ (w').cell? ⟨w.heap.size, 1, none⟩ = some (.slice a1 n1 c1) ∧ (w').cell? ⟨w7.heap.size, 0, none⟩ = some (.int .i64 k1) ∧ (w').cell? ⟨w7.heap.size, 1, none⟩ = some (.slice a49 n50 c51)) (first | exact S129.out | exact S142.out | exact S153.out) (first | (go_at_call 40; refine (Knr.w_to k1 a1 n1 c1 vs1 _ (Knr.wIs_below A1.out B127.out)).mono ?_; rintro e w12 ⟨a130, n131, c132, rfl, ho, hb12⟩; have O133 : Hid (Knr.WOwn w12 (w11.heap.size) (w12.heap.size) a130 n131 c132 (k1, vs1)) := (by have hh := ho; rw [E128.out] at hh; exact hh); have Z134 : Hid (w11.heap.size ≤ w12.heap.size) := (by have hh := hb12.size; rw [E128.out] at hh; exact hh); have O135 : Hid (Knr.ROwn w12 (w4.heap.size) (w5.heap.size) u34 (Tfn.pPutV (k1, vs1) (Rws.plain rs0))) := Knr.rOwn_below O121.out hb12; have O136 : Hid (Knr.ROwn w12 (w5.heap.size) (w6.heap.size) u40 (Rws.plain rs0)) := Knr.rOwn_below O122.out hb12; have O137 : Hid (Knr.WOwn w12 (w6.heap.size) (w7.heap.size) a49 n50 c51 (k1, vs1)) := Knr.wOwn_below O123.out hb12; have O138 : Hid (Knr.ROwn w12 (w7.heap.size + 1) (w8.heap.size) u68 (Tfn.pPutV (k1, vs1) (Rws.plain rs0))) := Knr.rOwn_below O124.out hb12; have K139 : Hid (w12.cell? ⟨w.heap.size, 0, none⟩ = some (.int .i64 k1) ∧ w12.cell? ⟨w.heap.size, 1, none⟩ = some (.slice a1 n1 c1)) := ⟨(hb12.cell (p := ⟨w.heap.size, 0, none⟩) (Frame.cell_lt K125.out.1)).trans K125.out.1, (hb12.cell (p := ⟨w.heap.size, 1, none⟩) (Frame.cell_lt K125.out.2)).trans K125.out.2⟩; have K140 : Hid (w12.cell? ⟨w7.heap.size, 0, none⟩ = some (.int .i64 k1) ∧ w12.cell? ⟨w7.heap.size, 1, none⟩ = some (.slice a49 n50 c51)) := ⟨(hb12.cell (p := ⟨w7.heap.size, 0, none⟩) (Frame.cell_lt K126.out.1)).trans K126.out.1, (hb12.cell (p := ⟨w7.heap.size, 1, none⟩) (Frame.cell_lt K126.out.2)).trans K126.out.2⟩; have B141 : Hid (Below w.heap.size w w12) := Frame.next B127.out hb12 B127.out.size; clear ho hb12; have S142 : Hid (w12.cell? ⟨w.heap.size, 0, none⟩ = some (.int .i64 k1) ∧ w12.cell? ⟨w.heap.size, 1, none⟩ = some (.slice a1 n1 c1) ∧ w12.cell? ⟨w7.heap.size, 0, none⟩ = some (.int .i64 k1) ∧ w12.cell? ⟨w7.heap.size, 1, none⟩ = some (.slice a49 n50 c51)) := ⟨K139.out.1, K139.out.2, K140.out.1, K140.out.2⟩) | (go_at_call 35; refine (Knr.w_eq a49 a130 n50 c51 n131 c132 (k1, vs1) (k1, vs1) _ (Knr.wOwn_is O137.out) (Knr.wOwn_is O133.out)).mono ?_; rintro e w13 ⟨rfl, hb13⟩; rw [decide_eq_true (Eq.refl ((k1, vs1)))]; have Z144 : Hid (w12.heap.size ≤ w13.heap.size) := hb13.size; have O145 : Hid (Knr.ROwn w13 (w4.heap.size) (w5.heap.size) u34 (Tfn.pPutV (k1, vs1) (Rws.plain rs0))) := Knr.rOwn_below O135.out hb13; have O146 : Hid (Knr.ROwn w13 (w5.heap.size) (w6.heap.size) u40 (Rws.plain rs0)) := Knr.rOwn_below O136.out hb13; have O147 : Hid (Knr.WOwn w13 (w6.heap.size) (w7.heap.size) a49 n50 c51 (k1, vs1)) := Knr.wOwn_below O137.out hb13; have O148 : Hid (Knr.ROwn w13 (w7.heap.size + 1) (w8.heap.size) u68 (Tfn.pPutV (k1, vs1) (Rws.plain rs0))) := Knr.rOwn_below O138.out hb13; have O149 : Hid (Knr.WOwn w13 (w11.heap.size) (w12.heap.size) a130 n131 c132 (k1, vs1)) := Knr.wOwn_below O133.out hb13; have K150 : Hid (w13.cell? ⟨w.heap.size, 0, none⟩ = some (.int .i64 k1) ∧ w13.cell? ⟨w.heap.size, 1, none⟩ = some (.slice a1 n1 c1)) := ⟨(hb13.cell (p := ⟨w.heap.size, 0, none⟩) (Frame.cell_lt K139.out.1)).trans K139.out.1, (hb13.cell (p := ⟨w.heap.size, 1, none⟩) (Frame.cell_lt K139.out.2)).trans K139.out.2⟩; have K151 : Hid (w13.cell? ⟨w7.heap.size, 0, none⟩ = some (.int .i64 k1) ∧ w13.cell? ⟨w7.heap.size, 1, none⟩ = some (.slice a49 n50 c51)) := ⟨(hb13.cell (p := ⟨w7.heap.size, 0, none⟩) (Frame.cell_lt K140.out.1)).trans K140.out.1, (hb13.cell (p := ⟨w7.heap.size, 1, none⟩) (Frame.cell_lt K140.out.2)).trans K140.out.2⟩; have B152 : Hid (Below w.heap.size w w13) := Frame.next B141.out hb13 B141.out.size; clear hb13; have S153 : Hid (w13.cell? ⟨w.heap.size, 0, none⟩ = some (.int .i64 k1) ∧ w13.cell? ⟨w.heap.size, 1, none⟩ = some (.slice a1 n1 c1) ∧ w13.cell? ⟨w7.heap.size, 0, none⟩ = some (.int .i64 k1) ∧ w13.cell? ⟨w7.heap.size, 1, none⟩ = some (.slice a49 n50 c51)) := ⟨K150.out.1, K150.out.2, K151.out.1, K151.out.2⟩))
      have cc155 : w13.cell? ⟨w.heap.size, 0, none⟩ = some (.int .i64 k1) := K150.out.1
      have cc156 : w13.cell? ⟨w.heap.size, 1, none⟩ = some (.slice a1 n1 c1) := K150.out.2
      have cc157 : w13.cell? ⟨w7.heap.size, 0, none⟩ = some (.int .i64 k1) := K151.out.1
      have cc158 : w13.cell? ⟨w7.heap.size, 1, none⟩ = some (.slice a49 n50 c51) := K151.out.2
      go_wp2_with fail
      refine (Knr.r_mark u40 (Rws.plain rs0) _ _ 1 _ O146.out (by omega) (by omega)).mono ?_
      rintro e w14 ⟨nx154, rfl, hn0nx154, hn1nx154, hm, hb14⟩
      clear cc155 cc156 cc157 cc158
      have hznx154 : ¬ nx154 < 0 := by omega
      have O159 : Hid (Knr.RMarked w14 (w5.heap.size) (w6.heap.size) u40 1 nx154) := hm
      have Z160 : Hid (w13.heap.size ≤ w14.heap.size) := hb14.size
      have O161 : Hid (Knr.ROwn w14 (w4.heap.size) (w5.heap.size) u34 (Tfn.pPutV (k1, vs1) (Rws.plain rs0))) := Knr.rOwn_keeps O145.out hb14 (by have z0 := Z3.out; have z1 := Z9.out; have z2 := Z19.out; have z3 := Z28.out; have z4 := Z36.out; have z5 := Z44.out; have z6 := Z55.out; have z7 := Z74.out; have z8 := Z85.out; have z9 := Z99.out; have z10 := Z112.out; have z11 := Z134.out; have z12 := Z144.out; omega)
      have O162 : Hid (Knr.WOwn w14 (w6.heap.size) (w7.heap.size) a49 n50 c51 (k1, vs1)) := Knr.wOwn_keeps O147.out hb14 (by have z0 := Z3.out; have z1 := Z9.out; have z2 := Z19.out; have z3 := Z28.out; have z4 := Z36.out; have z5 := Z44.out; have z6 := Z55.out; have z7 := Z74.out; have z8 := Z85.out; have z9 := Z99.out; have z10 := Z112.out; have z11 := Z134.out; have z12 := Z144.out; omega)
      have O163 : Hid (Knr.ROwn w14 (w7.heap.size + 1) (w8.heap.size) u68 (Tfn.pPutV (k1, vs1) (Rws.plain rs0))) := Knr.rOwn_keeps O148.out hb14 (by have z0 := Z3.out; have z1 := Z9.out; have z2 := Z19.out; have z3 := Z28.out; have z4 := Z36.out; have z5 := Z44.out; have z6 := Z55.out; have z7 := Z74.out; have z8 := Z85.out; have z9 := Z99.out; have z10 := Z112.out; have z11 := Z134.out; have z12 := Z144.out; omega)
      have K164 : Hid (w14.cell? ⟨w.heap.size, 0, none⟩ = some (.int .i64 k1) ∧ w14.cell? ⟨w.heap.size, 1, none⟩ = some (.slice a1 n1 c1)) := ⟨Keeps.cell hb14 K150.out.1 (by have z0 := Z3.out; have z1 := Z9.out; have z2 := Z19.out; have z3 := Z28.out; have z4 := Z36.out; have z5 := Z44.out; have z6 := Z55.out; have z7 := Z74.out; have z8 := Z85.out; have z9 := Z99.out; have z10 := Z112.out; have z11 := Z134.out; have z12 := Z144.out; omega), Keeps.cell hb14 K150.out.2 (by have z0 := Z3.out; have z1 := Z9.out; have z2 := Z19.out; have z3 := Z28.out; have z4 := Z36.out; have z5 := Z44.out; have z6 := Z55.out; have z7 := Z74.out; have z8 := Z85.out; have z9 := Z99.out; have z10 := Z112.out; have z11 := Z134.out; have z12 := Z144.out; omega)⟩
      have K165 : Hid (w14.cell? ⟨w7.heap.size, 0, none⟩ = some (.int .i64 k1) ∧ w14.cell? ⟨w7.heap.size, 1, none⟩ = some (.slice a49 n50 c51)) := ⟨Keeps.cell hb14 K151.out.1 (by have z0 := Z3.out; have z1 := Z9.out; have z2 := Z19.out; have z3 := Z28.out; have z4 := Z36.out; have z5 := Z44.out; have z6 := Z55.out; have z7 := Z74.out; have z8 := Z85.out; have z9 := Z99.out; have z10 := Z112.out; have z11 := Z134.out; have z12 := Z144.out; omega), Keeps.cell hb14 K151.out.2 (by have z0 := Z3.out; have z1 := Z9.out; have z2 := Z19.out; have z3 := Z28.out; have z4 := Z36.out; have z5 := Z44.out; have z6 := Z55.out; have z7 := Z74.out; have z8 := Z85.out; have z9 := Z99.out; have z10 := Z112.out; have z11 := Z134.out; have z12 := Z144.out; omega)⟩
      have B166 : Hid (Below w.heap.size w w14) := Keeps.below B152.out hb14 (by have z0 := Z3.out; have z1 := Z9.out; have z2 := Z19.out; have z3 := Z28.out; have z4 := Z36.out; have z5 := Z44.out; have z6 := Z55.out; have z7 := Z74.out; have z8 := Z85.out; have z9 := Z99.out; have z10 := Z112.out; have z11 := Z134.out; have z12 := Z144.out; omega) B152.out.size
      clear hm hb14
      have cc168 : w14.cell? ⟨w.heap.size, 0, none⟩ = some (.int .i64 k1) := K164.out.1
      have cc169 : w14.cell? ⟨w.heap.size, 1, none⟩ = some (.slice a1 n1 c1) := K164.out.2
      have cc170 : w14.cell? ⟨w7.heap.size, 0, none⟩ = some (.int .i64 k1) := K165.out.1
      have cc171 : w14.cell? ⟨w7.heap.size, 1, none⟩ = some (.slice a49 n50 c51) := K165.out.2
      go_wp2_with fail
      refine (Knr.w_mark _ a49 n50 c51 (k1, vs1) _ _ nx154 _ O162.out (by omega) (by omega)).mono ?_
      rintro e w15 ⟨nx167, rfl, hn0nx167, hn1nx167, hm, hb15⟩
      clear cc168 cc169 cc170 cc171
      have hznx167 : ¬ nx167 < 0 := by omega
      have O172 : Hid (Knr.WMarked w15 (w6.heap.size) (w7.heap.size) a49 n50 c51 nx154 nx167) := hm
      have Z173 : Hid (w14.heap.size ≤ w15.heap.size) := hb15.size
      have O174 : Hid (Knr.ROwn w15 (w4.heap.size) (w5.heap.size) u34 (Tfn.pPutV (k1, vs1) (Rws.plain rs0))) := Knr.rOwn_keeps O161.out hb15 (by have z0 := Z3.out; have z1 := Z9.out; have z2 := Z19.out; have z3 := Z28.out; have z4 := Z36.out; have z5 := Z44.out; have z6 := Z55.out; have z7 := Z74.out; have z8 := Z85.out; have z9 := Z99.out; have z10 := Z112.out; have z11 := Z134.out; have z12 := Z144.out; have z13 := Z160.out; omega)
      have O175 : Hid (Knr.RMarked w15 (w5.heap.size) (w6.heap.size) u40 1 nx154) := Knr.rMarked_keeps O159.out hb15 (by have z0 := Z3.out; have z1 := Z9.out; have z2 := Z19.out; have z3 := Z28.out; have z4 := Z36.out; have z5 := Z44.out; have z6 := Z55.out; have z7 := Z74.out; have z8 := Z85.out; have z9 := Z99.out; have z10 := Z112.out; have z11 := Z134.out; have z12 := Z144.out; have z13 := Z160.out; omega)
      have O176 : Hid (Knr.ROwn w15 (w7.heap.size + 1) (w8.heap.size) u68 (Tfn.pPutV (k1, vs1) (Rws.plain rs0))) := Knr.rOwn_keeps O163.out hb15 (by have z0 := Z3.out; have z1 := Z9.out; have z2 := Z19.out; have z3 := Z28.out; have z4 := Z36.out; have z5 := Z44.out; have z6 := Z55.out; have z7 := Z74.out; have z8 := Z85.out; have z9 := Z99.out; have z10 := Z112.out; have z11 := Z134.out; have z12 := Z144.out; have z13 := Z160.out; omega)
      have K177 : Hid (w15.cell? ⟨w.heap.size, 0, none⟩ = some (.int .i64 k1) ∧ w15.cell? ⟨w.heap.size, 1, none⟩ = some (.slice a1 n1 c1)) := ⟨Keeps.cell hb15 K164.out.1 (by have z0 := Z3.out; have z1 := Z9.out; have z2 := Z19.out; have z3 := Z28.out; have z4 := Z36.out; have z5 := Z44.out; have z6 := Z55.out; have z7 := Z74.out; have z8 := Z85.out; have z9 := Z99.out; have z10 := Z112.out; have z11 := Z134.out; have z12 := Z144.out; have z13 := Z160.out; omega), Keeps.cell hb15 K164.out.2 (by have z0 := Z3.out; have z1 := Z9.out; have z2 := Z19.out; have z3 := Z28.out; have z4 := Z36.out; have z5 := Z44.out; have z6 := Z55.out; have z7 := Z74.out; have z8 := Z85.out; have z9 := Z99.out; have z10 := Z112.out; have z11 := Z134.out; have z12 := Z144.out; have z13 := Z160.out; omega)⟩
      have K178 : Hid (w15.cell? ⟨w7.heap.size, 0, none⟩ = some (.int .i64 k1) ∧ w15.cell? ⟨w7.heap.size, 1, none⟩ = some (.slice a49 n50 c51)) := ⟨Keeps.cell hb15 K165.out.1 (by have z0 := Z3.out; have z1 := Z9.out; have z2 := Z19.out; have z3 := Z28.out; have z4 := Z36.out; have z5 := Z44.out; have z6 := Z55.out; have z7 := Z74.out; have z8 := Z85.out; have z9 := Z99.out; have z10 := Z112.out; have z11 := Z134.out; have z12 := Z144.out; have z13 := Z160.out; omega), Keeps.cell hb15 K165.out.2 (by have z0 := Z3.out; have z1 := Z9.out; have z2 := Z19.out; have z3 := Z28.out; have z4 := Z36.out; have z5 := Z44.out; have z6 := Z55.out; have z7 := Z74.out; have z8 := Z85.out; have z9 := Z99.out; have z10 := Z112.out; have z11 := Z134.out; have z12 := Z144.out; have z13 := Z160.out; omega)⟩
      have B179 : Hid (Below w.heap.size w w15) := Keeps.below B166.out hb15 (by have z0 := Z3.out; have z1 := Z9.out; have z2 := Z19.out; have z3 := Z28.out; have z4 := Z36.out; have z5 := Z44.out; have z6 := Z55.out; have z7 := Z74.out; have z8 := Z85.out; have z9 := Z99.out; have z10 := Z112.out; have z11 := Z134.out; have z12 := Z144.out; have z13 := Z160.out; omega) B166.out.size
      clear hm hb15
      have cc180 : w15.cell? ⟨w.heap.size, 0, none⟩ = some (.int .i64 k1) := K177.out.1
      have cc181 : w15.cell? ⟨w.heap.size, 1, none⟩ = some (.slice a1 n1 c1) := K177.out.2
      have cc182 : w15.cell? ⟨w7.heap.size, 0, none⟩ = some (.int .i64 k1) := K178.out.1
      have cc183 : w15.cell? ⟨w7.heap.size, 1, none⟩ = some (.slice a49 n50 c51) := K178.out.2
      go_wp2_with fail
      refine (Knr.r_eq u68 u34 (Tfn.pPutV (k1, vs1) (Rws.plain rs0)) (Tfn.pPutV (k1, vs1) (Rws.plain rs0)) _ (Knr.rOwn_is O176.out) (Knr.rOwn_is O174.out)).mono ?_
      rintro e w16 ⟨rfl, hb16⟩
      clear cc180 cc181 cc182 cc183
      rw [decide_eq_true (Eq.refl ((Tfn.pPutV (k1, vs1) (Rws.plain rs0))))]
      have Z184 : Hid (w15.heap.size ≤ w16.heap.size) := hb16.size
      have O185 : Hid (Knr.ROwn w16 (w4.heap.size) (w5.heap.size) u34 (Tfn.pPutV (k1, vs1) (Rws.plain rs0))) := Knr.rOwn_below O174.out hb16
      have O186 : Hid (Knr.RMarked w16 (w5.heap.size) (w6.heap.size) u40 1 nx154) := Knr.rMarked_below O175.out hb16
      have O187 : Hid (Knr.WMarked w16 (w6.heap.size) (w7.heap.size) a49 n50 c51 nx154 nx167) := Knr.wMarked_below O172.out hb16
      have O188 : Hid (Knr.ROwn w16 (w7.heap.size + 1) (w8.heap.size) u68 (Tfn.pPutV (k1, vs1) (Rws.plain rs0))) := Knr.rOwn_below O176.out hb16
      have K189 : Hid (w16.cell? ⟨w.heap.size, 0, none⟩ = some (.int .i64 k1) ∧ w16.cell? ⟨w.heap.size, 1, none⟩ = some (.slice a1 n1 c1)) := ⟨(hb16.cell (p := ⟨w.heap.size, 0, none⟩) (Frame.cell_lt K177.out.1)).trans K177.out.1, (hb16.cell (p := ⟨w.heap.size, 1, none⟩) (Frame.cell_lt K177.out.2)).trans K177.out.2⟩
      have K190 : Hid (w16.cell? ⟨w7.heap.size, 0, none⟩ = some (.int .i64 k1) ∧ w16.cell? ⟨w7.heap.size, 1, none⟩ = some (.slice a49 n50 c51)) := ⟨(hb16.cell (p := ⟨w7.heap.size, 0, none⟩) (Frame.cell_lt K178.out.1)).trans K178.out.1, (hb16.cell (p := ⟨w7.heap.size, 1, none⟩) (Frame.cell_lt K178.out.2)).trans K178.out.2⟩
      have B191 : Hid (Below w.heap.size w w16) := Frame.next B179.out hb16 B179.out.size
      clear hb16
      have cc193 : w16.cell? ⟨w.heap.size, 0, none⟩ = some (.int .i64 k1) := K189.out.1
      have cc194 : w16.cell? ⟨w.heap.size, 1, none⟩ = some (.slice a1 n1 c1) := K189.out.2
      have cc195 : w16.cell? ⟨w7.heap.size, 0, none⟩ = some (.int .i64 k1) := K190.out.1
      have cc196 : w16.cell? ⟨w7.heap.size, 1, none⟩ = some (.slice a49 n50 c51) := K190.out.2
      go_wp2_with fail
      refine (Knr.r_mark u68 (Tfn.pPutV (k1, vs1) (Rws.plain rs0)) _ _ 1 _ O188.out (by omega) (by omega)).mono ?_
      rintro e w17 ⟨nx192, rfl, hn0nx192, hn1nx192, hm, hb17⟩
      clear cc193 cc194 cc195 cc196
      have hznx192 : ¬ nx192 < 0 := by omega
      have O197 : Hid (Knr.RMarked w17 (w7.heap.size + 1) (w8.heap.size) u68 1 nx192) := hm
      have Z198 : Hid (w16.heap.size ≤ w17.heap.size) := hb17.size
      have O199 : Hid (Knr.ROwn w17 (w4.heap.size) (w5.heap.size) u34 (Tfn.pPutV (k1, vs1) (Rws.plain rs0))) := Knr.rOwn_keeps O185.out hb17 (by have z0 := Z3.out; have z1 := Z9.out; have z2 := Z19.out; have z3 := Z28.out; have z4 := Z36.out; have z5 := Z44.out; have z6 := Z55.out; have z7 := Z74.out; have z8 := Z85.out; have z9 := Z99.out; have z10 := Z112.out; have z11 := Z134.out; have z12 := Z144.out; have z13 := Z160.out; have z14 := Z173.out; have z15 := Z184.out; omega)
      have K200 : Hid (w17.cell? ⟨w.heap.size, 0, none⟩ = some (.int .i64 k1) ∧ w17.cell? ⟨w.heap.size, 1, none⟩ = some (.slice a1 n1 c1)) := ⟨Keeps.cell hb17 K189.out.1 (by have z0 := Z3.out; have z1 := Z9.out; have z2 := Z19.out; have z3 := Z28.out; have z4 := Z36.out; have z5 := Z44.out; have z6 := Z55.out; have z7 := Z74.out; have z8 := Z85.out; have z9 := Z99.out; have z10 := Z112.out; have z11 := Z134.out; have z12 := Z144.out; have z13 := Z160.out; have z14 := Z173.out; have z15 := Z184.out; omega), Keeps.cell hb17 K189.out.2 (by have z0 := Z3.out; have z1 := Z9.out; have z2 := Z19.out; have z3 := Z28.out; have z4 := Z36.out; have z5 := Z44.out; have z6 := Z55.out; have z7 := Z74.out; have z8 := Z85.out; have z9 := Z99.out; have z10 := Z112.out; have z11 := Z134.out; have z12 := Z144.out; have z13 := Z160.out; have z14 := Z173.out; have z15 := Z184.out; omega)⟩
      have K201 : Hid (w17.cell? ⟨w7.heap.size, 0, none⟩ = some (.int .i64 k1) ∧ w17.cell? ⟨w7.heap.size, 1, none⟩ = some (.slice a49 n50 c51)) := ⟨Keeps.cell hb17 K190.out.1 (by have z0 := Z3.out; have z1 := Z9.out; have z2 := Z19.out; have z3 := Z28.out; have z4 := Z36.out; have z5 := Z44.out; have z6 := Z55.out; have z7 := Z74.out; have z8 := Z85.out; have z9 := Z99.out; have z10 := Z112.out; have z11 := Z134.out; have z12 := Z144.out; have z13 := Z160.out; have z14 := Z173.out; have z15 := Z184.out; omega), Keeps.cell hb17 K190.out.2 (by have z0 := Z3.out; have z1 := Z9.out; have z2 := Z19.out; have z3 := Z28.out; have z4 := Z36.out; have z5 := Z44.out; have z6 := Z55.out; have z7 := Z74.out; have z8 := Z85.out; have z9 := Z99.out; have z10 := Z112.out; have z11 := Z134.out; have z12 := Z144.out; have z13 := Z160.out; have z14 := Z173.out; have z15 := Z184.out; omega)⟩
      have B202 : Hid (Below w.heap.size w w17) := Keeps.below B191.out hb17 (by have z0 := Z3.out; have z1 := Z9.out; have z2 := Z19.out; have z3 := Z28.out; have z4 := Z36.out; have z5 := Z44.out; have z6 := Z55.out; have z7 := Z74.out; have z8 := Z85.out; have z9 := Z99.out; have z10 := Z112.out; have z11 := Z134.out; have z12 := Z144.out; have z13 := Z160.out; have z14 := Z173.out; have z15 := Z184.out; omega) B191.out.size
      clear hm hb17
      have cc203 : w17.cell? ⟨w.heap.size, 0, none⟩ = some (.int .i64 k1) := K200.out.1
      have cc204 : w17.cell? ⟨w.heap.size, 1, none⟩ = some (.slice a1 n1 c1) := K200.out.2
      have cc205 : w17.cell? ⟨w7.heap.size, 0, none⟩ = some (.int .i64 k1) := K201.out.1
      have cc206 : w17.cell? ⟨w7.heap.size, 1, none⟩ = some (.slice a49 n50 c51) := K201.out.2
      go_wp2_with fail
      refine (Knr.r_held u68 _ _ 1 nx192 _ O197.out).mono ?_
      rintro e w18 ⟨rfl, hb18⟩
      clear cc203 cc204 cc205 cc206
      have Z207 : Hid (w17.heap.size ≤ w18.heap.size) := hb18.size
      have O208 : Hid (Knr.ROwn w18 (w4.heap.size) (w5.heap.size) u34 (Tfn.pPutV (k1, vs1) (Rws.plain rs0))) := Knr.rOwn_below O199.out hb18
      have O209 : Hid (Knr.RMarked w18 (w7.heap.size + 1) (w8.heap.size) u68 1 nx192) := Knr.rMarked_below O197.out hb18
      have K210 : Hid (w18.cell? ⟨w.heap.size, 0, none⟩ = some (.int .i64 k1) ∧ w18.cell? ⟨w.heap.size, 1, none⟩ = some (.slice a1 n1 c1)) := ⟨(hb18.cell (p := ⟨w.heap.size, 0, none⟩) (Frame.cell_lt K200.out.1)).trans K200.out.1, (hb18.cell (p := ⟨w.heap.size, 1, none⟩) (Frame.cell_lt K200.out.2)).trans K200.out.2⟩
      have K211 : Hid (w18.cell? ⟨w7.heap.size, 0, none⟩ = some (.int .i64 k1) ∧ w18.cell? ⟨w7.heap.size, 1, none⟩ = some (.slice a49 n50 c51)) := ⟨(hb18.cell (p := ⟨w7.heap.size, 0, none⟩) (Frame.cell_lt K201.out.1)).trans K201.out.1, (hb18.cell (p := ⟨w7.heap.size, 1, none⟩) (Frame.cell_lt K201.out.2)).trans K201.out.2⟩
      have B212 : Hid (Below w.heap.size w w18) := Frame.next B202.out hb18 B202.out.size
      clear hb18
      go_wp2_with fail
      have O213 : Hid (Knr.ROwn w18.drew (w4.heap.size) (w5.heap.size) u34 (Tfn.pPutV (k1, vs1) (Rws.plain rs0))) := Knr.rOwn_below O208.out ((Below.refl _ _).drew : Below w18.heap.size w18 w18.drew)
      have O214 : Hid (Knr.RMarked w18.drew (w7.heap.size + 1) (w8.heap.size) u68 1 nx192) := Knr.rMarked_below O209.out ((Below.refl _ _).drew : Below w18.heap.size w18 w18.drew)
      have K215 : Hid ((w18.drew).cell? ⟨w.heap.size, 0, none⟩ = some (.int .i64 k1) ∧ (w18.drew).cell? ⟨w.heap.size, 1, none⟩ = some (.slice a1 n1 c1)) := ⟨(((Below.refl _ _).drew : Below w18.heap.size w18 w18.drew).cell (p := ⟨w.heap.size, 0, none⟩) (Frame.cell_lt K210.out.1)).trans K210.out.1, (((Below.refl _ _).drew : Below w18.heap.size w18 w18.drew).cell (p := ⟨w.heap.size, 1, none⟩) (Frame.cell_lt K210.out.2)).trans K210.out.2⟩
      have K216 : Hid ((w18.drew).cell? ⟨w7.heap.size, 0, none⟩ = some (.int .i64 k1) ∧ (w18.drew).cell? ⟨w7.heap.size, 1, none⟩ = some (.slice a49 n50 c51)) := ⟨(((Below.refl _ _).drew : Below w18.heap.size w18 w18.drew).cell (p := ⟨w7.heap.size, 0, none⟩) (Frame.cell_lt K211.out.1)).trans K211.out.1, (((Below.refl _ _).drew : Below w18.heap.size w18 w18.drew).cell (p := ⟨w7.heap.size, 1, none⟩) (Frame.cell_lt K211.out.2)).trans K211.out.2⟩
      have B217 : Hid (Below w.heap.size w w18.drew) := Frame.next B212.out ((Below.refl _ _).drew : Below w18.heap.size w18 w18.drew) B212.out.size
      have E218 : Hid (w18.drew.heap.size = w18.heap.size) := rfl
      have S219 : Hid ((w18.drew).cell? ⟨w.heap.size, 0, none⟩ = some (.int .i64 k1) ∧ (w18.drew).cell? ⟨w.heap.size, 1, none⟩ = some (.slice a1 n1 c1) ∧ (w18.drew).cell? ⟨w7.heap.size, 0, none⟩ = some (.int .i64 k1) ∧ (w18.drew).cell? ⟨w7.heap.size, 1, none⟩ = some (.slice a49 n50 c51)) := ⟨K215.out.1, K215.out.2, K216.out.1, K216.out.2⟩
      go_region_held3 (fun w' => (w').cell? ⟨w.heap.size, 0, none⟩ = some (.int .i64 k1) ∧ (w').cell? ⟨w.heap.size, 1, none⟩ = some (.slice a1 n1 c1) ∧ (w').cell? ⟨w7.heap.size, 0, none⟩ = some (.int .i64 k1) ∧ (w').cell? ⟨w7.heap.size, 1, none⟩ = some (.slice a49 n50 c51)) (first | exact S219.out | exact S228.out | exact S241.out | exact S251.out) (first | (go_at_call 33; refine (Knr.r_to (.slice a0 n0 c0) (Rws.plain rs0) _ (Knr.rIs_below A0.out B217.out)).mono ?_; rintro e w19 ⟨u220, rfl, ho, hb19⟩; have O221 : Hid (Knr.ROwn w19 (w18.heap.size) (w19.heap.size) u220 (Rws.plain rs0)) := (by have hh := ho; rw [E218.out] at hh; exact hh); have Z222 : Hid (w18.heap.size ≤ w19.heap.size) := (by have hh := hb19.size; rw [E218.out] at hh; exact hh); have O223 : Hid (Knr.ROwn w19 (w4.heap.size) (w5.heap.size) u34 (Tfn.pPutV (k1, vs1) (Rws.plain rs0))) := Knr.rOwn_below O213.out hb19; have O224 : Hid (Knr.RMarked w19 (w7.heap.size + 1) (w8.heap.size) u68 1 nx192) := Knr.rMarked_below O214.out hb19; have K225 : Hid (w19.cell? ⟨w.heap.size, 0, none⟩ = some (.int .i64 k1) ∧ w19.cell? ⟨w.heap.size, 1, none⟩ = some (.slice a1 n1 c1)) := ⟨(hb19.cell (p := ⟨w.heap.size, 0, none⟩) (Frame.cell_lt K215.out.1)).trans K215.out.1, (hb19.cell (p := ⟨w.heap.size, 1, none⟩) (Frame.cell_lt K215.out.2)).trans K215.out.2⟩; have K226 : Hid (w19.cell? ⟨w7.heap.size, 0, none⟩ = some (.int .i64 k1) ∧ w19.cell? ⟨w7.heap.size, 1, none⟩ = some (.slice a49 n50 c51)) := ⟨(hb19.cell (p := ⟨w7.heap.size, 0, none⟩) (Frame.cell_lt K216.out.1)).trans K216.out.1, (hb19.cell (p := ⟨w7.heap.size, 1, none⟩) (Frame.cell_lt K216.out.2)).trans K216.out.2⟩; have B227 : Hid (Below w.heap.size w w19) := Frame.next B217.out hb19 B217.out.size; clear ho hb19; have S228 : Hid (w19.cell? ⟨w.heap.size, 0, none⟩ = some (.int .i64 k1) ∧ w19.cell? ⟨w.heap.size, 1, none⟩ = some (.slice a1 n1 c1) ∧ w19.cell? ⟨w7.heap.size, 0, none⟩ = some (.int .i64 k1) ∧ w19.cell? ⟨w7.heap.size, 1, none⟩ = some (.slice a49 n50 c51)) := ⟨K225.out.1, K225.out.2, K226.out.1, K226.out.2⟩) | (go_at_call 40; refine (Knr.w_to k1 a1 n1 c1 vs1 _ (Knr.wIs_below A1.out B227.out)).mono ?_; rintro e w20 ⟨a230, n231, c232, rfl, ho, hb20⟩; have O233 : Hid (Knr.WOwn w20 (w19.heap.size) (w20.heap.size) a230 n231 c232 (k1, vs1)) := ho; have Z234 : Hid (w19.heap.size ≤ w20.heap.size) := hb20.size; have O235 : Hid (Knr.ROwn w20 (w4.heap.size) (w5.heap.size) u34 (Tfn.pPutV (k1, vs1) (Rws.plain rs0))) := Knr.rOwn_below O223.out hb20; have O236 : Hid (Knr.RMarked w20 (w7.heap.size + 1) (w8.heap.size) u68 1 nx192) := Knr.rMarked_below O224.out hb20; have O237 : Hid (Knr.ROwn w20 (w18.heap.size) (w19.heap.size) u220 (Rws.plain rs0)) := Knr.rOwn_below O221.out hb20; have K238 : Hid (w20.cell? ⟨w.heap.size, 0, none⟩ = some (.int .i64 k1) ∧ w20.cell? ⟨w.heap.size, 1, none⟩ = some (.slice a1 n1 c1)) := ⟨(hb20.cell (p := ⟨w.heap.size, 0, none⟩) (Frame.cell_lt K225.out.1)).trans K225.out.1, (hb20.cell (p := ⟨w.heap.size, 1, none⟩) (Frame.cell_lt K225.out.2)).trans K225.out.2⟩; have K239 : Hid (w20.cell? ⟨w7.heap.size, 0, none⟩ = some (.int .i64 k1) ∧ w20.cell? ⟨w7.heap.size, 1, none⟩ = some (.slice a49 n50 c51)) := ⟨(hb20.cell (p := ⟨w7.heap.size, 0, none⟩) (Frame.cell_lt K226.out.1)).trans K226.out.1, (hb20.cell (p := ⟨w7.heap.size, 1, none⟩) (Frame.cell_lt K226.out.2)).trans K226.out.2⟩; have B240 : Hid (Below w.heap.size w w20) := Frame.next B227.out hb20 B227.out.size; clear ho hb20; have S241 : Hid (w20.cell? ⟨w.heap.size, 0, none⟩ = some (.int .i64 k1) ∧ w20.cell? ⟨w.heap.size, 1, none⟩ = some (.slice a1 n1 c1) ∧ w20.cell? ⟨w7.heap.size, 0, none⟩ = some (.int .i64 k1) ∧ w20.cell? ⟨w7.heap.size, 1, none⟩ = some (.slice a49 n50 c51)) := ⟨K238.out.1, K238.out.2, K239.out.1, K239.out.2⟩) | (go_at_call 10; refine (Tfn.impl_PutRow u220 (Rws.plain rs0) (k1, vs1) a230 n231 c232 _ (Knr.rOwn_is O237.out) HWF1.out (Knr.wOwn_is O233.out)).mono ?_; rintro e w21 ⟨u243, rfl, ho0, hb21⟩; have O244 : Hid (Knr.ROwn w21 (w20.heap.size) (w21.heap.size) u243 (Tfn.pPutV (k1, vs1) (Rws.plain rs0))) := ho0; have Z245 : Hid (w20.heap.size ≤ w21.heap.size) := hb21.size; have O246 : Hid (Knr.ROwn w21 (w4.heap.size) (w5.heap.size) u34 (Tfn.pPutV (k1, vs1) (Rws.plain rs0))) := Knr.rOwn_below O235.out hb21; have O247 : Hid (Knr.RMarked w21 (w7.heap.size + 1) (w8.heap.size) u68 1 nx192) := Knr.rMarked_below O236.out hb21; have K248 : Hid (w21.cell? ⟨w.heap.size, 0, none⟩ = some (.int .i64 k1) ∧ w21.cell? ⟨w.heap.size, 1, none⟩ = some (.slice a1 n1 c1)) := ⟨(hb21.cell (p := ⟨w.heap.size, 0, none⟩) (Frame.cell_lt K238.out.1)).trans K238.out.1, (hb21.cell (p := ⟨w.heap.size, 1, none⟩) (Frame.cell_lt K238.out.2)).trans K238.out.2⟩; have K249 : Hid (w21.cell? ⟨w7.heap.size, 0, none⟩ = some (.int .i64 k1) ∧ w21.cell? ⟨w7.heap.size, 1, none⟩ = some (.slice a49 n50 c51)) := ⟨(hb21.cell (p := ⟨w7.heap.size, 0, none⟩) (Frame.cell_lt K239.out.1)).trans K239.out.1, (hb21.cell (p := ⟨w7.heap.size, 1, none⟩) (Frame.cell_lt K239.out.2)).trans K239.out.2⟩; have B250 : Hid (Below w.heap.size w w21) := Frame.next B240.out hb21 B240.out.size; clear ho0 hb21; have S251 : Hid (w21.cell? ⟨w.heap.size, 0, none⟩ = some (.int .i64 k1) ∧ w21.cell? ⟨w.heap.size, 1, none⟩ = some (.slice a1 n1 c1) ∧ w21.cell? ⟨w7.heap.size, 0, none⟩ = some (.int .i64 k1) ∧ w21.cell? ⟨w7.heap.size, 1, none⟩ = some (.slice a49 n50 c51)) := ⟨K248.out.1, K248.out.2, K249.out.1, K249.out.2⟩))
      have cc252 : w21.cell? ⟨w.heap.size, 0, none⟩ = some (.int .i64 k1) := K248.out.1
      have cc253 : w21.cell? ⟨w.heap.size, 1, none⟩ = some (.slice a1 n1 c1) := K248.out.2
      have cc254 : w21.cell? ⟨w7.heap.size, 0, none⟩ = some (.int .i64 k1) := K249.out.1
      have cc255 : w21.cell? ⟨w7.heap.size, 1, none⟩ = some (.slice a49 n50 c51) := K249.out.2
      go_wp2_with fail
      refine (Knr.r_eq u243 u34 (Tfn.pPutV (k1, vs1) (Rws.plain rs0)) (Tfn.pPutV (k1, vs1) (Rws.plain rs0)) _ (Knr.rOwn_is O244.out) (Knr.rOwn_is O246.out)).mono ?_
      rintro e w22 ⟨rfl, hb22⟩
      clear cc252 cc253 cc254 cc255
      rw [decide_eq_true (Eq.refl ((Tfn.pPutV (k1, vs1) (Rws.plain rs0))))]
      have Z256 : Hid (w21.heap.size ≤ w22.heap.size) := hb22.size
      have O257 : Hid (Knr.ROwn w22 (w4.heap.size) (w5.heap.size) u34 (Tfn.pPutV (k1, vs1) (Rws.plain rs0))) := Knr.rOwn_below O246.out hb22
      have O258 : Hid (Knr.RMarked w22 (w7.heap.size + 1) (w8.heap.size) u68 1 nx192) := Knr.rMarked_below O247.out hb22
      have O259 : Hid (Knr.ROwn w22 (w20.heap.size) (w21.heap.size) u243 (Tfn.pPutV (k1, vs1) (Rws.plain rs0))) := Knr.rOwn_below O244.out hb22
      have K260 : Hid (w22.cell? ⟨w.heap.size, 0, none⟩ = some (.int .i64 k1) ∧ w22.cell? ⟨w.heap.size, 1, none⟩ = some (.slice a1 n1 c1)) := ⟨(hb22.cell (p := ⟨w.heap.size, 0, none⟩) (Frame.cell_lt K248.out.1)).trans K248.out.1, (hb22.cell (p := ⟨w.heap.size, 1, none⟩) (Frame.cell_lt K248.out.2)).trans K248.out.2⟩
      have K261 : Hid (w22.cell? ⟨w7.heap.size, 0, none⟩ = some (.int .i64 k1) ∧ w22.cell? ⟨w7.heap.size, 1, none⟩ = some (.slice a49 n50 c51)) := ⟨(hb22.cell (p := ⟨w7.heap.size, 0, none⟩) (Frame.cell_lt K249.out.1)).trans K249.out.1, (hb22.cell (p := ⟨w7.heap.size, 1, none⟩) (Frame.cell_lt K249.out.2)).trans K249.out.2⟩
      have B262 : Hid (Below w.heap.size w w22) := Frame.next B250.out hb22 B250.out.size
      clear hb22
      have cc263 : w22.cell? ⟨w.heap.size, 0, none⟩ = some (.int .i64 k1) := K260.out.1
      have cc264 : w22.cell? ⟨w.heap.size, 1, none⟩ = some (.slice a1 n1 c1) := K260.out.2
      have cc265 : w22.cell? ⟨w7.heap.size, 0, none⟩ = some (.int .i64 k1) := K261.out.1
      have cc266 : w22.cell? ⟨w7.heap.size, 1, none⟩ = some (.slice a49 n50 c51) := K261.out.2
      go_wp2_with fail
      refine (Knr.r_held u68 _ _ 1 nx192 _ O258.out).mono ?_
      rintro e w23 ⟨rfl, hb23⟩
      clear cc263 cc264 cc265 cc266
      have Z267 : Hid (w22.heap.size ≤ w23.heap.size) := hb23.size
      have O268 : Hid (Knr.ROwn w23 (w4.heap.size) (w5.heap.size) u34 (Tfn.pPutV (k1, vs1) (Rws.plain rs0))) := Knr.rOwn_below O257.out hb23
      have O269 : Hid (Knr.RMarked w23 (w7.heap.size + 1) (w8.heap.size) u68 1 nx192) := Knr.rMarked_below O258.out hb23
      have O270 : Hid (Knr.ROwn w23 (w20.heap.size) (w21.heap.size) u243 (Tfn.pPutV (k1, vs1) (Rws.plain rs0))) := Knr.rOwn_below O259.out hb23
      have K271 : Hid (w23.cell? ⟨w.heap.size, 0, none⟩ = some (.int .i64 k1) ∧ w23.cell? ⟨w.heap.size, 1, none⟩ = some (.slice a1 n1 c1)) := ⟨(hb23.cell (p := ⟨w.heap.size, 0, none⟩) (Frame.cell_lt K260.out.1)).trans K260.out.1, (hb23.cell (p := ⟨w.heap.size, 1, none⟩) (Frame.cell_lt K260.out.2)).trans K260.out.2⟩
      have K272 : Hid (w23.cell? ⟨w7.heap.size, 0, none⟩ = some (.int .i64 k1) ∧ w23.cell? ⟨w7.heap.size, 1, none⟩ = some (.slice a49 n50 c51)) := ⟨(hb23.cell (p := ⟨w7.heap.size, 0, none⟩) (Frame.cell_lt K261.out.1)).trans K261.out.1, (hb23.cell (p := ⟨w7.heap.size, 1, none⟩) (Frame.cell_lt K261.out.2)).trans K261.out.2⟩
      have B273 : Hid (Below w.heap.size w w23) := Frame.next B262.out hb23 B262.out.size
      clear hb23
      go_wp2
      go_ret
      exact ⟨rfl, B273.out⟩

set_option maxRecDepth 100000 in
theorem contract (H : Type) (enc : TypeId × Value → H) (W : World) (base : Nat) (args : Array Value) (ds gs : List (DataW H)) (before : List MemPlace)
    (hval0 : ∀ (j : Nat) t v, Try.f7.params[j]? = some t → args[j]? = some v → Value.okWide Try.prog W .any base t v)
    (hW : DataW.Whole enc Try.prog Try.f7.params.toList Rows.fnExactPutRowSpec.vars false W args.toList ds gs before) :
    Calls Try.prog 7 args W fun e W' => ∃ v, e = .returned v ∧ Rows.fnExactPutRowSpec.post enc Try.prog Try.f7 false true false false W args v W' := by
  refine Frame.law_calls (tb := 4) laidOut (by kernel_rfl) (by kernel_rfl) (by kernel_rfl) Try.underlying4 hW (fun ds gs h1 h2 => ?_) ?_
  · rw [Try.params7] at h1
    match ds, gs, h1, h2 with
    | [_, _], [], _, _ => rfl
  · obtain ⟨p, q, hA0, _, _, _, _⟩ := hW
    have hval : ∀ (j : Nat) t v, Try.f7.params[j]? = some t → args[j]? = some v → Value.okWide Try.prog W .any base t v := hval0
    have hA : DataW.TrodAll enc Try.prog W 0 (fun _ => true) true Try.f7.params.toList args.toList ds p := hA0
    rw [Try.params7] at hA hval
    obtain ⟨v0, vs0, d0, ds0, p0, q0, hargs, rfl, rfl, h0, r0⟩ := trodAll_cons hA
    obtain ⟨v1, vs1, d1, ds1, p1, q1, rfl, rfl, rfl, h1, r1⟩ := trodAll_cons r0
    obtain ⟨rfl, rfl, rfl⟩ := trodAll_nil r1
    obtain rfl : args = #[v0, v1] := by cases args; simp_all
    obtain ⟨a0, len0, cap0, rfl⟩ := okWide_slice Try.underlying54 (hval 0 54 v0 rfl rfl)
    obtain ⟨z0, w0⟩ := Opn.isRows_of h0
    obtain ⟨k1, a1, n1, cap1, z1, rfl, wk1, w1⟩ := Opn.row_of (hval 1 63 v1 rfl rfl) h1
    exact walk a0 len0 cap0 z0 k1 a1 n1 cap1 z1 W w0 wk1 w1

set_option maxRecDepth 100000 in
theorem lifted (os : Os) (started : os.Started) (H : Type) (enc : TypeId × Value → H) :
    ReturnsInHanded {} Try.checked os 7 .any (Rows.fnExactPutRowSpec.pre6 enc Try.prog Try.f7 Rows.fnExactPutRowRow.domain false) (Rows.fnExactPutRowSpec.post enc Try.prog Try.f7 false true false false) := by
  refine returnsInHanded_of_change (C := Try.checked) own started (by kernel_rfl) Try.func7
    (ChangeSpec.witness6 (enc := enc) (C := Try.checked) false ⟨#[], #[.slice none 0 0, .agg #[.int .i64 0, .slice none 0 0]], []⟩ 8 (by kernel_rfl) (by kernel_rfl) (by kernel_rfl) (by kernel_rfl)) ?_
  intro W base args ds gs before hval hW _ _
  exact contract H enc W base args ds gs before hval hW

/-- The statement. -/
theorem proved : Rows.FnExactPutRowSaid :=
  OpenClaim.holds_of_wide 7 Try.f7 rfl rfl rfl rfl rfl rfl rfl ⟨rfl, rfl, rfl, rfl, rfl⟩ rfl rfl rfl rfl rfl (by kernel_rfl) Try.func7 (by kernel_rfl)
    (of_decide_eq_true (by kernel_rfl)) (by unfold Func.isWrapper; first | (rw [if_pos (by decide +kernel)]; kernel_rfl) | (rw [if_neg (by decide +kernel)]; exact ⟨rfl, rfl⟩))
    (fun os started H enc _ => lifted os started H enc)
#print axioms proved

end Go.Proofs.Ytciaegdgoabipaa.fnExactPutRow
