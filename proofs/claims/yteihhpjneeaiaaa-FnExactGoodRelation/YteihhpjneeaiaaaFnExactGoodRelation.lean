/-
  Proved: at every argument the law FnExactGoodRelation returns true, and its arguments read afterwards as they did.
-/
import Derived.Test.YteihhpjneeaiaaaFrame
import Derived.Test.YteihhpjneeaiaaaRfn
import Derived.Test.YteihhpjneeaiaaaOpr
namespace Go.Proofs.Yteihhpjneeaiaaa.fnExactGoodRelation
open Go.ChangeShapes Go.WideShapes Go.ChangeAt Go.RowKit

theorem own : ownKnob Try.prog.godebug = none := by kernel_rfl
theorem laidOut : laidOutB Try.prog = true := by kernel_rfl

open Go.Proofs.Yteihhpjneeaiaaa.Kep

set_option maxRecDepth 100000 in
set_option maxHeartbeats 4000000 in
theorem walk (ua0 : Option Addr) (un0 uc0 : Nat) (ns0 : List Int) (ta0 : Option Addr) (tn0 tc0 : Nat) (rs0 : List Lls.LV) (w : World) (hu0 : Frame.IsRow .i64 w ua0 un0 uc0 ns0) (ht0 : Lls.IsLs w ta0 tn0 tc0 rs0) :
    Calls Try.prog 3 #[.agg #[.slice ua0 un0 uc0, .slice ta0 tn0 tc0]] w fun e w' => e = .returned (.bool true) ∧ Below w.heap.size w w' := by
  have HU0 : Hid (Frame.IsRow .i64 w ua0 un0 uc0 ns0) := hu0
  have HT0 : Hid (Lls.IsLs w ta0 tn0 tc0 rs0) := ht0
  clear hu0 ht0
  have B0 : Hid (Below w.heap.size w w) := Below.refl _ _
  have B1 : Hid (Below w.heap.size w (w.alloc (.cells #[.slice ua0 un0 uc0, .slice ta0 tn0 tc0] 25))) := B0.out.alloc (by simp; try omega) _
  have K2 : Hid ((w.alloc (.cells #[.slice ua0 un0 uc0, .slice ta0 tn0 tc0] 25)).cell? ⟨w.heap.size, 0, none⟩ = some (.slice ua0 un0 uc0) ∧ (w.alloc (.cells #[.slice ua0 un0 uc0, .slice ta0 tn0 tc0] 25)).cell? ⟨w.heap.size, 1, none⟩ = some (.slice ta0 tn0 tc0)) := by
    show _ ∧ _
    refine ⟨?_, ?_⟩ <;> rw [World.cell?_alloc_at _ _ _ _ (by simp)] <;> rfl
  have E3 : Hid ((w.alloc (.cells #[.slice ua0 un0 uc0, .slice ta0 tn0 tc0] 25)).heap.size = w.heap.size + 1) := by show _ = _; simp
  go_enter Try.func3, Try.ntmps3
  have cc4 : (w.alloc (.cells #[.slice ua0 un0 uc0, .slice ta0 tn0 tc0] 25)).cell? ⟨w.heap.size, 0, none⟩ = some (.slice ua0 un0 uc0) := K2.out.1
  have cc5 : (w.alloc (.cells #[.slice ua0 un0 uc0, .slice ta0 tn0 tc0] 25)).cell? ⟨w.heap.size, 1, none⟩ = some (.slice ta0 tn0 tc0) := K2.out.2
  go_wp2_with fail
  refine (Krl.q_sz ua0 ta0 un0 uc0 tn0 tc0 rs0 1048576 _ (Nat.le_trans HU0.out.fits HU0.out.max) (HT0.out.below B1.out) (by omega) (by omega)).mono ?_
  rintro e w1 ⟨rfl, hb1⟩
  clear cc4 cc5
  have Z6 : Hid (w.heap.size + 1 ≤ w1.heap.size) := (by have hh := hb1.size; rw [E3.out] at hh; exact hh)
  have K7 : Hid (w1.cell? ⟨w.heap.size, 0, none⟩ = some (.slice ua0 un0 uc0) ∧ w1.cell? ⟨w.heap.size, 1, none⟩ = some (.slice ta0 tn0 tc0)) := ⟨(hb1.cell (p := ⟨w.heap.size, 0, none⟩) (Frame.cell_lt K2.out.1)).trans K2.out.1, (hb1.cell (p := ⟨w.heap.size, 1, none⟩) (Frame.cell_lt K2.out.2)).trans K2.out.2⟩
  have B8 : Hid (Below w.heap.size w w1) := Frame.next B1.out hb1 B1.out.size
  clear hb1
  by_cases hL1 : Lls.left 1048576 ((un0 : Int) + Lls.totalL rs0) < 0
  · go_wp2
    go_ret
    exact ⟨rfl, B8.out⟩
  · have ht0 : un0 ≤ 1048576 ∧ Lls.totalL rs0 ≤ 1048576 := by have hq := Krl.total_nonneg rs0; unfold Lls.left at hL1; split at hL1 <;> omega
    have A0 : Hid (Krl.QIs w (.slice ua0 un0 uc0) (.slice ta0 tn0 tc0) (ns0, Lls.lplain rs0)) := ⟨⟨_, _, _, rfl, HU0.out, ht0.1⟩, _, _, _, _, rfl, HT0.out, rfl, ht0.2⟩
    have hB1 : Lls.left 1048576 ((un0 : Int) + Lls.totalL rs0) ≤ 1048576 := Krl.left_le _ _ (by have hq := Krl.total_nonneg rs0; omega) (by omega)
    clear ht0
    generalize hG1 : Lls.left 1048576 ((un0 : Int) + Lls.totalL rs0) = L9 at hL1 hB1 ⊢
    clear hG1
    have cc16 : w1.cell? ⟨w.heap.size, 0, none⟩ = some (.slice ua0 un0 uc0) := K7.out.1
    have cc17 : w1.cell? ⟨w.heap.size, 1, none⟩ = some (.slice ta0 tn0 tc0) := K7.out.2
    go_wp2_with fail
    refine (Krl.q_to6 (.slice ua0 un0 uc0) (.slice ta0 tn0 tc0) (ns0, Lls.lplain rs0) _ (Krl.qIs_below A0.out B8.out)).mono ?_
    rintro e w2 ⟨ua10, un11, uc12, ta13, tn14, tc15, rfl, ho, hb2⟩
    clear cc16 cc17
    have O18 : Hid (Krl.QOwn w2 (w1.heap.size) (w2.heap.size) (.slice ua10 un11 uc12) (.slice ta13 tn14 tc15) (ns0, Lls.lplain rs0)) := ho
    have Z19 : Hid (w1.heap.size ≤ w2.heap.size) := hb2.size
    have K20 : Hid (w2.cell? ⟨w.heap.size, 0, none⟩ = some (.slice ua0 un0 uc0) ∧ w2.cell? ⟨w.heap.size, 1, none⟩ = some (.slice ta0 tn0 tc0)) := ⟨(hb2.cell (p := ⟨w.heap.size, 0, none⟩) (Frame.cell_lt K7.out.1)).trans K7.out.1, (hb2.cell (p := ⟨w.heap.size, 1, none⟩) (Frame.cell_lt K7.out.2)).trans K7.out.2⟩
    have B21 : Hid (Below w.heap.size w w2) := Frame.next B8.out hb2 B8.out.size
    clear ho hb2
    have cc23 : w2.cell? ⟨w.heap.size, 0, none⟩ = some (.slice ua0 un0 uc0) := K20.out.1
    have cc24 : w2.cell? ⟨w.heap.size, 1, none⟩ = some (.slice ta0 tn0 tc0) := K20.out.2
    go_wp2_with fail
    refine (Rfn.spec_GoodRelation (.slice ua10 un11 uc12) (.slice ta13 tn14 tc15) (ns0, Lls.lplain rs0) _ (Krl.qOwn_is O18.out)).mono ?_
    rintro e w3 ⟨rfl, hb3⟩
    clear cc23 cc24
    have Z25 : Hid (w2.heap.size ≤ w3.heap.size) := hb3.size
    have K26 : Hid (w3.cell? ⟨w.heap.size, 0, none⟩ = some (.slice ua0 un0 uc0) ∧ w3.cell? ⟨w.heap.size, 1, none⟩ = some (.slice ta0 tn0 tc0)) := ⟨(hb3.cell (p := ⟨w.heap.size, 0, none⟩) (Frame.cell_lt K20.out.1)).trans K20.out.1, (hb3.cell (p := ⟨w.heap.size, 1, none⟩) (Frame.cell_lt K20.out.2)).trans K20.out.2⟩
    have B27 : Hid (Below w.heap.size w w3) := Frame.next B21.out hb3 B21.out.size
    clear  hb3
    have cc34 : w3.cell? ⟨w.heap.size, 0, none⟩ = some (.slice ua0 un0 uc0) := K26.out.1
    have cc35 : w3.cell? ⟨w.heap.size, 1, none⟩ = some (.slice ta0 tn0 tc0) := K26.out.2
    go_wp2_with fail
    refine (Krl.q_to6 (.slice ua0 un0 uc0) (.slice ta0 tn0 tc0) (ns0, Lls.lplain rs0) _ (Krl.qIs_below A0.out B27.out)).mono ?_
    rintro e w4 ⟨ua28, un29, uc30, ta31, tn32, tc33, rfl, ho, hb4⟩
    clear cc34 cc35
    have O36 : Hid (Krl.QOwn w4 (w3.heap.size) (w4.heap.size) (.slice ua28 un29 uc30) (.slice ta31 tn32 tc33) (ns0, Lls.lplain rs0)) := ho
    have Z37 : Hid (w3.heap.size ≤ w4.heap.size) := hb4.size
    have K38 : Hid (w4.cell? ⟨w.heap.size, 0, none⟩ = some (.slice ua0 un0 uc0) ∧ w4.cell? ⟨w.heap.size, 1, none⟩ = some (.slice ta0 tn0 tc0)) := ⟨(hb4.cell (p := ⟨w.heap.size, 0, none⟩) (Frame.cell_lt K26.out.1)).trans K26.out.1, (hb4.cell (p := ⟨w.heap.size, 1, none⟩) (Frame.cell_lt K26.out.2)).trans K26.out.2⟩
    have B39 : Hid (Below w.heap.size w w4) := Frame.next B27.out hb4 B27.out.size
    clear ho hb4
    have O41 : Hid (Krl.QOwn (w4.alloc (.cells #[.slice ua28 un29 uc30, .slice ta31 tn32 tc33] 28)) (w3.heap.size) (w4.heap.size) (.slice ua28 un29 uc30) (.slice ta31 tn32 tc33) (ns0, Lls.lplain rs0)) := Krl.qOwn_below O36.out ((Below.refl w4.heap.size w4).alloc (Nat.le_refl _) (.cells #[.slice ua28 un29 uc30, .slice ta31 tn32 tc33] 28))
    have K42 : Hid ((w4.alloc (.cells #[.slice ua28 un29 uc30, .slice ta31 tn32 tc33] 28)).cell? ⟨w.heap.size, 0, none⟩ = some (.slice ua0 un0 uc0) ∧ (w4.alloc (.cells #[.slice ua28 un29 uc30, .slice ta31 tn32 tc33] 28)).cell? ⟨w.heap.size, 1, none⟩ = some (.slice ta0 tn0 tc0)) := ⟨(((Below.refl w4.heap.size w4).alloc (Nat.le_refl _) (.cells #[.slice ua28 un29 uc30, .slice ta31 tn32 tc33] 28)).cell (p := ⟨w.heap.size, 0, none⟩) (Frame.cell_lt K38.out.1)).trans K38.out.1, (((Below.refl w4.heap.size w4).alloc (Nat.le_refl _) (.cells #[.slice ua28 un29 uc30, .slice ta31 tn32 tc33] 28)).cell (p := ⟨w.heap.size, 1, none⟩) (Frame.cell_lt K38.out.2)).trans K38.out.2⟩
    have B43 : Hid (Below w.heap.size w (w4.alloc (.cells #[.slice ua28 un29 uc30, .slice ta31 tn32 tc33] 28))) := Frame.next B39.out ((Below.refl w4.heap.size w4).alloc (Nat.le_refl _) (.cells #[.slice ua28 un29 uc30, .slice ta31 tn32 tc33] 28)) B39.out.size
    have K44 : Hid ((w4.alloc (.cells #[.slice ua28 un29 uc30, .slice ta31 tn32 tc33] 28)).cell? ⟨w4.heap.size, 0, none⟩ = some (.slice ua28 un29 uc30) ∧ (w4.alloc (.cells #[.slice ua28 un29 uc30, .slice ta31 tn32 tc33] 28)).cell? ⟨w4.heap.size, 1, none⟩ = some (.slice ta31 tn32 tc33)) := by
      show _ ∧ _
      refine ⟨?_, ?_⟩ <;> rw [World.cell?_alloc_at _ _ _ _ rfl] <;> rfl
    have E45 : Hid ((w4.alloc (.cells #[.slice ua28 un29 uc30, .slice ta31 tn32 tc33] 28)).heap.size = w4.heap.size + 1) := by show _ = _; simp
    have cc46 : (w4.alloc (.cells #[.slice ua28 un29 uc30, .slice ta31 tn32 tc33] 28)).cell? ⟨w.heap.size, 0, none⟩ = some (.slice ua0 un0 uc0) := K42.out.1
    have cc47 : (w4.alloc (.cells #[.slice ua28 un29 uc30, .slice ta31 tn32 tc33] 28)).cell? ⟨w.heap.size, 1, none⟩ = some (.slice ta0 tn0 tc0) := K42.out.2
    have cc48 : (w4.alloc (.cells #[.slice ua28 un29 uc30, .slice ta31 tn32 tc33] 28)).cell? ⟨w4.heap.size, 0, none⟩ = some (.slice ua28 un29 uc30) := K44.out.1
    have cc49 : (w4.alloc (.cells #[.slice ua28 un29 uc30, .slice ta31 tn32 tc33] 28)).cell? ⟨w4.heap.size, 1, none⟩ = some (.slice ta31 tn32 tc33) := K44.out.2
    go_wp2_with fail
    refine (Rfn.impl_GoodRelation (.slice ua28 un29 uc30) (.slice ta31 tn32 tc33) (ns0, Lls.lplain rs0) _ (Krl.qOwn_is O41.out)).mono ?_
    rintro e w5 ⟨rfl, hb5⟩
    clear cc46 cc47 cc48 cc49
    have Z50 : Hid (w4.heap.size + 1 ≤ w5.heap.size) := (by have hh := hb5.size; rw [E45.out] at hh; exact hh)
    have O51 : Hid (Krl.QOwn w5 (w3.heap.size) (w4.heap.size) (.slice ua28 un29 uc30) (.slice ta31 tn32 tc33) (ns0, Lls.lplain rs0)) := Krl.qOwn_below O41.out hb5
    have K52 : Hid (w5.cell? ⟨w.heap.size, 0, none⟩ = some (.slice ua0 un0 uc0) ∧ w5.cell? ⟨w.heap.size, 1, none⟩ = some (.slice ta0 tn0 tc0)) := ⟨(hb5.cell (p := ⟨w.heap.size, 0, none⟩) (Frame.cell_lt K42.out.1)).trans K42.out.1, (hb5.cell (p := ⟨w.heap.size, 1, none⟩) (Frame.cell_lt K42.out.2)).trans K42.out.2⟩
    have K53 : Hid (w5.cell? ⟨w4.heap.size, 0, none⟩ = some (.slice ua28 un29 uc30) ∧ w5.cell? ⟨w4.heap.size, 1, none⟩ = some (.slice ta31 tn32 tc33)) := ⟨(hb5.cell (p := ⟨w4.heap.size, 0, none⟩) (Frame.cell_lt K44.out.1)).trans K44.out.1, (hb5.cell (p := ⟨w4.heap.size, 1, none⟩) (Frame.cell_lt K44.out.2)).trans K44.out.2⟩
    have B54 : Hid (Below w.heap.size w w5) := Frame.next B43.out hb5 B43.out.size
    clear  hb5
    go_wp2_with fail
    have O55 : Hid (Krl.QOwn w5.drew (w3.heap.size) (w4.heap.size) (.slice ua28 un29 uc30) (.slice ta31 tn32 tc33) (ns0, Lls.lplain rs0)) := Krl.qOwn_below O51.out ((Below.refl _ _).drew : Below w5.heap.size w5 w5.drew)
    have K56 : Hid ((w5.drew).cell? ⟨w.heap.size, 0, none⟩ = some (.slice ua0 un0 uc0) ∧ (w5.drew).cell? ⟨w.heap.size, 1, none⟩ = some (.slice ta0 tn0 tc0)) := ⟨(((Below.refl _ _).drew : Below w5.heap.size w5 w5.drew).cell (p := ⟨w.heap.size, 0, none⟩) (Frame.cell_lt K52.out.1)).trans K52.out.1, (((Below.refl _ _).drew : Below w5.heap.size w5 w5.drew).cell (p := ⟨w.heap.size, 1, none⟩) (Frame.cell_lt K52.out.2)).trans K52.out.2⟩
    have K57 : Hid ((w5.drew).cell? ⟨w4.heap.size, 0, none⟩ = some (.slice ua28 un29 uc30) ∧ (w5.drew).cell? ⟨w4.heap.size, 1, none⟩ = some (.slice ta31 tn32 tc33)) := ⟨(((Below.refl _ _).drew : Below w5.heap.size w5 w5.drew).cell (p := ⟨w4.heap.size, 0, none⟩) (Frame.cell_lt K53.out.1)).trans K53.out.1, (((Below.refl _ _).drew : Below w5.heap.size w5 w5.drew).cell (p := ⟨w4.heap.size, 1, none⟩) (Frame.cell_lt K53.out.2)).trans K53.out.2⟩
    have B58 : Hid (Below w.heap.size w w5.drew) := Frame.next B54.out ((Below.refl _ _).drew : Below w5.heap.size w5 w5.drew) B54.out.size
    have E59 : Hid (w5.drew.heap.size = w5.heap.size) := rfl
    have S60 : Hid ((w5.drew).cell? ⟨w.heap.size, 0, none⟩ = some (.slice ua0 un0 uc0) ∧ (w5.drew).cell? ⟨w.heap.size, 1, none⟩ = some (.slice ta0 tn0 tc0) ∧ (w5.drew).cell? ⟨w4.heap.size, 0, none⟩ = some (.slice ua28 un29 uc30) ∧ (w5.drew).cell? ⟨w4.heap.size, 1, none⟩ = some (.slice ta31 tn32 tc33)) := ⟨K56.out.1, K56.out.2, K57.out.1, K57.out.2⟩
    go_region_held3 (fun w' => (w').cell? ⟨w.heap.size, 0, none⟩ = some (.slice ua0 un0 uc0) ∧ (w').cell? ⟨w.heap.size, 1, none⟩ = some (.slice ta0 tn0 tc0) ∧ (w').cell? ⟨w4.heap.size, 0, none⟩ = some (.slice ua28 un29 uc30) ∧ (w').cell? ⟨w4.heap.size, 1, none⟩ = some (.slice ta31 tn32 tc33)) (first | exact S60.out | exact S73.out | exact S81.out) (first | (go_at_call 8; refine (Krl.q_to6 (.slice ua0 un0 uc0) (.slice ta0 tn0 tc0) (ns0, Lls.lplain rs0) _ (Krl.qIs_below A0.out B58.out)).mono ?_; rintro e w6 ⟨ua61, un62, uc63, ta64, tn65, tc66, rfl, ho, hb6⟩; have O67 : Hid (Krl.QOwn w6 (w5.heap.size) (w6.heap.size) (.slice ua61 un62 uc63) (.slice ta64 tn65 tc66) (ns0, Lls.lplain rs0)) := (by have hh := ho; rw [E59.out] at hh; exact hh); have Z68 : Hid (w5.heap.size ≤ w6.heap.size) := (by have hh := hb6.size; rw [E59.out] at hh; exact hh); have O69 : Hid (Krl.QOwn w6 (w3.heap.size) (w4.heap.size) (.slice ua28 un29 uc30) (.slice ta31 tn32 tc33) (ns0, Lls.lplain rs0)) := Krl.qOwn_below O55.out hb6; have K70 : Hid (w6.cell? ⟨w.heap.size, 0, none⟩ = some (.slice ua0 un0 uc0) ∧ w6.cell? ⟨w.heap.size, 1, none⟩ = some (.slice ta0 tn0 tc0)) := ⟨(hb6.cell (p := ⟨w.heap.size, 0, none⟩) (Frame.cell_lt K56.out.1)).trans K56.out.1, (hb6.cell (p := ⟨w.heap.size, 1, none⟩) (Frame.cell_lt K56.out.2)).trans K56.out.2⟩; have K71 : Hid (w6.cell? ⟨w4.heap.size, 0, none⟩ = some (.slice ua28 un29 uc30) ∧ w6.cell? ⟨w4.heap.size, 1, none⟩ = some (.slice ta31 tn32 tc33)) := ⟨(hb6.cell (p := ⟨w4.heap.size, 0, none⟩) (Frame.cell_lt K57.out.1)).trans K57.out.1, (hb6.cell (p := ⟨w4.heap.size, 1, none⟩) (Frame.cell_lt K57.out.2)).trans K57.out.2⟩; have B72 : Hid (Below w.heap.size w w6) := Frame.next B58.out hb6 B58.out.size; clear ho hb6; have S73 : Hid (w6.cell? ⟨w.heap.size, 0, none⟩ = some (.slice ua0 un0 uc0) ∧ w6.cell? ⟨w.heap.size, 1, none⟩ = some (.slice ta0 tn0 tc0) ∧ w6.cell? ⟨w4.heap.size, 0, none⟩ = some (.slice ua28 un29 uc30) ∧ w6.cell? ⟨w4.heap.size, 1, none⟩ = some (.slice ta31 tn32 tc33)) := ⟨K70.out.1, K70.out.2, K71.out.1, K71.out.2⟩) | (go_at_call 10; refine (Krl.q_eq (.slice ua28 un29 uc30) (.slice ta31 tn32 tc33) (.slice ua61 un62 uc63) (.slice ta64 tn65 tc66) (ns0, Lls.lplain rs0) (ns0, Lls.lplain rs0) _ (Krl.qOwn_is O69.out) (Krl.qOwn_is O67.out)).mono ?_; rintro e w7 ⟨rfl, hb7⟩; rw [decide_eq_true (Eq.refl ((ns0, Lls.lplain rs0)))]; have Z75 : Hid (w6.heap.size ≤ w7.heap.size) := hb7.size; have O76 : Hid (Krl.QOwn w7 (w3.heap.size) (w4.heap.size) (.slice ua28 un29 uc30) (.slice ta31 tn32 tc33) (ns0, Lls.lplain rs0)) := Krl.qOwn_below O69.out hb7; have O77 : Hid (Krl.QOwn w7 (w5.heap.size) (w6.heap.size) (.slice ua61 un62 uc63) (.slice ta64 tn65 tc66) (ns0, Lls.lplain rs0)) := Krl.qOwn_below O67.out hb7; have K78 : Hid (w7.cell? ⟨w.heap.size, 0, none⟩ = some (.slice ua0 un0 uc0) ∧ w7.cell? ⟨w.heap.size, 1, none⟩ = some (.slice ta0 tn0 tc0)) := ⟨(hb7.cell (p := ⟨w.heap.size, 0, none⟩) (Frame.cell_lt K70.out.1)).trans K70.out.1, (hb7.cell (p := ⟨w.heap.size, 1, none⟩) (Frame.cell_lt K70.out.2)).trans K70.out.2⟩; have K79 : Hid (w7.cell? ⟨w4.heap.size, 0, none⟩ = some (.slice ua28 un29 uc30) ∧ w7.cell? ⟨w4.heap.size, 1, none⟩ = some (.slice ta31 tn32 tc33)) := ⟨(hb7.cell (p := ⟨w4.heap.size, 0, none⟩) (Frame.cell_lt K71.out.1)).trans K71.out.1, (hb7.cell (p := ⟨w4.heap.size, 1, none⟩) (Frame.cell_lt K71.out.2)).trans K71.out.2⟩; have B80 : Hid (Below w.heap.size w w7) := Frame.next B72.out hb7 B72.out.size; clear hb7; have S81 : Hid (w7.cell? ⟨w.heap.size, 0, none⟩ = some (.slice ua0 un0 uc0) ∧ w7.cell? ⟨w.heap.size, 1, none⟩ = some (.slice ta0 tn0 tc0) ∧ w7.cell? ⟨w4.heap.size, 0, none⟩ = some (.slice ua28 un29 uc30) ∧ w7.cell? ⟨w4.heap.size, 1, none⟩ = some (.slice ta31 tn32 tc33)) := ⟨K78.out.1, K78.out.2, K79.out.1, K79.out.2⟩))
    go_wp2
    go_ret
    exact ⟨rfl, B80.out⟩

set_option maxRecDepth 100000 in
theorem contract (H : Type) (enc : TypeId × Value → H) (W : World) (base : Nat) (args : Array Value) (ds gs : List (DataW H)) (before : List MemPlace)
    (hval0 : ∀ (j : Nat) t v, Try.f3.params[j]? = some t → args[j]? = some v → Value.okWide Try.prog W .any base t v)
    (hW : DataW.Whole enc Try.prog Try.f3.params.toList Rows.fnExactGoodRelationSpec.vars false W args.toList ds gs before) :
    Calls Try.prog 3 args W fun e W' => ∃ v, e = .returned v ∧ Rows.fnExactGoodRelationSpec.post enc Try.prog Try.f3 false true false false W args v W' := by
  refine Frame.law_calls (tb := 4) laidOut (by kernel_rfl) (by kernel_rfl) (by kernel_rfl) Try.underlying4 hW (fun ds gs h1 h2 => ?_) ?_
  · rw [Try.params3] at h1
    match ds, gs, h1, h2 with
    | [_], [], _, _ => rfl
  · obtain ⟨p, q, hA0, _, _, _, _⟩ := hW
    have hval : ∀ (j : Nat) t v, Try.f3.params[j]? = some t → args[j]? = some v → Value.okWide Try.prog W .any base t v := hval0
    have hA : DataW.TrodAll enc Try.prog W 0 (fun _ => true) true Try.f3.params.toList args.toList ds p := hA0
    rw [Try.params3] at hA hval
    obtain ⟨v0, vs0, d0, ds0, p0, q0, hargs, rfl, rfl, h0, r0⟩ := trodAll_cons hA
    obtain ⟨rfl, rfl, rfl⟩ := trodAll_nil r0
    obtain rfl : args = #[v0] := by cases args; simp_all
    obtain ⟨ua0, un0, uc0, ns0, ta0, tn0, tc0, rs0, rfl, wu0, wt0⟩ := Opr.relation_of (hval 0 25 v0 rfl rfl) h0
    exact walk ua0 un0 uc0 ns0 ta0 tn0 tc0 rs0 W wu0 wt0

set_option maxRecDepth 100000 in
theorem lifted (os : Os) (started : os.Started) (H : Type) (enc : TypeId × Value → H) :
    ReturnsInHanded {} Try.checked os 3 .any (Rows.fnExactGoodRelationSpec.pre6 enc Try.prog Try.f3 Rows.fnExactGoodRelationRow.domain false) (Rows.fnExactGoodRelationSpec.post enc Try.prog Try.f3 false true false false) := by
  refine returnsInHanded_of_change (C := Try.checked) own started (by kernel_rfl) Try.func3
    (ChangeSpec.witness6 (enc := enc) (C := Try.checked) false ⟨#[], #[.agg #[.slice none 0 0, .slice none 0 0]], []⟩ 8 (by kernel_rfl) (by kernel_rfl) (by kernel_rfl) (by kernel_rfl)) ?_
  intro W base args ds gs before hval hW _ _
  exact contract H enc W base args ds gs before hval hW

/-- The statement. -/
theorem proved : Rows.FnExactGoodRelationSaid :=
  OpenClaim.holds_of_wide 3 Try.f3 rfl rfl rfl rfl rfl rfl rfl ⟨rfl, rfl, rfl, rfl, rfl⟩ rfl rfl rfl rfl rfl (by kernel_rfl) Try.func3 (by kernel_rfl)
    (of_decide_eq_true (by kernel_rfl)) (by unfold Func.isWrapper; first | (rw [if_pos (by decide +kernel)]; kernel_rfl) | (rw [if_neg (by decide +kernel)]; exact ⟨rfl, rfl⟩))
    (fun os started H enc _ => lifted os started H enc)
#print axioms proved

end Go.Proofs.Yteihhpjneeaiaaa.fnExactGoodRelation
