/-
  Proved: at every argument the law FnExactProject returns true, and its arguments read afterwards as they did.
-/
import Derived.Test.YteihhpjneeaiaaaFrame
import Derived.Test.YteihhpjneeaiaaaRfn
import Derived.Test.YteihhpjneeaiaaaOpr
namespace Go.Proofs.Yteihhpjneeaiaaa.fnExactProject
open Go.ChangeShapes Go.WideShapes Go.ChangeAt Go.RowKit

theorem own : ownKnob Try.prog.godebug = none := by kernel_rfl
theorem laidOut : laidOutB Try.prog = true := by kernel_rfl

open Go.Proofs.Yteihhpjneeaiaaa.Kep

set_option maxRecDepth 100000 in
set_option maxHeartbeats 4000000 in
theorem walk (ua0 : Option Addr) (un0 uc0 : Nat) (ns0 : List Int) (ta0 : Option Addr) (tn0 tc0 : Nat) (rs0 : List Lls.LV) (a1 : Option Addr) (n1 c1 : Nat) (zs1 : List Int) (w : World) (hu0 : Frame.IsRow .i64 w ua0 un0 uc0 ns0) (ht0 : Lls.IsLs w ta0 tn0 tc0 rs0) (h1 : Frame.IsRow .i64 w a1 n1 c1 zs1) :
    Calls Try.prog 4 #[.agg #[.slice ua0 un0 uc0, .slice ta0 tn0 tc0], .slice a1 n1 c1] w fun e w' => e = .returned (.bool true) ∧ Below w.heap.size w w' := by
  have HU0 : Hid (Frame.IsRow .i64 w ua0 un0 uc0 ns0) := hu0
  have HT0 : Hid (Lls.IsLs w ta0 tn0 tc0 rs0) := ht0
  clear hu0 ht0
  have HR1 : Hid (Frame.IsRow .i64 w a1 n1 c1 zs1) := h1
  have hmx1 : n1 ≤ 9223372036854775807 := by have := h1.fits; have := h1.max; unfold maxLen at *; omega
  clear h1
  have B0 : Hid (Below w.heap.size w w) := Below.refl _ _
  have B1 : Hid (Below w.heap.size w (w.alloc (.cells #[.slice ua0 un0 uc0, .slice ta0 tn0 tc0] 25))) := B0.out.alloc (by simp; try omega) _
  have K2 : Hid ((w.alloc (.cells #[.slice ua0 un0 uc0, .slice ta0 tn0 tc0] 25)).cell? ⟨w.heap.size, 0, none⟩ = some (.slice ua0 un0 uc0) ∧ (w.alloc (.cells #[.slice ua0 un0 uc0, .slice ta0 tn0 tc0] 25)).cell? ⟨w.heap.size, 1, none⟩ = some (.slice ta0 tn0 tc0)) := by
    show _ ∧ _
    refine ⟨?_, ?_⟩ <;> rw [World.cell?_alloc_at _ _ _ _ (by simp)] <;> rfl
  have E3 : Hid ((w.alloc (.cells #[.slice ua0 un0 uc0, .slice ta0 tn0 tc0] 25)).heap.size = w.heap.size + 1) := by show _ = _; simp
  go_enter Try.func4, Try.ntmps4
  by_cases hN1 : 1048576 < n1
  · have hNI1 : (1048576 : Int) < (n1 : Int) := by omega
    go_wp2
    go_ret
    exact ⟨rfl, B1.out⟩
  · have A1 : Hid (Kep.IIs w (.slice a1 n1 c1) zs1) := ⟨_, _, _, rfl, HR1.out, by omega⟩
    have hNJ1 : ¬ (1048576 : Int) < (n1 : Int) := by omega
    have cc4 : (w.alloc (.cells #[.slice ua0 un0 uc0, .slice ta0 tn0 tc0] 25)).cell? ⟨w.heap.size, 0, none⟩ = some (.slice ua0 un0 uc0) := K2.out.1
    have cc5 : (w.alloc (.cells #[.slice ua0 un0 uc0, .slice ta0 tn0 tc0] 25)).cell? ⟨w.heap.size, 1, none⟩ = some (.slice ta0 tn0 tc0) := K2.out.2
    go_wp2_with fail
    refine (Krl.q_sz ua0 ta0 un0 uc0 tn0 tc0 rs0 1048576 _ (Nat.le_trans HU0.out.fits HU0.out.max) (HT0.out.below B1.out) (by omega) (by omega)).mono ?_
    rintro e w1 ⟨rfl, hb1⟩
    clear cc4 cc5
    have Z6 : Hid (w.heap.size + 1 ≤ w1.heap.size) := (by have hh := hb1.size; rw [E3.out] at hh; exact hh)
    have K7 : Hid (w1.cell? ⟨w.heap.size, 0, none⟩ = some (.slice ua0 un0 uc0) ∧ w1.cell? ⟨w.heap.size, 1, none⟩ = some (.slice ta0 tn0 tc0)) := ⟨(hb1.cell (p := ⟨w.heap.size, 0, none⟩) (Frame.cell_lt K2.out.1)).trans K2.out.1, (hb1.cell (p := ⟨w.heap.size, 1, none⟩) (Frame.cell_lt K2.out.2)).trans K2.out.2⟩
    have B8 : Hid (Below w.heap.size w w1) := Frame.next B1.out hb1 B1.out.size
    clear hb1
    by_cases hL1 : Lls.left 1048576 ((un0 : Int) + Lls.totalL rs0) < 0
    · go_wp2
      go_ret
      exact ⟨rfl, B8.out⟩
    · have ht0 : un0 ≤ 1048576 ∧ Lls.totalL rs0 ≤ 1048576 := by have hq := Krl.total_nonneg rs0; unfold Lls.left at hL1; split at hL1 <;> omega
      have A0 : Hid (Krl.QIs w (.slice ua0 un0 uc0) (.slice ta0 tn0 tc0) (ns0, Lls.lplain rs0)) := ⟨⟨_, _, _, rfl, HU0.out, ht0.1⟩, _, _, _, _, rfl, HT0.out, rfl, ht0.2⟩
      have hB1 : Lls.left 1048576 ((un0 : Int) + Lls.totalL rs0) ≤ 1048576 := Krl.left_le _ _ (by have hq := Krl.total_nonneg rs0; omega) (by omega)
      clear ht0
      generalize hG1 : Lls.left 1048576 ((un0 : Int) + Lls.totalL rs0) = L9 at hL1 hB1 ⊢
      clear hG1
      have cc16 : w1.cell? ⟨w.heap.size, 0, none⟩ = some (.slice ua0 un0 uc0) := K7.out.1
      have cc17 : w1.cell? ⟨w.heap.size, 1, none⟩ = some (.slice ta0 tn0 tc0) := K7.out.2
      go_wp2_with fail
      refine (Krl.q_to6 (.slice ua0 un0 uc0) (.slice ta0 tn0 tc0) (ns0, Lls.lplain rs0) _ (Krl.qIs_below A0.out B8.out)).mono ?_
      rintro e w2 ⟨ua10, un11, uc12, ta13, tn14, tc15, rfl, ho, hb2⟩
      clear cc16 cc17
      have O18 : Hid (Krl.QOwn w2 (w1.heap.size) (w2.heap.size) (.slice ua10 un11 uc12) (.slice ta13 tn14 tc15) (ns0, Lls.lplain rs0)) := ho
      have Z19 : Hid (w1.heap.size ≤ w2.heap.size) := hb2.size
      have K20 : Hid (w2.cell? ⟨w.heap.size, 0, none⟩ = some (.slice ua0 un0 uc0) ∧ w2.cell? ⟨w.heap.size, 1, none⟩ = some (.slice ta0 tn0 tc0)) := ⟨(hb2.cell (p := ⟨w.heap.size, 0, none⟩) (Frame.cell_lt K7.out.1)).trans K7.out.1, (hb2.cell (p := ⟨w.heap.size, 1, none⟩) (Frame.cell_lt K7.out.2)).trans K7.out.2⟩
      have B21 : Hid (Below w.heap.size w w2) := Frame.next B8.out hb2 B8.out.size
      clear ho hb2
      have cc24 : w2.cell? ⟨w.heap.size, 0, none⟩ = some (.slice ua0 un0 uc0) := K20.out.1
      have cc25 : w2.cell? ⟨w.heap.size, 1, none⟩ = some (.slice ta0 tn0 tc0) := K20.out.2
      go_wp2_with fail
      refine (Kep.i_to (.slice a1 n1 c1) zs1 _ (Kep.iIs_below A1.out B21.out)).mono ?_
      rintro e w3 ⟨u23, rfl, ho, hb3⟩
      clear cc24 cc25
      have O26 : Hid (Kep.IOwn w3 (w2.heap.size) (w3.heap.size) u23 zs1) := ho
      have Z27 : Hid (w2.heap.size ≤ w3.heap.size) := hb3.size
      have O28 : Hid (Krl.QOwn w3 (w1.heap.size) (w2.heap.size) (.slice ua10 un11 uc12) (.slice ta13 tn14 tc15) (ns0, Lls.lplain rs0)) := Krl.qOwn_below O18.out hb3
      have K29 : Hid (w3.cell? ⟨w.heap.size, 0, none⟩ = some (.slice ua0 un0 uc0) ∧ w3.cell? ⟨w.heap.size, 1, none⟩ = some (.slice ta0 tn0 tc0)) := ⟨(hb3.cell (p := ⟨w.heap.size, 0, none⟩) (Frame.cell_lt K20.out.1)).trans K20.out.1, (hb3.cell (p := ⟨w.heap.size, 1, none⟩) (Frame.cell_lt K20.out.2)).trans K20.out.2⟩
      have B30 : Hid (Below w.heap.size w w3) := Frame.next B21.out hb3 B21.out.size
      clear ho hb3
      have cc38 : w3.cell? ⟨w.heap.size, 0, none⟩ = some (.slice ua0 un0 uc0) := K29.out.1
      have cc39 : w3.cell? ⟨w.heap.size, 1, none⟩ = some (.slice ta0 tn0 tc0) := K29.out.2
      go_wp2_with fail
      refine (Rfn.spec_Project (.slice ua10 un11 uc12) (.slice ta13 tn14 tc15) u23 (ns0, Lls.lplain rs0) zs1 _ (Krl.qOwn_is O28.out) (Kep.iOwn_is O26.out)).mono ?_
      rintro e w4 ⟨ua32, un33, uc34, ta35, tn36, tc37, rfl, ho0, hb4⟩
      clear cc38 cc39
      have O40 : Hid (Krl.QOwn w4 (w3.heap.size) (w4.heap.size) (.slice ua32 un33 uc34) (.slice ta35 tn36 tc37) (Rel.projectV (ns0, Lls.lplain rs0) zs1)) := ho0
      have Z41 : Hid (w3.heap.size ≤ w4.heap.size) := hb4.size
      have K42 : Hid (w4.cell? ⟨w.heap.size, 0, none⟩ = some (.slice ua0 un0 uc0) ∧ w4.cell? ⟨w.heap.size, 1, none⟩ = some (.slice ta0 tn0 tc0)) := ⟨(hb4.cell (p := ⟨w.heap.size, 0, none⟩) (Frame.cell_lt K29.out.1)).trans K29.out.1, (hb4.cell (p := ⟨w.heap.size, 1, none⟩) (Frame.cell_lt K29.out.2)).trans K29.out.2⟩
      have B43 : Hid (Below w.heap.size w w4) := Frame.next B30.out hb4 B30.out.size
      clear ho0 hb4
      have O44 : Hid (Krl.QOwn (w4.alloc (.cells #[.slice ua32 un33 uc34, .slice ta35 tn36 tc37] 28)) (w3.heap.size) (w4.heap.size) (.slice ua32 un33 uc34) (.slice ta35 tn36 tc37) (Rel.projectV (ns0, Lls.lplain rs0) zs1)) := Krl.qOwn_below O40.out ((Below.refl w4.heap.size w4).alloc (Nat.le_refl _) (.cells #[.slice ua32 un33 uc34, .slice ta35 tn36 tc37] 28))
      have K45 : Hid ((w4.alloc (.cells #[.slice ua32 un33 uc34, .slice ta35 tn36 tc37] 28)).cell? ⟨w.heap.size, 0, none⟩ = some (.slice ua0 un0 uc0) ∧ (w4.alloc (.cells #[.slice ua32 un33 uc34, .slice ta35 tn36 tc37] 28)).cell? ⟨w.heap.size, 1, none⟩ = some (.slice ta0 tn0 tc0)) := ⟨(((Below.refl w4.heap.size w4).alloc (Nat.le_refl _) (.cells #[.slice ua32 un33 uc34, .slice ta35 tn36 tc37] 28)).cell (p := ⟨w.heap.size, 0, none⟩) (Frame.cell_lt K42.out.1)).trans K42.out.1, (((Below.refl w4.heap.size w4).alloc (Nat.le_refl _) (.cells #[.slice ua32 un33 uc34, .slice ta35 tn36 tc37] 28)).cell (p := ⟨w.heap.size, 1, none⟩) (Frame.cell_lt K42.out.2)).trans K42.out.2⟩
      have B46 : Hid (Below w.heap.size w (w4.alloc (.cells #[.slice ua32 un33 uc34, .slice ta35 tn36 tc37] 28))) := Frame.next B43.out ((Below.refl w4.heap.size w4).alloc (Nat.le_refl _) (.cells #[.slice ua32 un33 uc34, .slice ta35 tn36 tc37] 28)) B43.out.size
      have K47 : Hid ((w4.alloc (.cells #[.slice ua32 un33 uc34, .slice ta35 tn36 tc37] 28)).cell? ⟨w4.heap.size, 0, none⟩ = some (.slice ua32 un33 uc34) ∧ (w4.alloc (.cells #[.slice ua32 un33 uc34, .slice ta35 tn36 tc37] 28)).cell? ⟨w4.heap.size, 1, none⟩ = some (.slice ta35 tn36 tc37)) := by
        show _ ∧ _
        refine ⟨?_, ?_⟩ <;> rw [World.cell?_alloc_at _ _ _ _ rfl] <;> rfl
      have E48 : Hid ((w4.alloc (.cells #[.slice ua32 un33 uc34, .slice ta35 tn36 tc37] 28)).heap.size = w4.heap.size + 1) := by show _ = _; simp
      have cc55 : (w4.alloc (.cells #[.slice ua32 un33 uc34, .slice ta35 tn36 tc37] 28)).cell? ⟨w.heap.size, 0, none⟩ = some (.slice ua0 un0 uc0) := K45.out.1
      have cc56 : (w4.alloc (.cells #[.slice ua32 un33 uc34, .slice ta35 tn36 tc37] 28)).cell? ⟨w.heap.size, 1, none⟩ = some (.slice ta0 tn0 tc0) := K45.out.2
      have cc57 : (w4.alloc (.cells #[.slice ua32 un33 uc34, .slice ta35 tn36 tc37] 28)).cell? ⟨w4.heap.size, 0, none⟩ = some (.slice ua32 un33 uc34) := K47.out.1
      have cc58 : (w4.alloc (.cells #[.slice ua32 un33 uc34, .slice ta35 tn36 tc37] 28)).cell? ⟨w4.heap.size, 1, none⟩ = some (.slice ta35 tn36 tc37) := K47.out.2
      go_wp2_with fail
      refine (Krl.q_to6 (.slice ua0 un0 uc0) (.slice ta0 tn0 tc0) (ns0, Lls.lplain rs0) _ (Krl.qIs_below A0.out B46.out)).mono ?_
      rintro e w5 ⟨ua49, un50, uc51, ta52, tn53, tc54, rfl, ho, hb5⟩
      clear cc55 cc56 cc57 cc58
      have O59 : Hid (Krl.QOwn w5 (w4.heap.size + 1) (w5.heap.size) (.slice ua49 un50 uc51) (.slice ta52 tn53 tc54) (ns0, Lls.lplain rs0)) := (by have hh := ho; rw [E48.out] at hh; exact hh)
      have Z60 : Hid (w4.heap.size + 1 ≤ w5.heap.size) := (by have hh := hb5.size; rw [E48.out] at hh; exact hh)
      have O61 : Hid (Krl.QOwn w5 (w3.heap.size) (w4.heap.size) (.slice ua32 un33 uc34) (.slice ta35 tn36 tc37) (Rel.projectV (ns0, Lls.lplain rs0) zs1)) := Krl.qOwn_below O44.out hb5
      have K62 : Hid (w5.cell? ⟨w.heap.size, 0, none⟩ = some (.slice ua0 un0 uc0) ∧ w5.cell? ⟨w.heap.size, 1, none⟩ = some (.slice ta0 tn0 tc0)) := ⟨(hb5.cell (p := ⟨w.heap.size, 0, none⟩) (Frame.cell_lt K45.out.1)).trans K45.out.1, (hb5.cell (p := ⟨w.heap.size, 1, none⟩) (Frame.cell_lt K45.out.2)).trans K45.out.2⟩
      have K63 : Hid (w5.cell? ⟨w4.heap.size, 0, none⟩ = some (.slice ua32 un33 uc34) ∧ w5.cell? ⟨w4.heap.size, 1, none⟩ = some (.slice ta35 tn36 tc37)) := ⟨(hb5.cell (p := ⟨w4.heap.size, 0, none⟩) (Frame.cell_lt K47.out.1)).trans K47.out.1, (hb5.cell (p := ⟨w4.heap.size, 1, none⟩) (Frame.cell_lt K47.out.2)).trans K47.out.2⟩
      have B64 : Hid (Below w.heap.size w w5) := Frame.next B46.out hb5 B46.out.size
      clear ho hb5
      have O66 : Hid (Krl.QOwn (w5.alloc (.cells #[.slice ua49 un50 uc51, .slice ta52 tn53 tc54] 28)) (w3.heap.size) (w4.heap.size) (.slice ua32 un33 uc34) (.slice ta35 tn36 tc37) (Rel.projectV (ns0, Lls.lplain rs0) zs1)) := Krl.qOwn_below O61.out ((Below.refl w5.heap.size w5).alloc (Nat.le_refl _) (.cells #[.slice ua49 un50 uc51, .slice ta52 tn53 tc54] 28))
      have O67 : Hid (Krl.QOwn (w5.alloc (.cells #[.slice ua49 un50 uc51, .slice ta52 tn53 tc54] 28)) (w4.heap.size + 1) (w5.heap.size) (.slice ua49 un50 uc51) (.slice ta52 tn53 tc54) (ns0, Lls.lplain rs0)) := Krl.qOwn_below O59.out ((Below.refl w5.heap.size w5).alloc (Nat.le_refl _) (.cells #[.slice ua49 un50 uc51, .slice ta52 tn53 tc54] 28))
      have K68 : Hid ((w5.alloc (.cells #[.slice ua49 un50 uc51, .slice ta52 tn53 tc54] 28)).cell? ⟨w.heap.size, 0, none⟩ = some (.slice ua0 un0 uc0) ∧ (w5.alloc (.cells #[.slice ua49 un50 uc51, .slice ta52 tn53 tc54] 28)).cell? ⟨w.heap.size, 1, none⟩ = some (.slice ta0 tn0 tc0)) := ⟨(((Below.refl w5.heap.size w5).alloc (Nat.le_refl _) (.cells #[.slice ua49 un50 uc51, .slice ta52 tn53 tc54] 28)).cell (p := ⟨w.heap.size, 0, none⟩) (Frame.cell_lt K62.out.1)).trans K62.out.1, (((Below.refl w5.heap.size w5).alloc (Nat.le_refl _) (.cells #[.slice ua49 un50 uc51, .slice ta52 tn53 tc54] 28)).cell (p := ⟨w.heap.size, 1, none⟩) (Frame.cell_lt K62.out.2)).trans K62.out.2⟩
      have K69 : Hid ((w5.alloc (.cells #[.slice ua49 un50 uc51, .slice ta52 tn53 tc54] 28)).cell? ⟨w4.heap.size, 0, none⟩ = some (.slice ua32 un33 uc34) ∧ (w5.alloc (.cells #[.slice ua49 un50 uc51, .slice ta52 tn53 tc54] 28)).cell? ⟨w4.heap.size, 1, none⟩ = some (.slice ta35 tn36 tc37)) := ⟨(((Below.refl w5.heap.size w5).alloc (Nat.le_refl _) (.cells #[.slice ua49 un50 uc51, .slice ta52 tn53 tc54] 28)).cell (p := ⟨w4.heap.size, 0, none⟩) (Frame.cell_lt K63.out.1)).trans K63.out.1, (((Below.refl w5.heap.size w5).alloc (Nat.le_refl _) (.cells #[.slice ua49 un50 uc51, .slice ta52 tn53 tc54] 28)).cell (p := ⟨w4.heap.size, 1, none⟩) (Frame.cell_lt K63.out.2)).trans K63.out.2⟩
      have B70 : Hid (Below w.heap.size w (w5.alloc (.cells #[.slice ua49 un50 uc51, .slice ta52 tn53 tc54] 28))) := Frame.next B64.out ((Below.refl w5.heap.size w5).alloc (Nat.le_refl _) (.cells #[.slice ua49 un50 uc51, .slice ta52 tn53 tc54] 28)) B64.out.size
      have K71 : Hid ((w5.alloc (.cells #[.slice ua49 un50 uc51, .slice ta52 tn53 tc54] 28)).cell? ⟨w5.heap.size, 0, none⟩ = some (.slice ua49 un50 uc51) ∧ (w5.alloc (.cells #[.slice ua49 un50 uc51, .slice ta52 tn53 tc54] 28)).cell? ⟨w5.heap.size, 1, none⟩ = some (.slice ta52 tn53 tc54)) := by
        show _ ∧ _
        refine ⟨?_, ?_⟩ <;> rw [World.cell?_alloc_at _ _ _ _ rfl] <;> rfl
      have E72 : Hid ((w5.alloc (.cells #[.slice ua49 un50 uc51, .slice ta52 tn53 tc54] 28)).heap.size = w5.heap.size + 1) := by show _ = _; simp
      have cc74 : (w5.alloc (.cells #[.slice ua49 un50 uc51, .slice ta52 tn53 tc54] 28)).cell? ⟨w.heap.size, 0, none⟩ = some (.slice ua0 un0 uc0) := K68.out.1
      have cc75 : (w5.alloc (.cells #[.slice ua49 un50 uc51, .slice ta52 tn53 tc54] 28)).cell? ⟨w.heap.size, 1, none⟩ = some (.slice ta0 tn0 tc0) := K68.out.2
      have cc76 : (w5.alloc (.cells #[.slice ua49 un50 uc51, .slice ta52 tn53 tc54] 28)).cell? ⟨w4.heap.size, 0, none⟩ = some (.slice ua32 un33 uc34) := K69.out.1
      have cc77 : (w5.alloc (.cells #[.slice ua49 un50 uc51, .slice ta52 tn53 tc54] 28)).cell? ⟨w4.heap.size, 1, none⟩ = some (.slice ta35 tn36 tc37) := K69.out.2
      have cc78 : (w5.alloc (.cells #[.slice ua49 un50 uc51, .slice ta52 tn53 tc54] 28)).cell? ⟨w5.heap.size, 0, none⟩ = some (.slice ua49 un50 uc51) := K71.out.1
      have cc79 : (w5.alloc (.cells #[.slice ua49 un50 uc51, .slice ta52 tn53 tc54] 28)).cell? ⟨w5.heap.size, 1, none⟩ = some (.slice ta52 tn53 tc54) := K71.out.2
      go_wp2_with fail
      refine (Kep.i_to (.slice a1 n1 c1) zs1 _ (Kep.iIs_below A1.out B70.out)).mono ?_
      rintro e w6 ⟨u73, rfl, ho, hb6⟩
      clear cc74 cc75 cc76 cc77 cc78 cc79
      have O80 : Hid (Kep.IOwn w6 (w5.heap.size + 1) (w6.heap.size) u73 zs1) := (by have hh := ho; rw [E72.out] at hh; exact hh)
      have Z81 : Hid (w5.heap.size + 1 ≤ w6.heap.size) := (by have hh := hb6.size; rw [E72.out] at hh; exact hh)
      have O82 : Hid (Krl.QOwn w6 (w3.heap.size) (w4.heap.size) (.slice ua32 un33 uc34) (.slice ta35 tn36 tc37) (Rel.projectV (ns0, Lls.lplain rs0) zs1)) := Krl.qOwn_below O66.out hb6
      have O83 : Hid (Krl.QOwn w6 (w4.heap.size + 1) (w5.heap.size) (.slice ua49 un50 uc51) (.slice ta52 tn53 tc54) (ns0, Lls.lplain rs0)) := Krl.qOwn_below O67.out hb6
      have K84 : Hid (w6.cell? ⟨w.heap.size, 0, none⟩ = some (.slice ua0 un0 uc0) ∧ w6.cell? ⟨w.heap.size, 1, none⟩ = some (.slice ta0 tn0 tc0)) := ⟨(hb6.cell (p := ⟨w.heap.size, 0, none⟩) (Frame.cell_lt K68.out.1)).trans K68.out.1, (hb6.cell (p := ⟨w.heap.size, 1, none⟩) (Frame.cell_lt K68.out.2)).trans K68.out.2⟩
      have K85 : Hid (w6.cell? ⟨w4.heap.size, 0, none⟩ = some (.slice ua32 un33 uc34) ∧ w6.cell? ⟨w4.heap.size, 1, none⟩ = some (.slice ta35 tn36 tc37)) := ⟨(hb6.cell (p := ⟨w4.heap.size, 0, none⟩) (Frame.cell_lt K69.out.1)).trans K69.out.1, (hb6.cell (p := ⟨w4.heap.size, 1, none⟩) (Frame.cell_lt K69.out.2)).trans K69.out.2⟩
      have K86 : Hid (w6.cell? ⟨w5.heap.size, 0, none⟩ = some (.slice ua49 un50 uc51) ∧ w6.cell? ⟨w5.heap.size, 1, none⟩ = some (.slice ta52 tn53 tc54)) := ⟨(hb6.cell (p := ⟨w5.heap.size, 0, none⟩) (Frame.cell_lt K71.out.1)).trans K71.out.1, (hb6.cell (p := ⟨w5.heap.size, 1, none⟩) (Frame.cell_lt K71.out.2)).trans K71.out.2⟩
      have B87 : Hid (Below w.heap.size w w6) := Frame.next B70.out hb6 B70.out.size
      clear ho hb6
      have cc95 : w6.cell? ⟨w.heap.size, 0, none⟩ = some (.slice ua0 un0 uc0) := K84.out.1
      have cc96 : w6.cell? ⟨w.heap.size, 1, none⟩ = some (.slice ta0 tn0 tc0) := K84.out.2
      have cc97 : w6.cell? ⟨w4.heap.size, 0, none⟩ = some (.slice ua32 un33 uc34) := K85.out.1
      have cc98 : w6.cell? ⟨w4.heap.size, 1, none⟩ = some (.slice ta35 tn36 tc37) := K85.out.2
      have cc99 : w6.cell? ⟨w5.heap.size, 0, none⟩ = some (.slice ua49 un50 uc51) := K86.out.1
      have cc100 : w6.cell? ⟨w5.heap.size, 1, none⟩ = some (.slice ta52 tn53 tc54) := K86.out.2
      go_wp2_with fail
      refine (Rfn.impl_Project (.slice ua49 un50 uc51) (.slice ta52 tn53 tc54) u73 (ns0, Lls.lplain rs0) zs1 _ (Krl.qOwn_is O83.out) (Kep.iOwn_is O80.out)).mono ?_
      rintro e w7 ⟨ua89, un90, uc91, ta92, tn93, tc94, rfl, ho0, hb7⟩
      clear cc95 cc96 cc97 cc98 cc99 cc100
      have O101 : Hid (Krl.QOwn w7 (w6.heap.size) (w7.heap.size) (.slice ua89 un90 uc91) (.slice ta92 tn93 tc94) (Rel.projectV (ns0, Lls.lplain rs0) zs1)) := ho0
      have Z102 : Hid (w6.heap.size ≤ w7.heap.size) := hb7.size
      have O103 : Hid (Krl.QOwn w7 (w3.heap.size) (w4.heap.size) (.slice ua32 un33 uc34) (.slice ta35 tn36 tc37) (Rel.projectV (ns0, Lls.lplain rs0) zs1)) := Krl.qOwn_below O82.out hb7
      have O104 : Hid (Krl.QOwn w7 (w4.heap.size + 1) (w5.heap.size) (.slice ua49 un50 uc51) (.slice ta52 tn53 tc54) (ns0, Lls.lplain rs0)) := Krl.qOwn_below O83.out hb7
      have O105 : Hid (Kep.IOwn w7 (w5.heap.size + 1) (w6.heap.size) u73 zs1) := Kep.iOwn_below O80.out hb7
      have K106 : Hid (w7.cell? ⟨w.heap.size, 0, none⟩ = some (.slice ua0 un0 uc0) ∧ w7.cell? ⟨w.heap.size, 1, none⟩ = some (.slice ta0 tn0 tc0)) := ⟨(hb7.cell (p := ⟨w.heap.size, 0, none⟩) (Frame.cell_lt K84.out.1)).trans K84.out.1, (hb7.cell (p := ⟨w.heap.size, 1, none⟩) (Frame.cell_lt K84.out.2)).trans K84.out.2⟩
      have K107 : Hid (w7.cell? ⟨w4.heap.size, 0, none⟩ = some (.slice ua32 un33 uc34) ∧ w7.cell? ⟨w4.heap.size, 1, none⟩ = some (.slice ta35 tn36 tc37)) := ⟨(hb7.cell (p := ⟨w4.heap.size, 0, none⟩) (Frame.cell_lt K85.out.1)).trans K85.out.1, (hb7.cell (p := ⟨w4.heap.size, 1, none⟩) (Frame.cell_lt K85.out.2)).trans K85.out.2⟩
      have K108 : Hid (w7.cell? ⟨w5.heap.size, 0, none⟩ = some (.slice ua49 un50 uc51) ∧ w7.cell? ⟨w5.heap.size, 1, none⟩ = some (.slice ta52 tn53 tc54)) := ⟨(hb7.cell (p := ⟨w5.heap.size, 0, none⟩) (Frame.cell_lt K86.out.1)).trans K86.out.1, (hb7.cell (p := ⟨w5.heap.size, 1, none⟩) (Frame.cell_lt K86.out.2)).trans K86.out.2⟩
      have B109 : Hid (Below w.heap.size w w7) := Frame.next B87.out hb7 B87.out.size
      clear ho0 hb7
      have O110 : Hid (Krl.QOwn (w7.alloc (.cells #[.slice ua89 un90 uc91, .slice ta92 tn93 tc94] 28)) (w3.heap.size) (w4.heap.size) (.slice ua32 un33 uc34) (.slice ta35 tn36 tc37) (Rel.projectV (ns0, Lls.lplain rs0) zs1)) := Krl.qOwn_below O103.out ((Below.refl w7.heap.size w7).alloc (Nat.le_refl _) (.cells #[.slice ua89 un90 uc91, .slice ta92 tn93 tc94] 28))
      have O111 : Hid (Krl.QOwn (w7.alloc (.cells #[.slice ua89 un90 uc91, .slice ta92 tn93 tc94] 28)) (w4.heap.size + 1) (w5.heap.size) (.slice ua49 un50 uc51) (.slice ta52 tn53 tc54) (ns0, Lls.lplain rs0)) := Krl.qOwn_below O104.out ((Below.refl w7.heap.size w7).alloc (Nat.le_refl _) (.cells #[.slice ua89 un90 uc91, .slice ta92 tn93 tc94] 28))
      have O112 : Hid (Kep.IOwn (w7.alloc (.cells #[.slice ua89 un90 uc91, .slice ta92 tn93 tc94] 28)) (w5.heap.size + 1) (w6.heap.size) u73 zs1) := Kep.iOwn_below O105.out ((Below.refl w7.heap.size w7).alloc (Nat.le_refl _) (.cells #[.slice ua89 un90 uc91, .slice ta92 tn93 tc94] 28))
      have O113 : Hid (Krl.QOwn (w7.alloc (.cells #[.slice ua89 un90 uc91, .slice ta92 tn93 tc94] 28)) (w6.heap.size) (w7.heap.size) (.slice ua89 un90 uc91) (.slice ta92 tn93 tc94) (Rel.projectV (ns0, Lls.lplain rs0) zs1)) := Krl.qOwn_below O101.out ((Below.refl w7.heap.size w7).alloc (Nat.le_refl _) (.cells #[.slice ua89 un90 uc91, .slice ta92 tn93 tc94] 28))
      have K114 : Hid ((w7.alloc (.cells #[.slice ua89 un90 uc91, .slice ta92 tn93 tc94] 28)).cell? ⟨w.heap.size, 0, none⟩ = some (.slice ua0 un0 uc0) ∧ (w7.alloc (.cells #[.slice ua89 un90 uc91, .slice ta92 tn93 tc94] 28)).cell? ⟨w.heap.size, 1, none⟩ = some (.slice ta0 tn0 tc0)) := ⟨(((Below.refl w7.heap.size w7).alloc (Nat.le_refl _) (.cells #[.slice ua89 un90 uc91, .slice ta92 tn93 tc94] 28)).cell (p := ⟨w.heap.size, 0, none⟩) (Frame.cell_lt K106.out.1)).trans K106.out.1, (((Below.refl w7.heap.size w7).alloc (Nat.le_refl _) (.cells #[.slice ua89 un90 uc91, .slice ta92 tn93 tc94] 28)).cell (p := ⟨w.heap.size, 1, none⟩) (Frame.cell_lt K106.out.2)).trans K106.out.2⟩
      have K115 : Hid ((w7.alloc (.cells #[.slice ua89 un90 uc91, .slice ta92 tn93 tc94] 28)).cell? ⟨w4.heap.size, 0, none⟩ = some (.slice ua32 un33 uc34) ∧ (w7.alloc (.cells #[.slice ua89 un90 uc91, .slice ta92 tn93 tc94] 28)).cell? ⟨w4.heap.size, 1, none⟩ = some (.slice ta35 tn36 tc37)) := ⟨(((Below.refl w7.heap.size w7).alloc (Nat.le_refl _) (.cells #[.slice ua89 un90 uc91, .slice ta92 tn93 tc94] 28)).cell (p := ⟨w4.heap.size, 0, none⟩) (Frame.cell_lt K107.out.1)).trans K107.out.1, (((Below.refl w7.heap.size w7).alloc (Nat.le_refl _) (.cells #[.slice ua89 un90 uc91, .slice ta92 tn93 tc94] 28)).cell (p := ⟨w4.heap.size, 1, none⟩) (Frame.cell_lt K107.out.2)).trans K107.out.2⟩
      have K116 : Hid ((w7.alloc (.cells #[.slice ua89 un90 uc91, .slice ta92 tn93 tc94] 28)).cell? ⟨w5.heap.size, 0, none⟩ = some (.slice ua49 un50 uc51) ∧ (w7.alloc (.cells #[.slice ua89 un90 uc91, .slice ta92 tn93 tc94] 28)).cell? ⟨w5.heap.size, 1, none⟩ = some (.slice ta52 tn53 tc54)) := ⟨(((Below.refl w7.heap.size w7).alloc (Nat.le_refl _) (.cells #[.slice ua89 un90 uc91, .slice ta92 tn93 tc94] 28)).cell (p := ⟨w5.heap.size, 0, none⟩) (Frame.cell_lt K108.out.1)).trans K108.out.1, (((Below.refl w7.heap.size w7).alloc (Nat.le_refl _) (.cells #[.slice ua89 un90 uc91, .slice ta92 tn93 tc94] 28)).cell (p := ⟨w5.heap.size, 1, none⟩) (Frame.cell_lt K108.out.2)).trans K108.out.2⟩
      have B117 : Hid (Below w.heap.size w (w7.alloc (.cells #[.slice ua89 un90 uc91, .slice ta92 tn93 tc94] 28))) := Frame.next B109.out ((Below.refl w7.heap.size w7).alloc (Nat.le_refl _) (.cells #[.slice ua89 un90 uc91, .slice ta92 tn93 tc94] 28)) B109.out.size
      have K118 : Hid ((w7.alloc (.cells #[.slice ua89 un90 uc91, .slice ta92 tn93 tc94] 28)).cell? ⟨w7.heap.size, 0, none⟩ = some (.slice ua89 un90 uc91) ∧ (w7.alloc (.cells #[.slice ua89 un90 uc91, .slice ta92 tn93 tc94] 28)).cell? ⟨w7.heap.size, 1, none⟩ = some (.slice ta92 tn93 tc94)) := by
        show _ ∧ _
        refine ⟨?_, ?_⟩ <;> rw [World.cell?_alloc_at _ _ _ _ rfl] <;> rfl
      have E119 : Hid ((w7.alloc (.cells #[.slice ua89 un90 uc91, .slice ta92 tn93 tc94] 28)).heap.size = w7.heap.size + 1) := by show _ = _; simp
      have cc120 : (w7.alloc (.cells #[.slice ua89 un90 uc91, .slice ta92 tn93 tc94] 28)).cell? ⟨w.heap.size, 0, none⟩ = some (.slice ua0 un0 uc0) := K114.out.1
      have cc121 : (w7.alloc (.cells #[.slice ua89 un90 uc91, .slice ta92 tn93 tc94] 28)).cell? ⟨w.heap.size, 1, none⟩ = some (.slice ta0 tn0 tc0) := K114.out.2
      have cc122 : (w7.alloc (.cells #[.slice ua89 un90 uc91, .slice ta92 tn93 tc94] 28)).cell? ⟨w4.heap.size, 0, none⟩ = some (.slice ua32 un33 uc34) := K115.out.1
      have cc123 : (w7.alloc (.cells #[.slice ua89 un90 uc91, .slice ta92 tn93 tc94] 28)).cell? ⟨w4.heap.size, 1, none⟩ = some (.slice ta35 tn36 tc37) := K115.out.2
      have cc124 : (w7.alloc (.cells #[.slice ua89 un90 uc91, .slice ta92 tn93 tc94] 28)).cell? ⟨w5.heap.size, 0, none⟩ = some (.slice ua49 un50 uc51) := K116.out.1
      have cc125 : (w7.alloc (.cells #[.slice ua89 un90 uc91, .slice ta92 tn93 tc94] 28)).cell? ⟨w5.heap.size, 1, none⟩ = some (.slice ta52 tn53 tc54) := K116.out.2
      have cc126 : (w7.alloc (.cells #[.slice ua89 un90 uc91, .slice ta92 tn93 tc94] 28)).cell? ⟨w7.heap.size, 0, none⟩ = some (.slice ua89 un90 uc91) := K118.out.1
      have cc127 : (w7.alloc (.cells #[.slice ua89 un90 uc91, .slice ta92 tn93 tc94] 28)).cell? ⟨w7.heap.size, 1, none⟩ = some (.slice ta92 tn93 tc94) := K118.out.2
      go_wp2_with fail
      refine (Krl.q_eq (.slice ua89 un90 uc91) (.slice ta92 tn93 tc94) (.slice ua32 un33 uc34) (.slice ta35 tn36 tc37) (Rel.projectV (ns0, Lls.lplain rs0) zs1) (Rel.projectV (ns0, Lls.lplain rs0) zs1) _ (Krl.qOwn_is O113.out) (Krl.qOwn_is O110.out)).mono ?_
      rintro e w8 ⟨rfl, hb8⟩
      clear cc120 cc121 cc122 cc123 cc124 cc125 cc126 cc127
      rw [decide_eq_true (Eq.refl ((Rel.projectV (ns0, Lls.lplain rs0) zs1)))]
      have Z128 : Hid (w7.heap.size + 1 ≤ w8.heap.size) := (by have hh := hb8.size; rw [E119.out] at hh; exact hh)
      have O129 : Hid (Krl.QOwn w8 (w3.heap.size) (w4.heap.size) (.slice ua32 un33 uc34) (.slice ta35 tn36 tc37) (Rel.projectV (ns0, Lls.lplain rs0) zs1)) := Krl.qOwn_below O110.out hb8
      have O130 : Hid (Krl.QOwn w8 (w4.heap.size + 1) (w5.heap.size) (.slice ua49 un50 uc51) (.slice ta52 tn53 tc54) (ns0, Lls.lplain rs0)) := Krl.qOwn_below O111.out hb8
      have O131 : Hid (Kep.IOwn w8 (w5.heap.size + 1) (w6.heap.size) u73 zs1) := Kep.iOwn_below O112.out hb8
      have O132 : Hid (Krl.QOwn w8 (w6.heap.size) (w7.heap.size) (.slice ua89 un90 uc91) (.slice ta92 tn93 tc94) (Rel.projectV (ns0, Lls.lplain rs0) zs1)) := Krl.qOwn_below O113.out hb8
      have K133 : Hid (w8.cell? ⟨w.heap.size, 0, none⟩ = some (.slice ua0 un0 uc0) ∧ w8.cell? ⟨w.heap.size, 1, none⟩ = some (.slice ta0 tn0 tc0)) := ⟨(hb8.cell (p := ⟨w.heap.size, 0, none⟩) (Frame.cell_lt K114.out.1)).trans K114.out.1, (hb8.cell (p := ⟨w.heap.size, 1, none⟩) (Frame.cell_lt K114.out.2)).trans K114.out.2⟩
      have K134 : Hid (w8.cell? ⟨w4.heap.size, 0, none⟩ = some (.slice ua32 un33 uc34) ∧ w8.cell? ⟨w4.heap.size, 1, none⟩ = some (.slice ta35 tn36 tc37)) := ⟨(hb8.cell (p := ⟨w4.heap.size, 0, none⟩) (Frame.cell_lt K115.out.1)).trans K115.out.1, (hb8.cell (p := ⟨w4.heap.size, 1, none⟩) (Frame.cell_lt K115.out.2)).trans K115.out.2⟩
      have K135 : Hid (w8.cell? ⟨w5.heap.size, 0, none⟩ = some (.slice ua49 un50 uc51) ∧ w8.cell? ⟨w5.heap.size, 1, none⟩ = some (.slice ta52 tn53 tc54)) := ⟨(hb8.cell (p := ⟨w5.heap.size, 0, none⟩) (Frame.cell_lt K116.out.1)).trans K116.out.1, (hb8.cell (p := ⟨w5.heap.size, 1, none⟩) (Frame.cell_lt K116.out.2)).trans K116.out.2⟩
      have K136 : Hid (w8.cell? ⟨w7.heap.size, 0, none⟩ = some (.slice ua89 un90 uc91) ∧ w8.cell? ⟨w7.heap.size, 1, none⟩ = some (.slice ta92 tn93 tc94)) := ⟨(hb8.cell (p := ⟨w7.heap.size, 0, none⟩) (Frame.cell_lt K118.out.1)).trans K118.out.1, (hb8.cell (p := ⟨w7.heap.size, 1, none⟩) (Frame.cell_lt K118.out.2)).trans K118.out.2⟩
      have B137 : Hid (Below w.heap.size w w8) := Frame.next B117.out hb8 B117.out.size
      clear hb8
      go_wp2_with fail
      have O138 : Hid (Krl.QOwn w8.drew (w3.heap.size) (w4.heap.size) (.slice ua32 un33 uc34) (.slice ta35 tn36 tc37) (Rel.projectV (ns0, Lls.lplain rs0) zs1)) := Krl.qOwn_below O129.out ((Below.refl _ _).drew : Below w8.heap.size w8 w8.drew)
      have O139 : Hid (Krl.QOwn w8.drew (w4.heap.size + 1) (w5.heap.size) (.slice ua49 un50 uc51) (.slice ta52 tn53 tc54) (ns0, Lls.lplain rs0)) := Krl.qOwn_below O130.out ((Below.refl _ _).drew : Below w8.heap.size w8 w8.drew)
      have O140 : Hid (Kep.IOwn w8.drew (w5.heap.size + 1) (w6.heap.size) u73 zs1) := Kep.iOwn_below O131.out ((Below.refl _ _).drew : Below w8.heap.size w8 w8.drew)
      have O141 : Hid (Krl.QOwn w8.drew (w6.heap.size) (w7.heap.size) (.slice ua89 un90 uc91) (.slice ta92 tn93 tc94) (Rel.projectV (ns0, Lls.lplain rs0) zs1)) := Krl.qOwn_below O132.out ((Below.refl _ _).drew : Below w8.heap.size w8 w8.drew)
      have K142 : Hid ((w8.drew).cell? ⟨w.heap.size, 0, none⟩ = some (.slice ua0 un0 uc0) ∧ (w8.drew).cell? ⟨w.heap.size, 1, none⟩ = some (.slice ta0 tn0 tc0)) := ⟨(((Below.refl _ _).drew : Below w8.heap.size w8 w8.drew).cell (p := ⟨w.heap.size, 0, none⟩) (Frame.cell_lt K133.out.1)).trans K133.out.1, (((Below.refl _ _).drew : Below w8.heap.size w8 w8.drew).cell (p := ⟨w.heap.size, 1, none⟩) (Frame.cell_lt K133.out.2)).trans K133.out.2⟩
      have K143 : Hid ((w8.drew).cell? ⟨w4.heap.size, 0, none⟩ = some (.slice ua32 un33 uc34) ∧ (w8.drew).cell? ⟨w4.heap.size, 1, none⟩ = some (.slice ta35 tn36 tc37)) := ⟨(((Below.refl _ _).drew : Below w8.heap.size w8 w8.drew).cell (p := ⟨w4.heap.size, 0, none⟩) (Frame.cell_lt K134.out.1)).trans K134.out.1, (((Below.refl _ _).drew : Below w8.heap.size w8 w8.drew).cell (p := ⟨w4.heap.size, 1, none⟩) (Frame.cell_lt K134.out.2)).trans K134.out.2⟩
      have K144 : Hid ((w8.drew).cell? ⟨w5.heap.size, 0, none⟩ = some (.slice ua49 un50 uc51) ∧ (w8.drew).cell? ⟨w5.heap.size, 1, none⟩ = some (.slice ta52 tn53 tc54)) := ⟨(((Below.refl _ _).drew : Below w8.heap.size w8 w8.drew).cell (p := ⟨w5.heap.size, 0, none⟩) (Frame.cell_lt K135.out.1)).trans K135.out.1, (((Below.refl _ _).drew : Below w8.heap.size w8 w8.drew).cell (p := ⟨w5.heap.size, 1, none⟩) (Frame.cell_lt K135.out.2)).trans K135.out.2⟩
      have K145 : Hid ((w8.drew).cell? ⟨w7.heap.size, 0, none⟩ = some (.slice ua89 un90 uc91) ∧ (w8.drew).cell? ⟨w7.heap.size, 1, none⟩ = some (.slice ta92 tn93 tc94)) := ⟨(((Below.refl _ _).drew : Below w8.heap.size w8 w8.drew).cell (p := ⟨w7.heap.size, 0, none⟩) (Frame.cell_lt K136.out.1)).trans K136.out.1, (((Below.refl _ _).drew : Below w8.heap.size w8 w8.drew).cell (p := ⟨w7.heap.size, 1, none⟩) (Frame.cell_lt K136.out.2)).trans K136.out.2⟩
      have B146 : Hid (Below w.heap.size w w8.drew) := Frame.next B137.out ((Below.refl _ _).drew : Below w8.heap.size w8 w8.drew) B137.out.size
      have E147 : Hid (w8.drew.heap.size = w8.heap.size) := rfl
      have S148 : Hid ((w8.drew).cell? ⟨w.heap.size, 0, none⟩ = some (.slice ua0 un0 uc0) ∧ (w8.drew).cell? ⟨w.heap.size, 1, none⟩ = some (.slice ta0 tn0 tc0) ∧ (w8.drew).cell? ⟨w4.heap.size, 0, none⟩ = some (.slice ua32 un33 uc34) ∧ (w8.drew).cell? ⟨w4.heap.size, 1, none⟩ = some (.slice ta35 tn36 tc37) ∧ (w8.drew).cell? ⟨w5.heap.size, 0, none⟩ = some (.slice ua49 un50 uc51) ∧ (w8.drew).cell? ⟨w5.heap.size, 1, none⟩ = some (.slice ta52 tn53 tc54) ∧ (w8.drew).cell? ⟨w7.heap.size, 0, none⟩ = some (.slice ua89 un90 uc91) ∧ (w8.drew).cell? ⟨w7.heap.size, 1, none⟩ = some (.slice ta92 tn93 tc94)) := ⟨K142.out.1, K142.out.2, K143.out.1, K143.out.2, K144.out.1, K144.out.2, K145.out.1, K145.out.2⟩
      go_region_held3 (fun w' => (w').cell? ⟨w.heap.size, 0, none⟩ = some (.slice ua0 un0 uc0) ∧ (w').cell? ⟨w.heap.size, 1, none⟩ = some (.slice ta0 tn0 tc0) ∧ (w').cell? ⟨w4.heap.size, 0, none⟩ = some (.slice ua32 un33 uc34) ∧ (w').cell? ⟨w4.heap.size, 1, none⟩ = some (.slice ta35 tn36 tc37) ∧ (w').cell? ⟨w5.heap.size, 0, none⟩ = some (.slice ua49 un50 uc51) ∧ (w').cell? ⟨w5.heap.size, 1, none⟩ = some (.slice ta52 tn53 tc54) ∧ (w').cell? ⟨w7.heap.size, 0, none⟩ = some (.slice ua89 un90 uc91) ∧ (w').cell? ⟨w7.heap.size, 1, none⟩ = some (.slice ta92 tn93 tc94)) (first | exact S148.out | exact S166.out | exact S179.out) (first | (go_at_call 8; refine (Krl.q_to6 (.slice ua0 un0 uc0) (.slice ta0 tn0 tc0) (ns0, Lls.lplain rs0) _ (Krl.qIs_below A0.out B146.out)).mono ?_; rintro e w9 ⟨ua149, un150, uc151, ta152, tn153, tc154, rfl, ho, hb9⟩; have O155 : Hid (Krl.QOwn w9 (w8.heap.size) (w9.heap.size) (.slice ua149 un150 uc151) (.slice ta152 tn153 tc154) (ns0, Lls.lplain rs0)) := (by have hh := ho; rw [E147.out] at hh; exact hh); have Z156 : Hid (w8.heap.size ≤ w9.heap.size) := (by have hh := hb9.size; rw [E147.out] at hh; exact hh); have O157 : Hid (Krl.QOwn w9 (w3.heap.size) (w4.heap.size) (.slice ua32 un33 uc34) (.slice ta35 tn36 tc37) (Rel.projectV (ns0, Lls.lplain rs0) zs1)) := Krl.qOwn_below O138.out hb9; have O158 : Hid (Krl.QOwn w9 (w4.heap.size + 1) (w5.heap.size) (.slice ua49 un50 uc51) (.slice ta52 tn53 tc54) (ns0, Lls.lplain rs0)) := Krl.qOwn_below O139.out hb9; have O159 : Hid (Kep.IOwn w9 (w5.heap.size + 1) (w6.heap.size) u73 zs1) := Kep.iOwn_below O140.out hb9; have O160 : Hid (Krl.QOwn w9 (w6.heap.size) (w7.heap.size) (.slice ua89 un90 uc91) (.slice ta92 tn93 tc94) (Rel.projectV (ns0, Lls.lplain rs0) zs1)) := Krl.qOwn_below O141.out hb9; have K161 : Hid (w9.cell? ⟨w.heap.size, 0, none⟩ = some (.slice ua0 un0 uc0) ∧ w9.cell? ⟨w.heap.size, 1, none⟩ = some (.slice ta0 tn0 tc0)) := ⟨(hb9.cell (p := ⟨w.heap.size, 0, none⟩) (Frame.cell_lt K142.out.1)).trans K142.out.1, (hb9.cell (p := ⟨w.heap.size, 1, none⟩) (Frame.cell_lt K142.out.2)).trans K142.out.2⟩; have K162 : Hid (w9.cell? ⟨w4.heap.size, 0, none⟩ = some (.slice ua32 un33 uc34) ∧ w9.cell? ⟨w4.heap.size, 1, none⟩ = some (.slice ta35 tn36 tc37)) := ⟨(hb9.cell (p := ⟨w4.heap.size, 0, none⟩) (Frame.cell_lt K143.out.1)).trans K143.out.1, (hb9.cell (p := ⟨w4.heap.size, 1, none⟩) (Frame.cell_lt K143.out.2)).trans K143.out.2⟩; have K163 : Hid (w9.cell? ⟨w5.heap.size, 0, none⟩ = some (.slice ua49 un50 uc51) ∧ w9.cell? ⟨w5.heap.size, 1, none⟩ = some (.slice ta52 tn53 tc54)) := ⟨(hb9.cell (p := ⟨w5.heap.size, 0, none⟩) (Frame.cell_lt K144.out.1)).trans K144.out.1, (hb9.cell (p := ⟨w5.heap.size, 1, none⟩) (Frame.cell_lt K144.out.2)).trans K144.out.2⟩; have K164 : Hid (w9.cell? ⟨w7.heap.size, 0, none⟩ = some (.slice ua89 un90 uc91) ∧ w9.cell? ⟨w7.heap.size, 1, none⟩ = some (.slice ta92 tn93 tc94)) := ⟨(hb9.cell (p := ⟨w7.heap.size, 0, none⟩) (Frame.cell_lt K145.out.1)).trans K145.out.1, (hb9.cell (p := ⟨w7.heap.size, 1, none⟩) (Frame.cell_lt K145.out.2)).trans K145.out.2⟩; have B165 : Hid (Below w.heap.size w w9) := Frame.next B146.out hb9 B146.out.size; clear ho hb9; have S166 : Hid (w9.cell? ⟨w.heap.size, 0, none⟩ = some (.slice ua0 un0 uc0) ∧ w9.cell? ⟨w.heap.size, 1, none⟩ = some (.slice ta0 tn0 tc0) ∧ w9.cell? ⟨w4.heap.size, 0, none⟩ = some (.slice ua32 un33 uc34) ∧ w9.cell? ⟨w4.heap.size, 1, none⟩ = some (.slice ta35 tn36 tc37) ∧ w9.cell? ⟨w5.heap.size, 0, none⟩ = some (.slice ua49 un50 uc51) ∧ w9.cell? ⟨w5.heap.size, 1, none⟩ = some (.slice ta52 tn53 tc54) ∧ w9.cell? ⟨w7.heap.size, 0, none⟩ = some (.slice ua89 un90 uc91) ∧ w9.cell? ⟨w7.heap.size, 1, none⟩ = some (.slice ta92 tn93 tc94)) := ⟨K161.out.1, K161.out.2, K162.out.1, K162.out.2, K163.out.1, K163.out.2, K164.out.1, K164.out.2⟩) | (go_at_call 10; refine (Krl.q_eq (.slice ua49 un50 uc51) (.slice ta52 tn53 tc54) (.slice ua149 un150 uc151) (.slice ta152 tn153 tc154) (ns0, Lls.lplain rs0) (ns0, Lls.lplain rs0) _ (Krl.qOwn_is O158.out) (Krl.qOwn_is O155.out)).mono ?_; rintro e w10 ⟨rfl, hb10⟩; rw [decide_eq_true (Eq.refl ((ns0, Lls.lplain rs0)))]; have Z168 : Hid (w9.heap.size ≤ w10.heap.size) := hb10.size; have O169 : Hid (Krl.QOwn w10 (w3.heap.size) (w4.heap.size) (.slice ua32 un33 uc34) (.slice ta35 tn36 tc37) (Rel.projectV (ns0, Lls.lplain rs0) zs1)) := Krl.qOwn_below O157.out hb10; have O170 : Hid (Krl.QOwn w10 (w4.heap.size + 1) (w5.heap.size) (.slice ua49 un50 uc51) (.slice ta52 tn53 tc54) (ns0, Lls.lplain rs0)) := Krl.qOwn_below O158.out hb10; have O171 : Hid (Kep.IOwn w10 (w5.heap.size + 1) (w6.heap.size) u73 zs1) := Kep.iOwn_below O159.out hb10; have O172 : Hid (Krl.QOwn w10 (w6.heap.size) (w7.heap.size) (.slice ua89 un90 uc91) (.slice ta92 tn93 tc94) (Rel.projectV (ns0, Lls.lplain rs0) zs1)) := Krl.qOwn_below O160.out hb10; have O173 : Hid (Krl.QOwn w10 (w8.heap.size) (w9.heap.size) (.slice ua149 un150 uc151) (.slice ta152 tn153 tc154) (ns0, Lls.lplain rs0)) := Krl.qOwn_below O155.out hb10; have K174 : Hid (w10.cell? ⟨w.heap.size, 0, none⟩ = some (.slice ua0 un0 uc0) ∧ w10.cell? ⟨w.heap.size, 1, none⟩ = some (.slice ta0 tn0 tc0)) := ⟨(hb10.cell (p := ⟨w.heap.size, 0, none⟩) (Frame.cell_lt K161.out.1)).trans K161.out.1, (hb10.cell (p := ⟨w.heap.size, 1, none⟩) (Frame.cell_lt K161.out.2)).trans K161.out.2⟩; have K175 : Hid (w10.cell? ⟨w4.heap.size, 0, none⟩ = some (.slice ua32 un33 uc34) ∧ w10.cell? ⟨w4.heap.size, 1, none⟩ = some (.slice ta35 tn36 tc37)) := ⟨(hb10.cell (p := ⟨w4.heap.size, 0, none⟩) (Frame.cell_lt K162.out.1)).trans K162.out.1, (hb10.cell (p := ⟨w4.heap.size, 1, none⟩) (Frame.cell_lt K162.out.2)).trans K162.out.2⟩; have K176 : Hid (w10.cell? ⟨w5.heap.size, 0, none⟩ = some (.slice ua49 un50 uc51) ∧ w10.cell? ⟨w5.heap.size, 1, none⟩ = some (.slice ta52 tn53 tc54)) := ⟨(hb10.cell (p := ⟨w5.heap.size, 0, none⟩) (Frame.cell_lt K163.out.1)).trans K163.out.1, (hb10.cell (p := ⟨w5.heap.size, 1, none⟩) (Frame.cell_lt K163.out.2)).trans K163.out.2⟩; have K177 : Hid (w10.cell? ⟨w7.heap.size, 0, none⟩ = some (.slice ua89 un90 uc91) ∧ w10.cell? ⟨w7.heap.size, 1, none⟩ = some (.slice ta92 tn93 tc94)) := ⟨(hb10.cell (p := ⟨w7.heap.size, 0, none⟩) (Frame.cell_lt K164.out.1)).trans K164.out.1, (hb10.cell (p := ⟨w7.heap.size, 1, none⟩) (Frame.cell_lt K164.out.2)).trans K164.out.2⟩; have B178 : Hid (Below w.heap.size w w10) := Frame.next B165.out hb10 B165.out.size; clear hb10; have S179 : Hid (w10.cell? ⟨w.heap.size, 0, none⟩ = some (.slice ua0 un0 uc0) ∧ w10.cell? ⟨w.heap.size, 1, none⟩ = some (.slice ta0 tn0 tc0) ∧ w10.cell? ⟨w4.heap.size, 0, none⟩ = some (.slice ua32 un33 uc34) ∧ w10.cell? ⟨w4.heap.size, 1, none⟩ = some (.slice ta35 tn36 tc37) ∧ w10.cell? ⟨w5.heap.size, 0, none⟩ = some (.slice ua49 un50 uc51) ∧ w10.cell? ⟨w5.heap.size, 1, none⟩ = some (.slice ta52 tn53 tc54) ∧ w10.cell? ⟨w7.heap.size, 0, none⟩ = some (.slice ua89 un90 uc91) ∧ w10.cell? ⟨w7.heap.size, 1, none⟩ = some (.slice ta92 tn93 tc94)) := ⟨K174.out.1, K174.out.2, K175.out.1, K175.out.2, K176.out.1, K176.out.2, K177.out.1, K177.out.2⟩))
      have cc181 : w10.cell? ⟨w.heap.size, 0, none⟩ = some (.slice ua0 un0 uc0) := K174.out.1
      have cc182 : w10.cell? ⟨w.heap.size, 1, none⟩ = some (.slice ta0 tn0 tc0) := K174.out.2
      have cc183 : w10.cell? ⟨w4.heap.size, 0, none⟩ = some (.slice ua32 un33 uc34) := K175.out.1
      have cc184 : w10.cell? ⟨w4.heap.size, 1, none⟩ = some (.slice ta35 tn36 tc37) := K175.out.2
      have cc185 : w10.cell? ⟨w5.heap.size, 0, none⟩ = some (.slice ua49 un50 uc51) := K176.out.1
      have cc186 : w10.cell? ⟨w5.heap.size, 1, none⟩ = some (.slice ta52 tn53 tc54) := K176.out.2
      have cc187 : w10.cell? ⟨w7.heap.size, 0, none⟩ = some (.slice ua89 un90 uc91) := K177.out.1
      have cc188 : w10.cell? ⟨w7.heap.size, 1, none⟩ = some (.slice ta92 tn93 tc94) := K177.out.2
      go_wp2_with fail
      refine (Kep.i_to (.slice a1 n1 c1) zs1 _ (Kep.iIs_below A1.out B178.out)).mono ?_
      rintro e w11 ⟨u180, rfl, ho, hb11⟩
      clear cc181 cc182 cc183 cc184 cc185 cc186 cc187 cc188
      have O189 : Hid (Kep.IOwn w11 (w10.heap.size) (w11.heap.size) u180 zs1) := ho
      have Z190 : Hid (w10.heap.size ≤ w11.heap.size) := hb11.size
      have O191 : Hid (Krl.QOwn w11 (w3.heap.size) (w4.heap.size) (.slice ua32 un33 uc34) (.slice ta35 tn36 tc37) (Rel.projectV (ns0, Lls.lplain rs0) zs1)) := Krl.qOwn_below O169.out hb11
      have O192 : Hid (Krl.QOwn w11 (w4.heap.size + 1) (w5.heap.size) (.slice ua49 un50 uc51) (.slice ta52 tn53 tc54) (ns0, Lls.lplain rs0)) := Krl.qOwn_below O170.out hb11
      have O193 : Hid (Kep.IOwn w11 (w5.heap.size + 1) (w6.heap.size) u73 zs1) := Kep.iOwn_below O171.out hb11
      have O194 : Hid (Krl.QOwn w11 (w6.heap.size) (w7.heap.size) (.slice ua89 un90 uc91) (.slice ta92 tn93 tc94) (Rel.projectV (ns0, Lls.lplain rs0) zs1)) := Krl.qOwn_below O172.out hb11
      have K195 : Hid (w11.cell? ⟨w.heap.size, 0, none⟩ = some (.slice ua0 un0 uc0) ∧ w11.cell? ⟨w.heap.size, 1, none⟩ = some (.slice ta0 tn0 tc0)) := ⟨(hb11.cell (p := ⟨w.heap.size, 0, none⟩) (Frame.cell_lt K174.out.1)).trans K174.out.1, (hb11.cell (p := ⟨w.heap.size, 1, none⟩) (Frame.cell_lt K174.out.2)).trans K174.out.2⟩
      have K196 : Hid (w11.cell? ⟨w4.heap.size, 0, none⟩ = some (.slice ua32 un33 uc34) ∧ w11.cell? ⟨w4.heap.size, 1, none⟩ = some (.slice ta35 tn36 tc37)) := ⟨(hb11.cell (p := ⟨w4.heap.size, 0, none⟩) (Frame.cell_lt K175.out.1)).trans K175.out.1, (hb11.cell (p := ⟨w4.heap.size, 1, none⟩) (Frame.cell_lt K175.out.2)).trans K175.out.2⟩
      have K197 : Hid (w11.cell? ⟨w5.heap.size, 0, none⟩ = some (.slice ua49 un50 uc51) ∧ w11.cell? ⟨w5.heap.size, 1, none⟩ = some (.slice ta52 tn53 tc54)) := ⟨(hb11.cell (p := ⟨w5.heap.size, 0, none⟩) (Frame.cell_lt K176.out.1)).trans K176.out.1, (hb11.cell (p := ⟨w5.heap.size, 1, none⟩) (Frame.cell_lt K176.out.2)).trans K176.out.2⟩
      have K198 : Hid (w11.cell? ⟨w7.heap.size, 0, none⟩ = some (.slice ua89 un90 uc91) ∧ w11.cell? ⟨w7.heap.size, 1, none⟩ = some (.slice ta92 tn93 tc94)) := ⟨(hb11.cell (p := ⟨w7.heap.size, 0, none⟩) (Frame.cell_lt K177.out.1)).trans K177.out.1, (hb11.cell (p := ⟨w7.heap.size, 1, none⟩) (Frame.cell_lt K177.out.2)).trans K177.out.2⟩
      have B199 : Hid (Below w.heap.size w w11) := Frame.next B178.out hb11 B178.out.size
      clear ho hb11
      have cc201 : w11.cell? ⟨w.heap.size, 0, none⟩ = some (.slice ua0 un0 uc0) := K195.out.1
      have cc202 : w11.cell? ⟨w.heap.size, 1, none⟩ = some (.slice ta0 tn0 tc0) := K195.out.2
      have cc203 : w11.cell? ⟨w4.heap.size, 0, none⟩ = some (.slice ua32 un33 uc34) := K196.out.1
      have cc204 : w11.cell? ⟨w4.heap.size, 1, none⟩ = some (.slice ta35 tn36 tc37) := K196.out.2
      have cc205 : w11.cell? ⟨w5.heap.size, 0, none⟩ = some (.slice ua49 un50 uc51) := K197.out.1
      have cc206 : w11.cell? ⟨w5.heap.size, 1, none⟩ = some (.slice ta52 tn53 tc54) := K197.out.2
      have cc207 : w11.cell? ⟨w7.heap.size, 0, none⟩ = some (.slice ua89 un90 uc91) := K198.out.1
      have cc208 : w11.cell? ⟨w7.heap.size, 1, none⟩ = some (.slice ta92 tn93 tc94) := K198.out.2
      go_wp2_with fail
      refine (Kep.i_eq u73 u180 zs1 zs1 _ (Kep.iOwn_is O193.out) (Kep.iOwn_is O189.out)).mono ?_
      rintro e w12 ⟨rfl, hb12⟩
      clear cc201 cc202 cc203 cc204 cc205 cc206 cc207 cc208
      rw [decide_eq_true (Eq.refl (zs1))]
      have Z209 : Hid (w11.heap.size ≤ w12.heap.size) := hb12.size
      have O210 : Hid (Krl.QOwn w12 (w3.heap.size) (w4.heap.size) (.slice ua32 un33 uc34) (.slice ta35 tn36 tc37) (Rel.projectV (ns0, Lls.lplain rs0) zs1)) := Krl.qOwn_below O191.out hb12
      have O211 : Hid (Krl.QOwn w12 (w4.heap.size + 1) (w5.heap.size) (.slice ua49 un50 uc51) (.slice ta52 tn53 tc54) (ns0, Lls.lplain rs0)) := Krl.qOwn_below O192.out hb12
      have O212 : Hid (Kep.IOwn w12 (w5.heap.size + 1) (w6.heap.size) u73 zs1) := Kep.iOwn_below O193.out hb12
      have O213 : Hid (Krl.QOwn w12 (w6.heap.size) (w7.heap.size) (.slice ua89 un90 uc91) (.slice ta92 tn93 tc94) (Rel.projectV (ns0, Lls.lplain rs0) zs1)) := Krl.qOwn_below O194.out hb12
      have O214 : Hid (Kep.IOwn w12 (w10.heap.size) (w11.heap.size) u180 zs1) := Kep.iOwn_below O189.out hb12
      have K215 : Hid (w12.cell? ⟨w.heap.size, 0, none⟩ = some (.slice ua0 un0 uc0) ∧ w12.cell? ⟨w.heap.size, 1, none⟩ = some (.slice ta0 tn0 tc0)) := ⟨(hb12.cell (p := ⟨w.heap.size, 0, none⟩) (Frame.cell_lt K195.out.1)).trans K195.out.1, (hb12.cell (p := ⟨w.heap.size, 1, none⟩) (Frame.cell_lt K195.out.2)).trans K195.out.2⟩
      have K216 : Hid (w12.cell? ⟨w4.heap.size, 0, none⟩ = some (.slice ua32 un33 uc34) ∧ w12.cell? ⟨w4.heap.size, 1, none⟩ = some (.slice ta35 tn36 tc37)) := ⟨(hb12.cell (p := ⟨w4.heap.size, 0, none⟩) (Frame.cell_lt K196.out.1)).trans K196.out.1, (hb12.cell (p := ⟨w4.heap.size, 1, none⟩) (Frame.cell_lt K196.out.2)).trans K196.out.2⟩
      have K217 : Hid (w12.cell? ⟨w5.heap.size, 0, none⟩ = some (.slice ua49 un50 uc51) ∧ w12.cell? ⟨w5.heap.size, 1, none⟩ = some (.slice ta52 tn53 tc54)) := ⟨(hb12.cell (p := ⟨w5.heap.size, 0, none⟩) (Frame.cell_lt K197.out.1)).trans K197.out.1, (hb12.cell (p := ⟨w5.heap.size, 1, none⟩) (Frame.cell_lt K197.out.2)).trans K197.out.2⟩
      have K218 : Hid (w12.cell? ⟨w7.heap.size, 0, none⟩ = some (.slice ua89 un90 uc91) ∧ w12.cell? ⟨w7.heap.size, 1, none⟩ = some (.slice ta92 tn93 tc94)) := ⟨(hb12.cell (p := ⟨w7.heap.size, 0, none⟩) (Frame.cell_lt K198.out.1)).trans K198.out.1, (hb12.cell (p := ⟨w7.heap.size, 1, none⟩) (Frame.cell_lt K198.out.2)).trans K198.out.2⟩
      have B219 : Hid (Below w.heap.size w w12) := Frame.next B199.out hb12 B199.out.size
      clear hb12
      have cc221 : w12.cell? ⟨w.heap.size, 0, none⟩ = some (.slice ua0 un0 uc0) := K215.out.1
      have cc222 : w12.cell? ⟨w.heap.size, 1, none⟩ = some (.slice ta0 tn0 tc0) := K215.out.2
      have cc223 : w12.cell? ⟨w4.heap.size, 0, none⟩ = some (.slice ua32 un33 uc34) := K216.out.1
      have cc224 : w12.cell? ⟨w4.heap.size, 1, none⟩ = some (.slice ta35 tn36 tc37) := K216.out.2
      have cc225 : w12.cell? ⟨w5.heap.size, 0, none⟩ = some (.slice ua49 un50 uc51) := K217.out.1
      have cc226 : w12.cell? ⟨w5.heap.size, 1, none⟩ = some (.slice ta52 tn53 tc54) := K217.out.2
      have cc227 : w12.cell? ⟨w7.heap.size, 0, none⟩ = some (.slice ua89 un90 uc91) := K218.out.1
      have cc228 : w12.cell? ⟨w7.heap.size, 1, none⟩ = some (.slice ta92 tn93 tc94) := K218.out.2
      go_wp2_with fail
      refine (Krl.q_mark (.slice ua49 un50 uc51) (.slice ta52 tn53 tc54) (ns0, Lls.lplain rs0) _ _ 1 _ O211.out (by omega) (by omega)).mono ?_
      rintro e w13 ⟨nx220, rfl, hn0nx220, hn1nx220, hm, hb13⟩
      clear cc221 cc222 cc223 cc224 cc225 cc226 cc227 cc228
      have hznx220 : ¬ nx220 < 0 := by omega
      have O229 : Hid (Krl.QMarked w13 (w4.heap.size + 1) (w5.heap.size) (.slice ua49 un50 uc51) (.slice ta52 tn53 tc54) 1 nx220) := hm
      have Z230 : Hid (w12.heap.size ≤ w13.heap.size) := hb13.size
      have O231 : Hid (Krl.QOwn w13 (w3.heap.size) (w4.heap.size) (.slice ua32 un33 uc34) (.slice ta35 tn36 tc37) (Rel.projectV (ns0, Lls.lplain rs0) zs1)) := Krl.qOwn_keeps O210.out hb13 (by have z0 := Z6.out; have z1 := Z19.out; have z2 := Z27.out; have z3 := Z41.out; have z4 := Z60.out; have z5 := Z81.out; have z6 := Z102.out; have z7 := Z128.out; have z8 := Z156.out; have z9 := Z168.out; have z10 := Z190.out; have z11 := Z209.out; omega)
      have O232 : Hid (Kep.IOwn w13 (w5.heap.size + 1) (w6.heap.size) u73 zs1) := Kep.iOwn_keeps O212.out hb13 (by have z0 := Z6.out; have z1 := Z19.out; have z2 := Z27.out; have z3 := Z41.out; have z4 := Z60.out; have z5 := Z81.out; have z6 := Z102.out; have z7 := Z128.out; have z8 := Z156.out; have z9 := Z168.out; have z10 := Z190.out; have z11 := Z209.out; omega)
      have O233 : Hid (Krl.QOwn w13 (w6.heap.size) (w7.heap.size) (.slice ua89 un90 uc91) (.slice ta92 tn93 tc94) (Rel.projectV (ns0, Lls.lplain rs0) zs1)) := Krl.qOwn_keeps O213.out hb13 (by have z0 := Z6.out; have z1 := Z19.out; have z2 := Z27.out; have z3 := Z41.out; have z4 := Z60.out; have z5 := Z81.out; have z6 := Z102.out; have z7 := Z128.out; have z8 := Z156.out; have z9 := Z168.out; have z10 := Z190.out; have z11 := Z209.out; omega)
      have K234 : Hid (w13.cell? ⟨w.heap.size, 0, none⟩ = some (.slice ua0 un0 uc0) ∧ w13.cell? ⟨w.heap.size, 1, none⟩ = some (.slice ta0 tn0 tc0)) := ⟨Keeps.cell hb13 K215.out.1 (by have z0 := Z6.out; have z1 := Z19.out; have z2 := Z27.out; have z3 := Z41.out; have z4 := Z60.out; have z5 := Z81.out; have z6 := Z102.out; have z7 := Z128.out; have z8 := Z156.out; have z9 := Z168.out; have z10 := Z190.out; have z11 := Z209.out; omega), Keeps.cell hb13 K215.out.2 (by have z0 := Z6.out; have z1 := Z19.out; have z2 := Z27.out; have z3 := Z41.out; have z4 := Z60.out; have z5 := Z81.out; have z6 := Z102.out; have z7 := Z128.out; have z8 := Z156.out; have z9 := Z168.out; have z10 := Z190.out; have z11 := Z209.out; omega)⟩
      have K235 : Hid (w13.cell? ⟨w4.heap.size, 0, none⟩ = some (.slice ua32 un33 uc34) ∧ w13.cell? ⟨w4.heap.size, 1, none⟩ = some (.slice ta35 tn36 tc37)) := ⟨Keeps.cell hb13 K216.out.1 (by have z0 := Z6.out; have z1 := Z19.out; have z2 := Z27.out; have z3 := Z41.out; have z4 := Z60.out; have z5 := Z81.out; have z6 := Z102.out; have z7 := Z128.out; have z8 := Z156.out; have z9 := Z168.out; have z10 := Z190.out; have z11 := Z209.out; omega), Keeps.cell hb13 K216.out.2 (by have z0 := Z6.out; have z1 := Z19.out; have z2 := Z27.out; have z3 := Z41.out; have z4 := Z60.out; have z5 := Z81.out; have z6 := Z102.out; have z7 := Z128.out; have z8 := Z156.out; have z9 := Z168.out; have z10 := Z190.out; have z11 := Z209.out; omega)⟩
      have K236 : Hid (w13.cell? ⟨w5.heap.size, 0, none⟩ = some (.slice ua49 un50 uc51) ∧ w13.cell? ⟨w5.heap.size, 1, none⟩ = some (.slice ta52 tn53 tc54)) := ⟨Keeps.cell hb13 K217.out.1 (by have z0 := Z6.out; have z1 := Z19.out; have z2 := Z27.out; have z3 := Z41.out; have z4 := Z60.out; have z5 := Z81.out; have z6 := Z102.out; have z7 := Z128.out; have z8 := Z156.out; have z9 := Z168.out; have z10 := Z190.out; have z11 := Z209.out; omega), Keeps.cell hb13 K217.out.2 (by have z0 := Z6.out; have z1 := Z19.out; have z2 := Z27.out; have z3 := Z41.out; have z4 := Z60.out; have z5 := Z81.out; have z6 := Z102.out; have z7 := Z128.out; have z8 := Z156.out; have z9 := Z168.out; have z10 := Z190.out; have z11 := Z209.out; omega)⟩
      have K237 : Hid (w13.cell? ⟨w7.heap.size, 0, none⟩ = some (.slice ua89 un90 uc91) ∧ w13.cell? ⟨w7.heap.size, 1, none⟩ = some (.slice ta92 tn93 tc94)) := ⟨Keeps.cell hb13 K218.out.1 (by have z0 := Z6.out; have z1 := Z19.out; have z2 := Z27.out; have z3 := Z41.out; have z4 := Z60.out; have z5 := Z81.out; have z6 := Z102.out; have z7 := Z128.out; have z8 := Z156.out; have z9 := Z168.out; have z10 := Z190.out; have z11 := Z209.out; omega), Keeps.cell hb13 K218.out.2 (by have z0 := Z6.out; have z1 := Z19.out; have z2 := Z27.out; have z3 := Z41.out; have z4 := Z60.out; have z5 := Z81.out; have z6 := Z102.out; have z7 := Z128.out; have z8 := Z156.out; have z9 := Z168.out; have z10 := Z190.out; have z11 := Z209.out; omega)⟩
      have B238 : Hid (Below w.heap.size w w13) := Keeps.below B219.out hb13 (by have z0 := Z6.out; have z1 := Z19.out; have z2 := Z27.out; have z3 := Z41.out; have z4 := Z60.out; have z5 := Z81.out; have z6 := Z102.out; have z7 := Z128.out; have z8 := Z156.out; have z9 := Z168.out; have z10 := Z190.out; have z11 := Z209.out; omega) B219.out.size
      clear hm hb13
      have cc240 : w13.cell? ⟨w.heap.size, 0, none⟩ = some (.slice ua0 un0 uc0) := K234.out.1
      have cc241 : w13.cell? ⟨w.heap.size, 1, none⟩ = some (.slice ta0 tn0 tc0) := K234.out.2
      have cc242 : w13.cell? ⟨w4.heap.size, 0, none⟩ = some (.slice ua32 un33 uc34) := K235.out.1
      have cc243 : w13.cell? ⟨w4.heap.size, 1, none⟩ = some (.slice ta35 tn36 tc37) := K235.out.2
      have cc244 : w13.cell? ⟨w5.heap.size, 0, none⟩ = some (.slice ua49 un50 uc51) := K236.out.1
      have cc245 : w13.cell? ⟨w5.heap.size, 1, none⟩ = some (.slice ta52 tn53 tc54) := K236.out.2
      have cc246 : w13.cell? ⟨w7.heap.size, 0, none⟩ = some (.slice ua89 un90 uc91) := K237.out.1
      have cc247 : w13.cell? ⟨w7.heap.size, 1, none⟩ = some (.slice ta92 tn93 tc94) := K237.out.2
      go_wp2_with fail
      refine (Kep.i_mark u73 zs1 _ _ nx220 _ O232.out (by omega) (by omega)).mono ?_
      rintro e w14 ⟨nx239, rfl, hn0nx239, hn1nx239, hm, hb14⟩
      clear cc240 cc241 cc242 cc243 cc244 cc245 cc246 cc247
      have hznx239 : ¬ nx239 < 0 := by omega
      have O248 : Hid (Kep.IMarked w14 (w5.heap.size + 1) (w6.heap.size) u73 nx220 nx239) := hm
      have Z249 : Hid (w13.heap.size ≤ w14.heap.size) := hb14.size
      have O250 : Hid (Krl.QOwn w14 (w3.heap.size) (w4.heap.size) (.slice ua32 un33 uc34) (.slice ta35 tn36 tc37) (Rel.projectV (ns0, Lls.lplain rs0) zs1)) := Krl.qOwn_keeps O231.out hb14 (by have z0 := Z6.out; have z1 := Z19.out; have z2 := Z27.out; have z3 := Z41.out; have z4 := Z60.out; have z5 := Z81.out; have z6 := Z102.out; have z7 := Z128.out; have z8 := Z156.out; have z9 := Z168.out; have z10 := Z190.out; have z11 := Z209.out; have z12 := Z230.out; omega)
      have O251 : Hid (Krl.QMarked w14 (w4.heap.size + 1) (w5.heap.size) (.slice ua49 un50 uc51) (.slice ta52 tn53 tc54) 1 nx220) := Krl.qMarked_keeps O229.out hb14 (by have z0 := Z6.out; have z1 := Z19.out; have z2 := Z27.out; have z3 := Z41.out; have z4 := Z60.out; have z5 := Z81.out; have z6 := Z102.out; have z7 := Z128.out; have z8 := Z156.out; have z9 := Z168.out; have z10 := Z190.out; have z11 := Z209.out; have z12 := Z230.out; omega)
      have O252 : Hid (Krl.QOwn w14 (w6.heap.size) (w7.heap.size) (.slice ua89 un90 uc91) (.slice ta92 tn93 tc94) (Rel.projectV (ns0, Lls.lplain rs0) zs1)) := Krl.qOwn_keeps O233.out hb14 (by have z0 := Z6.out; have z1 := Z19.out; have z2 := Z27.out; have z3 := Z41.out; have z4 := Z60.out; have z5 := Z81.out; have z6 := Z102.out; have z7 := Z128.out; have z8 := Z156.out; have z9 := Z168.out; have z10 := Z190.out; have z11 := Z209.out; have z12 := Z230.out; omega)
      have K253 : Hid (w14.cell? ⟨w.heap.size, 0, none⟩ = some (.slice ua0 un0 uc0) ∧ w14.cell? ⟨w.heap.size, 1, none⟩ = some (.slice ta0 tn0 tc0)) := ⟨Keeps.cell hb14 K234.out.1 (by have z0 := Z6.out; have z1 := Z19.out; have z2 := Z27.out; have z3 := Z41.out; have z4 := Z60.out; have z5 := Z81.out; have z6 := Z102.out; have z7 := Z128.out; have z8 := Z156.out; have z9 := Z168.out; have z10 := Z190.out; have z11 := Z209.out; have z12 := Z230.out; omega), Keeps.cell hb14 K234.out.2 (by have z0 := Z6.out; have z1 := Z19.out; have z2 := Z27.out; have z3 := Z41.out; have z4 := Z60.out; have z5 := Z81.out; have z6 := Z102.out; have z7 := Z128.out; have z8 := Z156.out; have z9 := Z168.out; have z10 := Z190.out; have z11 := Z209.out; have z12 := Z230.out; omega)⟩
      have K254 : Hid (w14.cell? ⟨w4.heap.size, 0, none⟩ = some (.slice ua32 un33 uc34) ∧ w14.cell? ⟨w4.heap.size, 1, none⟩ = some (.slice ta35 tn36 tc37)) := ⟨Keeps.cell hb14 K235.out.1 (by have z0 := Z6.out; have z1 := Z19.out; have z2 := Z27.out; have z3 := Z41.out; have z4 := Z60.out; have z5 := Z81.out; have z6 := Z102.out; have z7 := Z128.out; have z8 := Z156.out; have z9 := Z168.out; have z10 := Z190.out; have z11 := Z209.out; have z12 := Z230.out; omega), Keeps.cell hb14 K235.out.2 (by have z0 := Z6.out; have z1 := Z19.out; have z2 := Z27.out; have z3 := Z41.out; have z4 := Z60.out; have z5 := Z81.out; have z6 := Z102.out; have z7 := Z128.out; have z8 := Z156.out; have z9 := Z168.out; have z10 := Z190.out; have z11 := Z209.out; have z12 := Z230.out; omega)⟩
      have K255 : Hid (w14.cell? ⟨w5.heap.size, 0, none⟩ = some (.slice ua49 un50 uc51) ∧ w14.cell? ⟨w5.heap.size, 1, none⟩ = some (.slice ta52 tn53 tc54)) := ⟨Keeps.cell hb14 K236.out.1 (by have z0 := Z6.out; have z1 := Z19.out; have z2 := Z27.out; have z3 := Z41.out; have z4 := Z60.out; have z5 := Z81.out; have z6 := Z102.out; have z7 := Z128.out; have z8 := Z156.out; have z9 := Z168.out; have z10 := Z190.out; have z11 := Z209.out; have z12 := Z230.out; omega), Keeps.cell hb14 K236.out.2 (by have z0 := Z6.out; have z1 := Z19.out; have z2 := Z27.out; have z3 := Z41.out; have z4 := Z60.out; have z5 := Z81.out; have z6 := Z102.out; have z7 := Z128.out; have z8 := Z156.out; have z9 := Z168.out; have z10 := Z190.out; have z11 := Z209.out; have z12 := Z230.out; omega)⟩
      have K256 : Hid (w14.cell? ⟨w7.heap.size, 0, none⟩ = some (.slice ua89 un90 uc91) ∧ w14.cell? ⟨w7.heap.size, 1, none⟩ = some (.slice ta92 tn93 tc94)) := ⟨Keeps.cell hb14 K237.out.1 (by have z0 := Z6.out; have z1 := Z19.out; have z2 := Z27.out; have z3 := Z41.out; have z4 := Z60.out; have z5 := Z81.out; have z6 := Z102.out; have z7 := Z128.out; have z8 := Z156.out; have z9 := Z168.out; have z10 := Z190.out; have z11 := Z209.out; have z12 := Z230.out; omega), Keeps.cell hb14 K237.out.2 (by have z0 := Z6.out; have z1 := Z19.out; have z2 := Z27.out; have z3 := Z41.out; have z4 := Z60.out; have z5 := Z81.out; have z6 := Z102.out; have z7 := Z128.out; have z8 := Z156.out; have z9 := Z168.out; have z10 := Z190.out; have z11 := Z209.out; have z12 := Z230.out; omega)⟩
      have B257 : Hid (Below w.heap.size w w14) := Keeps.below B238.out hb14 (by have z0 := Z6.out; have z1 := Z19.out; have z2 := Z27.out; have z3 := Z41.out; have z4 := Z60.out; have z5 := Z81.out; have z6 := Z102.out; have z7 := Z128.out; have z8 := Z156.out; have z9 := Z168.out; have z10 := Z190.out; have z11 := Z209.out; have z12 := Z230.out; omega) B238.out.size
      clear hm hb14
      have cc258 : w14.cell? ⟨w.heap.size, 0, none⟩ = some (.slice ua0 un0 uc0) := K253.out.1
      have cc259 : w14.cell? ⟨w.heap.size, 1, none⟩ = some (.slice ta0 tn0 tc0) := K253.out.2
      have cc260 : w14.cell? ⟨w4.heap.size, 0, none⟩ = some (.slice ua32 un33 uc34) := K254.out.1
      have cc261 : w14.cell? ⟨w4.heap.size, 1, none⟩ = some (.slice ta35 tn36 tc37) := K254.out.2
      have cc262 : w14.cell? ⟨w5.heap.size, 0, none⟩ = some (.slice ua49 un50 uc51) := K255.out.1
      have cc263 : w14.cell? ⟨w5.heap.size, 1, none⟩ = some (.slice ta52 tn53 tc54) := K255.out.2
      have cc264 : w14.cell? ⟨w7.heap.size, 0, none⟩ = some (.slice ua89 un90 uc91) := K256.out.1
      have cc265 : w14.cell? ⟨w7.heap.size, 1, none⟩ = some (.slice ta92 tn93 tc94) := K256.out.2
      go_wp2_with fail
      refine (Krl.q_eq (.slice ua89 un90 uc91) (.slice ta92 tn93 tc94) (.slice ua32 un33 uc34) (.slice ta35 tn36 tc37) (Rel.projectV (ns0, Lls.lplain rs0) zs1) (Rel.projectV (ns0, Lls.lplain rs0) zs1) _ (Krl.qOwn_is O252.out) (Krl.qOwn_is O250.out)).mono ?_
      rintro e w15 ⟨rfl, hb15⟩
      clear cc258 cc259 cc260 cc261 cc262 cc263 cc264 cc265
      rw [decide_eq_true (Eq.refl ((Rel.projectV (ns0, Lls.lplain rs0) zs1)))]
      have Z266 : Hid (w14.heap.size ≤ w15.heap.size) := hb15.size
      have O267 : Hid (Krl.QOwn w15 (w3.heap.size) (w4.heap.size) (.slice ua32 un33 uc34) (.slice ta35 tn36 tc37) (Rel.projectV (ns0, Lls.lplain rs0) zs1)) := Krl.qOwn_below O250.out hb15
      have O268 : Hid (Krl.QMarked w15 (w4.heap.size + 1) (w5.heap.size) (.slice ua49 un50 uc51) (.slice ta52 tn53 tc54) 1 nx220) := Krl.qMarked_below O251.out hb15
      have O269 : Hid (Kep.IMarked w15 (w5.heap.size + 1) (w6.heap.size) u73 nx220 nx239) := Kep.iMarked_below O248.out hb15
      have O270 : Hid (Krl.QOwn w15 (w6.heap.size) (w7.heap.size) (.slice ua89 un90 uc91) (.slice ta92 tn93 tc94) (Rel.projectV (ns0, Lls.lplain rs0) zs1)) := Krl.qOwn_below O252.out hb15
      have K271 : Hid (w15.cell? ⟨w.heap.size, 0, none⟩ = some (.slice ua0 un0 uc0) ∧ w15.cell? ⟨w.heap.size, 1, none⟩ = some (.slice ta0 tn0 tc0)) := ⟨(hb15.cell (p := ⟨w.heap.size, 0, none⟩) (Frame.cell_lt K253.out.1)).trans K253.out.1, (hb15.cell (p := ⟨w.heap.size, 1, none⟩) (Frame.cell_lt K253.out.2)).trans K253.out.2⟩
      have K272 : Hid (w15.cell? ⟨w4.heap.size, 0, none⟩ = some (.slice ua32 un33 uc34) ∧ w15.cell? ⟨w4.heap.size, 1, none⟩ = some (.slice ta35 tn36 tc37)) := ⟨(hb15.cell (p := ⟨w4.heap.size, 0, none⟩) (Frame.cell_lt K254.out.1)).trans K254.out.1, (hb15.cell (p := ⟨w4.heap.size, 1, none⟩) (Frame.cell_lt K254.out.2)).trans K254.out.2⟩
      have K273 : Hid (w15.cell? ⟨w5.heap.size, 0, none⟩ = some (.slice ua49 un50 uc51) ∧ w15.cell? ⟨w5.heap.size, 1, none⟩ = some (.slice ta52 tn53 tc54)) := ⟨(hb15.cell (p := ⟨w5.heap.size, 0, none⟩) (Frame.cell_lt K255.out.1)).trans K255.out.1, (hb15.cell (p := ⟨w5.heap.size, 1, none⟩) (Frame.cell_lt K255.out.2)).trans K255.out.2⟩
      have K274 : Hid (w15.cell? ⟨w7.heap.size, 0, none⟩ = some (.slice ua89 un90 uc91) ∧ w15.cell? ⟨w7.heap.size, 1, none⟩ = some (.slice ta92 tn93 tc94)) := ⟨(hb15.cell (p := ⟨w7.heap.size, 0, none⟩) (Frame.cell_lt K256.out.1)).trans K256.out.1, (hb15.cell (p := ⟨w7.heap.size, 1, none⟩) (Frame.cell_lt K256.out.2)).trans K256.out.2⟩
      have B275 : Hid (Below w.heap.size w w15) := Frame.next B257.out hb15 B257.out.size
      clear hb15
      have cc277 : w15.cell? ⟨w.heap.size, 0, none⟩ = some (.slice ua0 un0 uc0) := K271.out.1
      have cc278 : w15.cell? ⟨w.heap.size, 1, none⟩ = some (.slice ta0 tn0 tc0) := K271.out.2
      have cc279 : w15.cell? ⟨w4.heap.size, 0, none⟩ = some (.slice ua32 un33 uc34) := K272.out.1
      have cc280 : w15.cell? ⟨w4.heap.size, 1, none⟩ = some (.slice ta35 tn36 tc37) := K272.out.2
      have cc281 : w15.cell? ⟨w5.heap.size, 0, none⟩ = some (.slice ua49 un50 uc51) := K273.out.1
      have cc282 : w15.cell? ⟨w5.heap.size, 1, none⟩ = some (.slice ta52 tn53 tc54) := K273.out.2
      have cc283 : w15.cell? ⟨w7.heap.size, 0, none⟩ = some (.slice ua89 un90 uc91) := K274.out.1
      have cc284 : w15.cell? ⟨w7.heap.size, 1, none⟩ = some (.slice ta92 tn93 tc94) := K274.out.2
      go_wp2_with fail
      refine (Krl.q_mark (.slice ua89 un90 uc91) (.slice ta92 tn93 tc94) (Rel.projectV (ns0, Lls.lplain rs0) zs1) _ _ 1 _ O270.out (by omega) (by omega)).mono ?_
      rintro e w16 ⟨nx276, rfl, hn0nx276, hn1nx276, hm, hb16⟩
      clear cc277 cc278 cc279 cc280 cc281 cc282 cc283 cc284
      have hznx276 : ¬ nx276 < 0 := by omega
      have O285 : Hid (Krl.QMarked w16 (w6.heap.size) (w7.heap.size) (.slice ua89 un90 uc91) (.slice ta92 tn93 tc94) 1 nx276) := hm
      have Z286 : Hid (w15.heap.size ≤ w16.heap.size) := hb16.size
      have O287 : Hid (Krl.QOwn w16 (w3.heap.size) (w4.heap.size) (.slice ua32 un33 uc34) (.slice ta35 tn36 tc37) (Rel.projectV (ns0, Lls.lplain rs0) zs1)) := Krl.qOwn_keeps O267.out hb16 (by have z0 := Z6.out; have z1 := Z19.out; have z2 := Z27.out; have z3 := Z41.out; have z4 := Z60.out; have z5 := Z81.out; have z6 := Z102.out; have z7 := Z128.out; have z8 := Z156.out; have z9 := Z168.out; have z10 := Z190.out; have z11 := Z209.out; have z12 := Z230.out; have z13 := Z249.out; have z14 := Z266.out; omega)
      have K288 : Hid (w16.cell? ⟨w.heap.size, 0, none⟩ = some (.slice ua0 un0 uc0) ∧ w16.cell? ⟨w.heap.size, 1, none⟩ = some (.slice ta0 tn0 tc0)) := ⟨Keeps.cell hb16 K271.out.1 (by have z0 := Z6.out; have z1 := Z19.out; have z2 := Z27.out; have z3 := Z41.out; have z4 := Z60.out; have z5 := Z81.out; have z6 := Z102.out; have z7 := Z128.out; have z8 := Z156.out; have z9 := Z168.out; have z10 := Z190.out; have z11 := Z209.out; have z12 := Z230.out; have z13 := Z249.out; have z14 := Z266.out; omega), Keeps.cell hb16 K271.out.2 (by have z0 := Z6.out; have z1 := Z19.out; have z2 := Z27.out; have z3 := Z41.out; have z4 := Z60.out; have z5 := Z81.out; have z6 := Z102.out; have z7 := Z128.out; have z8 := Z156.out; have z9 := Z168.out; have z10 := Z190.out; have z11 := Z209.out; have z12 := Z230.out; have z13 := Z249.out; have z14 := Z266.out; omega)⟩
      have K289 : Hid (w16.cell? ⟨w4.heap.size, 0, none⟩ = some (.slice ua32 un33 uc34) ∧ w16.cell? ⟨w4.heap.size, 1, none⟩ = some (.slice ta35 tn36 tc37)) := ⟨Keeps.cell hb16 K272.out.1 (by have z0 := Z6.out; have z1 := Z19.out; have z2 := Z27.out; have z3 := Z41.out; have z4 := Z60.out; have z5 := Z81.out; have z6 := Z102.out; have z7 := Z128.out; have z8 := Z156.out; have z9 := Z168.out; have z10 := Z190.out; have z11 := Z209.out; have z12 := Z230.out; have z13 := Z249.out; have z14 := Z266.out; omega), Keeps.cell hb16 K272.out.2 (by have z0 := Z6.out; have z1 := Z19.out; have z2 := Z27.out; have z3 := Z41.out; have z4 := Z60.out; have z5 := Z81.out; have z6 := Z102.out; have z7 := Z128.out; have z8 := Z156.out; have z9 := Z168.out; have z10 := Z190.out; have z11 := Z209.out; have z12 := Z230.out; have z13 := Z249.out; have z14 := Z266.out; omega)⟩
      have K290 : Hid (w16.cell? ⟨w5.heap.size, 0, none⟩ = some (.slice ua49 un50 uc51) ∧ w16.cell? ⟨w5.heap.size, 1, none⟩ = some (.slice ta52 tn53 tc54)) := ⟨Keeps.cell hb16 K273.out.1 (by have z0 := Z6.out; have z1 := Z19.out; have z2 := Z27.out; have z3 := Z41.out; have z4 := Z60.out; have z5 := Z81.out; have z6 := Z102.out; have z7 := Z128.out; have z8 := Z156.out; have z9 := Z168.out; have z10 := Z190.out; have z11 := Z209.out; have z12 := Z230.out; have z13 := Z249.out; have z14 := Z266.out; omega), Keeps.cell hb16 K273.out.2 (by have z0 := Z6.out; have z1 := Z19.out; have z2 := Z27.out; have z3 := Z41.out; have z4 := Z60.out; have z5 := Z81.out; have z6 := Z102.out; have z7 := Z128.out; have z8 := Z156.out; have z9 := Z168.out; have z10 := Z190.out; have z11 := Z209.out; have z12 := Z230.out; have z13 := Z249.out; have z14 := Z266.out; omega)⟩
      have K291 : Hid (w16.cell? ⟨w7.heap.size, 0, none⟩ = some (.slice ua89 un90 uc91) ∧ w16.cell? ⟨w7.heap.size, 1, none⟩ = some (.slice ta92 tn93 tc94)) := ⟨Keeps.cell hb16 K274.out.1 (by have z0 := Z6.out; have z1 := Z19.out; have z2 := Z27.out; have z3 := Z41.out; have z4 := Z60.out; have z5 := Z81.out; have z6 := Z102.out; have z7 := Z128.out; have z8 := Z156.out; have z9 := Z168.out; have z10 := Z190.out; have z11 := Z209.out; have z12 := Z230.out; have z13 := Z249.out; have z14 := Z266.out; omega), Keeps.cell hb16 K274.out.2 (by have z0 := Z6.out; have z1 := Z19.out; have z2 := Z27.out; have z3 := Z41.out; have z4 := Z60.out; have z5 := Z81.out; have z6 := Z102.out; have z7 := Z128.out; have z8 := Z156.out; have z9 := Z168.out; have z10 := Z190.out; have z11 := Z209.out; have z12 := Z230.out; have z13 := Z249.out; have z14 := Z266.out; omega)⟩
      have B292 : Hid (Below w.heap.size w w16) := Keeps.below B275.out hb16 (by have z0 := Z6.out; have z1 := Z19.out; have z2 := Z27.out; have z3 := Z41.out; have z4 := Z60.out; have z5 := Z81.out; have z6 := Z102.out; have z7 := Z128.out; have z8 := Z156.out; have z9 := Z168.out; have z10 := Z190.out; have z11 := Z209.out; have z12 := Z230.out; have z13 := Z249.out; have z14 := Z266.out; omega) B275.out.size
      clear hm hb16
      have cc293 : w16.cell? ⟨w.heap.size, 0, none⟩ = some (.slice ua0 un0 uc0) := K288.out.1
      have cc294 : w16.cell? ⟨w.heap.size, 1, none⟩ = some (.slice ta0 tn0 tc0) := K288.out.2
      have cc295 : w16.cell? ⟨w4.heap.size, 0, none⟩ = some (.slice ua32 un33 uc34) := K289.out.1
      have cc296 : w16.cell? ⟨w4.heap.size, 1, none⟩ = some (.slice ta35 tn36 tc37) := K289.out.2
      have cc297 : w16.cell? ⟨w5.heap.size, 0, none⟩ = some (.slice ua49 un50 uc51) := K290.out.1
      have cc298 : w16.cell? ⟨w5.heap.size, 1, none⟩ = some (.slice ta52 tn53 tc54) := K290.out.2
      have cc299 : w16.cell? ⟨w7.heap.size, 0, none⟩ = some (.slice ua89 un90 uc91) := K291.out.1
      have cc300 : w16.cell? ⟨w7.heap.size, 1, none⟩ = some (.slice ta92 tn93 tc94) := K291.out.2
      go_wp2_with fail
      refine (Krl.q_held (.slice ua89 un90 uc91) (.slice ta92 tn93 tc94) _ _ 1 nx276 _ O285.out).mono ?_
      rintro e w17 ⟨rfl, hb17⟩
      clear cc293 cc294 cc295 cc296 cc297 cc298 cc299 cc300
      have Z301 : Hid (w16.heap.size ≤ w17.heap.size) := hb17.size
      have O302 : Hid (Krl.QOwn w17 (w3.heap.size) (w4.heap.size) (.slice ua32 un33 uc34) (.slice ta35 tn36 tc37) (Rel.projectV (ns0, Lls.lplain rs0) zs1)) := Krl.qOwn_below O287.out hb17
      have O303 : Hid (Krl.QMarked w17 (w6.heap.size) (w7.heap.size) (.slice ua89 un90 uc91) (.slice ta92 tn93 tc94) 1 nx276) := Krl.qMarked_below O285.out hb17
      have K304 : Hid (w17.cell? ⟨w.heap.size, 0, none⟩ = some (.slice ua0 un0 uc0) ∧ w17.cell? ⟨w.heap.size, 1, none⟩ = some (.slice ta0 tn0 tc0)) := ⟨(hb17.cell (p := ⟨w.heap.size, 0, none⟩) (Frame.cell_lt K288.out.1)).trans K288.out.1, (hb17.cell (p := ⟨w.heap.size, 1, none⟩) (Frame.cell_lt K288.out.2)).trans K288.out.2⟩
      have K305 : Hid (w17.cell? ⟨w4.heap.size, 0, none⟩ = some (.slice ua32 un33 uc34) ∧ w17.cell? ⟨w4.heap.size, 1, none⟩ = some (.slice ta35 tn36 tc37)) := ⟨(hb17.cell (p := ⟨w4.heap.size, 0, none⟩) (Frame.cell_lt K289.out.1)).trans K289.out.1, (hb17.cell (p := ⟨w4.heap.size, 1, none⟩) (Frame.cell_lt K289.out.2)).trans K289.out.2⟩
      have K306 : Hid (w17.cell? ⟨w5.heap.size, 0, none⟩ = some (.slice ua49 un50 uc51) ∧ w17.cell? ⟨w5.heap.size, 1, none⟩ = some (.slice ta52 tn53 tc54)) := ⟨(hb17.cell (p := ⟨w5.heap.size, 0, none⟩) (Frame.cell_lt K290.out.1)).trans K290.out.1, (hb17.cell (p := ⟨w5.heap.size, 1, none⟩) (Frame.cell_lt K290.out.2)).trans K290.out.2⟩
      have K307 : Hid (w17.cell? ⟨w7.heap.size, 0, none⟩ = some (.slice ua89 un90 uc91) ∧ w17.cell? ⟨w7.heap.size, 1, none⟩ = some (.slice ta92 tn93 tc94)) := ⟨(hb17.cell (p := ⟨w7.heap.size, 0, none⟩) (Frame.cell_lt K291.out.1)).trans K291.out.1, (hb17.cell (p := ⟨w7.heap.size, 1, none⟩) (Frame.cell_lt K291.out.2)).trans K291.out.2⟩
      have B308 : Hid (Below w.heap.size w w17) := Frame.next B292.out hb17 B292.out.size
      clear hb17
      have cc315 : w17.cell? ⟨w.heap.size, 0, none⟩ = some (.slice ua0 un0 uc0) := K304.out.1
      have cc316 : w17.cell? ⟨w.heap.size, 1, none⟩ = some (.slice ta0 tn0 tc0) := K304.out.2
      have cc317 : w17.cell? ⟨w4.heap.size, 0, none⟩ = some (.slice ua32 un33 uc34) := K305.out.1
      have cc318 : w17.cell? ⟨w4.heap.size, 1, none⟩ = some (.slice ta35 tn36 tc37) := K305.out.2
      have cc319 : w17.cell? ⟨w5.heap.size, 0, none⟩ = some (.slice ua49 un50 uc51) := K306.out.1
      have cc320 : w17.cell? ⟨w5.heap.size, 1, none⟩ = some (.slice ta52 tn53 tc54) := K306.out.2
      have cc321 : w17.cell? ⟨w7.heap.size, 0, none⟩ = some (.slice ua89 un90 uc91) := K307.out.1
      have cc322 : w17.cell? ⟨w7.heap.size, 1, none⟩ = some (.slice ta92 tn93 tc94) := K307.out.2
      go_wp2_with fail
      refine (Krl.q_to6 (.slice ua0 un0 uc0) (.slice ta0 tn0 tc0) (ns0, Lls.lplain rs0) _ (Krl.qIs_below A0.out B308.out)).mono ?_
      rintro e w18 ⟨ua309, un310, uc311, ta312, tn313, tc314, rfl, ho, hb18⟩
      clear cc315 cc316 cc317 cc318 cc319 cc320 cc321 cc322
      have O323 : Hid (Krl.QOwn w18 (w17.heap.size) (w18.heap.size) (.slice ua309 un310 uc311) (.slice ta312 tn313 tc314) (ns0, Lls.lplain rs0)) := ho
      have Z324 : Hid (w17.heap.size ≤ w18.heap.size) := hb18.size
      have O325 : Hid (Krl.QOwn w18 (w3.heap.size) (w4.heap.size) (.slice ua32 un33 uc34) (.slice ta35 tn36 tc37) (Rel.projectV (ns0, Lls.lplain rs0) zs1)) := Krl.qOwn_below O302.out hb18
      have O326 : Hid (Krl.QMarked w18 (w6.heap.size) (w7.heap.size) (.slice ua89 un90 uc91) (.slice ta92 tn93 tc94) 1 nx276) := Krl.qMarked_below O303.out hb18
      have K327 : Hid (w18.cell? ⟨w.heap.size, 0, none⟩ = some (.slice ua0 un0 uc0) ∧ w18.cell? ⟨w.heap.size, 1, none⟩ = some (.slice ta0 tn0 tc0)) := ⟨(hb18.cell (p := ⟨w.heap.size, 0, none⟩) (Frame.cell_lt K304.out.1)).trans K304.out.1, (hb18.cell (p := ⟨w.heap.size, 1, none⟩) (Frame.cell_lt K304.out.2)).trans K304.out.2⟩
      have K328 : Hid (w18.cell? ⟨w4.heap.size, 0, none⟩ = some (.slice ua32 un33 uc34) ∧ w18.cell? ⟨w4.heap.size, 1, none⟩ = some (.slice ta35 tn36 tc37)) := ⟨(hb18.cell (p := ⟨w4.heap.size, 0, none⟩) (Frame.cell_lt K305.out.1)).trans K305.out.1, (hb18.cell (p := ⟨w4.heap.size, 1, none⟩) (Frame.cell_lt K305.out.2)).trans K305.out.2⟩
      have K329 : Hid (w18.cell? ⟨w5.heap.size, 0, none⟩ = some (.slice ua49 un50 uc51) ∧ w18.cell? ⟨w5.heap.size, 1, none⟩ = some (.slice ta52 tn53 tc54)) := ⟨(hb18.cell (p := ⟨w5.heap.size, 0, none⟩) (Frame.cell_lt K306.out.1)).trans K306.out.1, (hb18.cell (p := ⟨w5.heap.size, 1, none⟩) (Frame.cell_lt K306.out.2)).trans K306.out.2⟩
      have K330 : Hid (w18.cell? ⟨w7.heap.size, 0, none⟩ = some (.slice ua89 un90 uc91) ∧ w18.cell? ⟨w7.heap.size, 1, none⟩ = some (.slice ta92 tn93 tc94)) := ⟨(hb18.cell (p := ⟨w7.heap.size, 0, none⟩) (Frame.cell_lt K307.out.1)).trans K307.out.1, (hb18.cell (p := ⟨w7.heap.size, 1, none⟩) (Frame.cell_lt K307.out.2)).trans K307.out.2⟩
      have B331 : Hid (Below w.heap.size w w18) := Frame.next B308.out hb18 B308.out.size
      clear ho hb18
      have cc334 : w18.cell? ⟨w.heap.size, 0, none⟩ = some (.slice ua0 un0 uc0) := K327.out.1
      have cc335 : w18.cell? ⟨w.heap.size, 1, none⟩ = some (.slice ta0 tn0 tc0) := K327.out.2
      have cc336 : w18.cell? ⟨w4.heap.size, 0, none⟩ = some (.slice ua32 un33 uc34) := K328.out.1
      have cc337 : w18.cell? ⟨w4.heap.size, 1, none⟩ = some (.slice ta35 tn36 tc37) := K328.out.2
      have cc338 : w18.cell? ⟨w5.heap.size, 0, none⟩ = some (.slice ua49 un50 uc51) := K329.out.1
      have cc339 : w18.cell? ⟨w5.heap.size, 1, none⟩ = some (.slice ta52 tn53 tc54) := K329.out.2
      have cc340 : w18.cell? ⟨w7.heap.size, 0, none⟩ = some (.slice ua89 un90 uc91) := K330.out.1
      have cc341 : w18.cell? ⟨w7.heap.size, 1, none⟩ = some (.slice ta92 tn93 tc94) := K330.out.2
      go_wp2_with fail
      refine (Kep.i_to (.slice a1 n1 c1) zs1 _ (Kep.iIs_below A1.out B331.out)).mono ?_
      rintro e w19 ⟨u333, rfl, ho, hb19⟩
      clear cc334 cc335 cc336 cc337 cc338 cc339 cc340 cc341
      have O342 : Hid (Kep.IOwn w19 (w18.heap.size) (w19.heap.size) u333 zs1) := ho
      have Z343 : Hid (w18.heap.size ≤ w19.heap.size) := hb19.size
      have O344 : Hid (Krl.QOwn w19 (w3.heap.size) (w4.heap.size) (.slice ua32 un33 uc34) (.slice ta35 tn36 tc37) (Rel.projectV (ns0, Lls.lplain rs0) zs1)) := Krl.qOwn_below O325.out hb19
      have O345 : Hid (Krl.QMarked w19 (w6.heap.size) (w7.heap.size) (.slice ua89 un90 uc91) (.slice ta92 tn93 tc94) 1 nx276) := Krl.qMarked_below O326.out hb19
      have O346 : Hid (Krl.QOwn w19 (w17.heap.size) (w18.heap.size) (.slice ua309 un310 uc311) (.slice ta312 tn313 tc314) (ns0, Lls.lplain rs0)) := Krl.qOwn_below O323.out hb19
      have K347 : Hid (w19.cell? ⟨w.heap.size, 0, none⟩ = some (.slice ua0 un0 uc0) ∧ w19.cell? ⟨w.heap.size, 1, none⟩ = some (.slice ta0 tn0 tc0)) := ⟨(hb19.cell (p := ⟨w.heap.size, 0, none⟩) (Frame.cell_lt K327.out.1)).trans K327.out.1, (hb19.cell (p := ⟨w.heap.size, 1, none⟩) (Frame.cell_lt K327.out.2)).trans K327.out.2⟩
      have K348 : Hid (w19.cell? ⟨w4.heap.size, 0, none⟩ = some (.slice ua32 un33 uc34) ∧ w19.cell? ⟨w4.heap.size, 1, none⟩ = some (.slice ta35 tn36 tc37)) := ⟨(hb19.cell (p := ⟨w4.heap.size, 0, none⟩) (Frame.cell_lt K328.out.1)).trans K328.out.1, (hb19.cell (p := ⟨w4.heap.size, 1, none⟩) (Frame.cell_lt K328.out.2)).trans K328.out.2⟩
      have K349 : Hid (w19.cell? ⟨w5.heap.size, 0, none⟩ = some (.slice ua49 un50 uc51) ∧ w19.cell? ⟨w5.heap.size, 1, none⟩ = some (.slice ta52 tn53 tc54)) := ⟨(hb19.cell (p := ⟨w5.heap.size, 0, none⟩) (Frame.cell_lt K329.out.1)).trans K329.out.1, (hb19.cell (p := ⟨w5.heap.size, 1, none⟩) (Frame.cell_lt K329.out.2)).trans K329.out.2⟩
      have K350 : Hid (w19.cell? ⟨w7.heap.size, 0, none⟩ = some (.slice ua89 un90 uc91) ∧ w19.cell? ⟨w7.heap.size, 1, none⟩ = some (.slice ta92 tn93 tc94)) := ⟨(hb19.cell (p := ⟨w7.heap.size, 0, none⟩) (Frame.cell_lt K330.out.1)).trans K330.out.1, (hb19.cell (p := ⟨w7.heap.size, 1, none⟩) (Frame.cell_lt K330.out.2)).trans K330.out.2⟩
      have B351 : Hid (Below w.heap.size w w19) := Frame.next B331.out hb19 B331.out.size
      clear ho hb19
      have cc359 : w19.cell? ⟨w.heap.size, 0, none⟩ = some (.slice ua0 un0 uc0) := K347.out.1
      have cc360 : w19.cell? ⟨w.heap.size, 1, none⟩ = some (.slice ta0 tn0 tc0) := K347.out.2
      have cc361 : w19.cell? ⟨w4.heap.size, 0, none⟩ = some (.slice ua32 un33 uc34) := K348.out.1
      have cc362 : w19.cell? ⟨w4.heap.size, 1, none⟩ = some (.slice ta35 tn36 tc37) := K348.out.2
      have cc363 : w19.cell? ⟨w5.heap.size, 0, none⟩ = some (.slice ua49 un50 uc51) := K349.out.1
      have cc364 : w19.cell? ⟨w5.heap.size, 1, none⟩ = some (.slice ta52 tn53 tc54) := K349.out.2
      have cc365 : w19.cell? ⟨w7.heap.size, 0, none⟩ = some (.slice ua89 un90 uc91) := K350.out.1
      have cc366 : w19.cell? ⟨w7.heap.size, 1, none⟩ = some (.slice ta92 tn93 tc94) := K350.out.2
      go_wp2_with fail
      refine (Rfn.impl_Project (.slice ua309 un310 uc311) (.slice ta312 tn313 tc314) u333 (ns0, Lls.lplain rs0) zs1 _ (Krl.qOwn_is O346.out) (Kep.iOwn_is O342.out)).mono ?_
      rintro e w20 ⟨ua353, un354, uc355, ta356, tn357, tc358, rfl, ho0, hb20⟩
      clear cc359 cc360 cc361 cc362 cc363 cc364 cc365 cc366
      have O367 : Hid (Krl.QOwn w20 (w19.heap.size) (w20.heap.size) (.slice ua353 un354 uc355) (.slice ta356 tn357 tc358) (Rel.projectV (ns0, Lls.lplain rs0) zs1)) := ho0
      have Z368 : Hid (w19.heap.size ≤ w20.heap.size) := hb20.size
      have O369 : Hid (Krl.QOwn w20 (w3.heap.size) (w4.heap.size) (.slice ua32 un33 uc34) (.slice ta35 tn36 tc37) (Rel.projectV (ns0, Lls.lplain rs0) zs1)) := Krl.qOwn_below O344.out hb20
      have O370 : Hid (Krl.QMarked w20 (w6.heap.size) (w7.heap.size) (.slice ua89 un90 uc91) (.slice ta92 tn93 tc94) 1 nx276) := Krl.qMarked_below O345.out hb20
      have K371 : Hid (w20.cell? ⟨w.heap.size, 0, none⟩ = some (.slice ua0 un0 uc0) ∧ w20.cell? ⟨w.heap.size, 1, none⟩ = some (.slice ta0 tn0 tc0)) := ⟨(hb20.cell (p := ⟨w.heap.size, 0, none⟩) (Frame.cell_lt K347.out.1)).trans K347.out.1, (hb20.cell (p := ⟨w.heap.size, 1, none⟩) (Frame.cell_lt K347.out.2)).trans K347.out.2⟩
      have K372 : Hid (w20.cell? ⟨w4.heap.size, 0, none⟩ = some (.slice ua32 un33 uc34) ∧ w20.cell? ⟨w4.heap.size, 1, none⟩ = some (.slice ta35 tn36 tc37)) := ⟨(hb20.cell (p := ⟨w4.heap.size, 0, none⟩) (Frame.cell_lt K348.out.1)).trans K348.out.1, (hb20.cell (p := ⟨w4.heap.size, 1, none⟩) (Frame.cell_lt K348.out.2)).trans K348.out.2⟩
      have K373 : Hid (w20.cell? ⟨w5.heap.size, 0, none⟩ = some (.slice ua49 un50 uc51) ∧ w20.cell? ⟨w5.heap.size, 1, none⟩ = some (.slice ta52 tn53 tc54)) := ⟨(hb20.cell (p := ⟨w5.heap.size, 0, none⟩) (Frame.cell_lt K349.out.1)).trans K349.out.1, (hb20.cell (p := ⟨w5.heap.size, 1, none⟩) (Frame.cell_lt K349.out.2)).trans K349.out.2⟩
      have K374 : Hid (w20.cell? ⟨w7.heap.size, 0, none⟩ = some (.slice ua89 un90 uc91) ∧ w20.cell? ⟨w7.heap.size, 1, none⟩ = some (.slice ta92 tn93 tc94)) := ⟨(hb20.cell (p := ⟨w7.heap.size, 0, none⟩) (Frame.cell_lt K350.out.1)).trans K350.out.1, (hb20.cell (p := ⟨w7.heap.size, 1, none⟩) (Frame.cell_lt K350.out.2)).trans K350.out.2⟩
      have B375 : Hid (Below w.heap.size w w20) := Frame.next B351.out hb20 B351.out.size
      clear ho0 hb20
      have O376 : Hid (Krl.QOwn (w20.alloc (.cells #[.slice ua353 un354 uc355, .slice ta356 tn357 tc358] 28)) (w3.heap.size) (w4.heap.size) (.slice ua32 un33 uc34) (.slice ta35 tn36 tc37) (Rel.projectV (ns0, Lls.lplain rs0) zs1)) := Krl.qOwn_below O369.out ((Below.refl w20.heap.size w20).alloc (Nat.le_refl _) (.cells #[.slice ua353 un354 uc355, .slice ta356 tn357 tc358] 28))
      have O377 : Hid (Krl.QMarked (w20.alloc (.cells #[.slice ua353 un354 uc355, .slice ta356 tn357 tc358] 28)) (w6.heap.size) (w7.heap.size) (.slice ua89 un90 uc91) (.slice ta92 tn93 tc94) 1 nx276) := Krl.qMarked_below O370.out ((Below.refl w20.heap.size w20).alloc (Nat.le_refl _) (.cells #[.slice ua353 un354 uc355, .slice ta356 tn357 tc358] 28))
      have O378 : Hid (Krl.QOwn (w20.alloc (.cells #[.slice ua353 un354 uc355, .slice ta356 tn357 tc358] 28)) (w19.heap.size) (w20.heap.size) (.slice ua353 un354 uc355) (.slice ta356 tn357 tc358) (Rel.projectV (ns0, Lls.lplain rs0) zs1)) := Krl.qOwn_below O367.out ((Below.refl w20.heap.size w20).alloc (Nat.le_refl _) (.cells #[.slice ua353 un354 uc355, .slice ta356 tn357 tc358] 28))
      have K379 : Hid ((w20.alloc (.cells #[.slice ua353 un354 uc355, .slice ta356 tn357 tc358] 28)).cell? ⟨w.heap.size, 0, none⟩ = some (.slice ua0 un0 uc0) ∧ (w20.alloc (.cells #[.slice ua353 un354 uc355, .slice ta356 tn357 tc358] 28)).cell? ⟨w.heap.size, 1, none⟩ = some (.slice ta0 tn0 tc0)) := ⟨(((Below.refl w20.heap.size w20).alloc (Nat.le_refl _) (.cells #[.slice ua353 un354 uc355, .slice ta356 tn357 tc358] 28)).cell (p := ⟨w.heap.size, 0, none⟩) (Frame.cell_lt K371.out.1)).trans K371.out.1, (((Below.refl w20.heap.size w20).alloc (Nat.le_refl _) (.cells #[.slice ua353 un354 uc355, .slice ta356 tn357 tc358] 28)).cell (p := ⟨w.heap.size, 1, none⟩) (Frame.cell_lt K371.out.2)).trans K371.out.2⟩
      have K380 : Hid ((w20.alloc (.cells #[.slice ua353 un354 uc355, .slice ta356 tn357 tc358] 28)).cell? ⟨w4.heap.size, 0, none⟩ = some (.slice ua32 un33 uc34) ∧ (w20.alloc (.cells #[.slice ua353 un354 uc355, .slice ta356 tn357 tc358] 28)).cell? ⟨w4.heap.size, 1, none⟩ = some (.slice ta35 tn36 tc37)) := ⟨(((Below.refl w20.heap.size w20).alloc (Nat.le_refl _) (.cells #[.slice ua353 un354 uc355, .slice ta356 tn357 tc358] 28)).cell (p := ⟨w4.heap.size, 0, none⟩) (Frame.cell_lt K372.out.1)).trans K372.out.1, (((Below.refl w20.heap.size w20).alloc (Nat.le_refl _) (.cells #[.slice ua353 un354 uc355, .slice ta356 tn357 tc358] 28)).cell (p := ⟨w4.heap.size, 1, none⟩) (Frame.cell_lt K372.out.2)).trans K372.out.2⟩
      have K381 : Hid ((w20.alloc (.cells #[.slice ua353 un354 uc355, .slice ta356 tn357 tc358] 28)).cell? ⟨w5.heap.size, 0, none⟩ = some (.slice ua49 un50 uc51) ∧ (w20.alloc (.cells #[.slice ua353 un354 uc355, .slice ta356 tn357 tc358] 28)).cell? ⟨w5.heap.size, 1, none⟩ = some (.slice ta52 tn53 tc54)) := ⟨(((Below.refl w20.heap.size w20).alloc (Nat.le_refl _) (.cells #[.slice ua353 un354 uc355, .slice ta356 tn357 tc358] 28)).cell (p := ⟨w5.heap.size, 0, none⟩) (Frame.cell_lt K373.out.1)).trans K373.out.1, (((Below.refl w20.heap.size w20).alloc (Nat.le_refl _) (.cells #[.slice ua353 un354 uc355, .slice ta356 tn357 tc358] 28)).cell (p := ⟨w5.heap.size, 1, none⟩) (Frame.cell_lt K373.out.2)).trans K373.out.2⟩
      have K382 : Hid ((w20.alloc (.cells #[.slice ua353 un354 uc355, .slice ta356 tn357 tc358] 28)).cell? ⟨w7.heap.size, 0, none⟩ = some (.slice ua89 un90 uc91) ∧ (w20.alloc (.cells #[.slice ua353 un354 uc355, .slice ta356 tn357 tc358] 28)).cell? ⟨w7.heap.size, 1, none⟩ = some (.slice ta92 tn93 tc94)) := ⟨(((Below.refl w20.heap.size w20).alloc (Nat.le_refl _) (.cells #[.slice ua353 un354 uc355, .slice ta356 tn357 tc358] 28)).cell (p := ⟨w7.heap.size, 0, none⟩) (Frame.cell_lt K374.out.1)).trans K374.out.1, (((Below.refl w20.heap.size w20).alloc (Nat.le_refl _) (.cells #[.slice ua353 un354 uc355, .slice ta356 tn357 tc358] 28)).cell (p := ⟨w7.heap.size, 1, none⟩) (Frame.cell_lt K374.out.2)).trans K374.out.2⟩
      have B383 : Hid (Below w.heap.size w (w20.alloc (.cells #[.slice ua353 un354 uc355, .slice ta356 tn357 tc358] 28))) := Frame.next B375.out ((Below.refl w20.heap.size w20).alloc (Nat.le_refl _) (.cells #[.slice ua353 un354 uc355, .slice ta356 tn357 tc358] 28)) B375.out.size
      have K384 : Hid ((w20.alloc (.cells #[.slice ua353 un354 uc355, .slice ta356 tn357 tc358] 28)).cell? ⟨w20.heap.size, 0, none⟩ = some (.slice ua353 un354 uc355) ∧ (w20.alloc (.cells #[.slice ua353 un354 uc355, .slice ta356 tn357 tc358] 28)).cell? ⟨w20.heap.size, 1, none⟩ = some (.slice ta356 tn357 tc358)) := by
        show _ ∧ _
        refine ⟨?_, ?_⟩ <;> rw [World.cell?_alloc_at _ _ _ _ rfl] <;> rfl
      have E385 : Hid ((w20.alloc (.cells #[.slice ua353 un354 uc355, .slice ta356 tn357 tc358] 28)).heap.size = w20.heap.size + 1) := by show _ = _; simp
      have cc386 : (w20.alloc (.cells #[.slice ua353 un354 uc355, .slice ta356 tn357 tc358] 28)).cell? ⟨w.heap.size, 0, none⟩ = some (.slice ua0 un0 uc0) := K379.out.1
      have cc387 : (w20.alloc (.cells #[.slice ua353 un354 uc355, .slice ta356 tn357 tc358] 28)).cell? ⟨w.heap.size, 1, none⟩ = some (.slice ta0 tn0 tc0) := K379.out.2
      have cc388 : (w20.alloc (.cells #[.slice ua353 un354 uc355, .slice ta356 tn357 tc358] 28)).cell? ⟨w4.heap.size, 0, none⟩ = some (.slice ua32 un33 uc34) := K380.out.1
      have cc389 : (w20.alloc (.cells #[.slice ua353 un354 uc355, .slice ta356 tn357 tc358] 28)).cell? ⟨w4.heap.size, 1, none⟩ = some (.slice ta35 tn36 tc37) := K380.out.2
      have cc390 : (w20.alloc (.cells #[.slice ua353 un354 uc355, .slice ta356 tn357 tc358] 28)).cell? ⟨w5.heap.size, 0, none⟩ = some (.slice ua49 un50 uc51) := K381.out.1
      have cc391 : (w20.alloc (.cells #[.slice ua353 un354 uc355, .slice ta356 tn357 tc358] 28)).cell? ⟨w5.heap.size, 1, none⟩ = some (.slice ta52 tn53 tc54) := K381.out.2
      have cc392 : (w20.alloc (.cells #[.slice ua353 un354 uc355, .slice ta356 tn357 tc358] 28)).cell? ⟨w7.heap.size, 0, none⟩ = some (.slice ua89 un90 uc91) := K382.out.1
      have cc393 : (w20.alloc (.cells #[.slice ua353 un354 uc355, .slice ta356 tn357 tc358] 28)).cell? ⟨w7.heap.size, 1, none⟩ = some (.slice ta92 tn93 tc94) := K382.out.2
      have cc394 : (w20.alloc (.cells #[.slice ua353 un354 uc355, .slice ta356 tn357 tc358] 28)).cell? ⟨w20.heap.size, 0, none⟩ = some (.slice ua353 un354 uc355) := K384.out.1
      have cc395 : (w20.alloc (.cells #[.slice ua353 un354 uc355, .slice ta356 tn357 tc358] 28)).cell? ⟨w20.heap.size, 1, none⟩ = some (.slice ta356 tn357 tc358) := K384.out.2
      go_wp2_with fail
      refine (Krl.q_eq (.slice ua353 un354 uc355) (.slice ta356 tn357 tc358) (.slice ua32 un33 uc34) (.slice ta35 tn36 tc37) (Rel.projectV (ns0, Lls.lplain rs0) zs1) (Rel.projectV (ns0, Lls.lplain rs0) zs1) _ (Krl.qOwn_is O378.out) (Krl.qOwn_is O376.out)).mono ?_
      rintro e w21 ⟨rfl, hb21⟩
      clear cc386 cc387 cc388 cc389 cc390 cc391 cc392 cc393 cc394 cc395
      rw [decide_eq_true (Eq.refl ((Rel.projectV (ns0, Lls.lplain rs0) zs1)))]
      have Z396 : Hid (w20.heap.size + 1 ≤ w21.heap.size) := (by have hh := hb21.size; rw [E385.out] at hh; exact hh)
      have O397 : Hid (Krl.QOwn w21 (w3.heap.size) (w4.heap.size) (.slice ua32 un33 uc34) (.slice ta35 tn36 tc37) (Rel.projectV (ns0, Lls.lplain rs0) zs1)) := Krl.qOwn_below O376.out hb21
      have O398 : Hid (Krl.QMarked w21 (w6.heap.size) (w7.heap.size) (.slice ua89 un90 uc91) (.slice ta92 tn93 tc94) 1 nx276) := Krl.qMarked_below O377.out hb21
      have O399 : Hid (Krl.QOwn w21 (w19.heap.size) (w20.heap.size) (.slice ua353 un354 uc355) (.slice ta356 tn357 tc358) (Rel.projectV (ns0, Lls.lplain rs0) zs1)) := Krl.qOwn_below O378.out hb21
      have K400 : Hid (w21.cell? ⟨w.heap.size, 0, none⟩ = some (.slice ua0 un0 uc0) ∧ w21.cell? ⟨w.heap.size, 1, none⟩ = some (.slice ta0 tn0 tc0)) := ⟨(hb21.cell (p := ⟨w.heap.size, 0, none⟩) (Frame.cell_lt K379.out.1)).trans K379.out.1, (hb21.cell (p := ⟨w.heap.size, 1, none⟩) (Frame.cell_lt K379.out.2)).trans K379.out.2⟩
      have K401 : Hid (w21.cell? ⟨w4.heap.size, 0, none⟩ = some (.slice ua32 un33 uc34) ∧ w21.cell? ⟨w4.heap.size, 1, none⟩ = some (.slice ta35 tn36 tc37)) := ⟨(hb21.cell (p := ⟨w4.heap.size, 0, none⟩) (Frame.cell_lt K380.out.1)).trans K380.out.1, (hb21.cell (p := ⟨w4.heap.size, 1, none⟩) (Frame.cell_lt K380.out.2)).trans K380.out.2⟩
      have K402 : Hid (w21.cell? ⟨w5.heap.size, 0, none⟩ = some (.slice ua49 un50 uc51) ∧ w21.cell? ⟨w5.heap.size, 1, none⟩ = some (.slice ta52 tn53 tc54)) := ⟨(hb21.cell (p := ⟨w5.heap.size, 0, none⟩) (Frame.cell_lt K381.out.1)).trans K381.out.1, (hb21.cell (p := ⟨w5.heap.size, 1, none⟩) (Frame.cell_lt K381.out.2)).trans K381.out.2⟩
      have K403 : Hid (w21.cell? ⟨w7.heap.size, 0, none⟩ = some (.slice ua89 un90 uc91) ∧ w21.cell? ⟨w7.heap.size, 1, none⟩ = some (.slice ta92 tn93 tc94)) := ⟨(hb21.cell (p := ⟨w7.heap.size, 0, none⟩) (Frame.cell_lt K382.out.1)).trans K382.out.1, (hb21.cell (p := ⟨w7.heap.size, 1, none⟩) (Frame.cell_lt K382.out.2)).trans K382.out.2⟩
      have K404 : Hid (w21.cell? ⟨w20.heap.size, 0, none⟩ = some (.slice ua353 un354 uc355) ∧ w21.cell? ⟨w20.heap.size, 1, none⟩ = some (.slice ta356 tn357 tc358)) := ⟨(hb21.cell (p := ⟨w20.heap.size, 0, none⟩) (Frame.cell_lt K384.out.1)).trans K384.out.1, (hb21.cell (p := ⟨w20.heap.size, 1, none⟩) (Frame.cell_lt K384.out.2)).trans K384.out.2⟩
      have B405 : Hid (Below w.heap.size w w21) := Frame.next B383.out hb21 B383.out.size
      clear hb21
      have cc406 : w21.cell? ⟨w.heap.size, 0, none⟩ = some (.slice ua0 un0 uc0) := K400.out.1
      have cc407 : w21.cell? ⟨w.heap.size, 1, none⟩ = some (.slice ta0 tn0 tc0) := K400.out.2
      have cc408 : w21.cell? ⟨w4.heap.size, 0, none⟩ = some (.slice ua32 un33 uc34) := K401.out.1
      have cc409 : w21.cell? ⟨w4.heap.size, 1, none⟩ = some (.slice ta35 tn36 tc37) := K401.out.2
      have cc410 : w21.cell? ⟨w5.heap.size, 0, none⟩ = some (.slice ua49 un50 uc51) := K402.out.1
      have cc411 : w21.cell? ⟨w5.heap.size, 1, none⟩ = some (.slice ta52 tn53 tc54) := K402.out.2
      have cc412 : w21.cell? ⟨w7.heap.size, 0, none⟩ = some (.slice ua89 un90 uc91) := K403.out.1
      have cc413 : w21.cell? ⟨w7.heap.size, 1, none⟩ = some (.slice ta92 tn93 tc94) := K403.out.2
      have cc414 : w21.cell? ⟨w20.heap.size, 0, none⟩ = some (.slice ua353 un354 uc355) := K404.out.1
      have cc415 : w21.cell? ⟨w20.heap.size, 1, none⟩ = some (.slice ta356 tn357 tc358) := K404.out.2
      go_wp2_with fail
      refine (Krl.q_held (.slice ua89 un90 uc91) (.slice ta92 tn93 tc94) _ _ 1 nx276 _ O398.out).mono ?_
      rintro e w22 ⟨rfl, hb22⟩
      clear cc406 cc407 cc408 cc409 cc410 cc411 cc412 cc413 cc414 cc415
      have Z416 : Hid (w21.heap.size ≤ w22.heap.size) := hb22.size
      have O417 : Hid (Krl.QOwn w22 (w3.heap.size) (w4.heap.size) (.slice ua32 un33 uc34) (.slice ta35 tn36 tc37) (Rel.projectV (ns0, Lls.lplain rs0) zs1)) := Krl.qOwn_below O397.out hb22
      have O418 : Hid (Krl.QMarked w22 (w6.heap.size) (w7.heap.size) (.slice ua89 un90 uc91) (.slice ta92 tn93 tc94) 1 nx276) := Krl.qMarked_below O398.out hb22
      have O419 : Hid (Krl.QOwn w22 (w19.heap.size) (w20.heap.size) (.slice ua353 un354 uc355) (.slice ta356 tn357 tc358) (Rel.projectV (ns0, Lls.lplain rs0) zs1)) := Krl.qOwn_below O399.out hb22
      have K420 : Hid (w22.cell? ⟨w.heap.size, 0, none⟩ = some (.slice ua0 un0 uc0) ∧ w22.cell? ⟨w.heap.size, 1, none⟩ = some (.slice ta0 tn0 tc0)) := ⟨(hb22.cell (p := ⟨w.heap.size, 0, none⟩) (Frame.cell_lt K400.out.1)).trans K400.out.1, (hb22.cell (p := ⟨w.heap.size, 1, none⟩) (Frame.cell_lt K400.out.2)).trans K400.out.2⟩
      have K421 : Hid (w22.cell? ⟨w4.heap.size, 0, none⟩ = some (.slice ua32 un33 uc34) ∧ w22.cell? ⟨w4.heap.size, 1, none⟩ = some (.slice ta35 tn36 tc37)) := ⟨(hb22.cell (p := ⟨w4.heap.size, 0, none⟩) (Frame.cell_lt K401.out.1)).trans K401.out.1, (hb22.cell (p := ⟨w4.heap.size, 1, none⟩) (Frame.cell_lt K401.out.2)).trans K401.out.2⟩
      have K422 : Hid (w22.cell? ⟨w5.heap.size, 0, none⟩ = some (.slice ua49 un50 uc51) ∧ w22.cell? ⟨w5.heap.size, 1, none⟩ = some (.slice ta52 tn53 tc54)) := ⟨(hb22.cell (p := ⟨w5.heap.size, 0, none⟩) (Frame.cell_lt K402.out.1)).trans K402.out.1, (hb22.cell (p := ⟨w5.heap.size, 1, none⟩) (Frame.cell_lt K402.out.2)).trans K402.out.2⟩
      have K423 : Hid (w22.cell? ⟨w7.heap.size, 0, none⟩ = some (.slice ua89 un90 uc91) ∧ w22.cell? ⟨w7.heap.size, 1, none⟩ = some (.slice ta92 tn93 tc94)) := ⟨(hb22.cell (p := ⟨w7.heap.size, 0, none⟩) (Frame.cell_lt K403.out.1)).trans K403.out.1, (hb22.cell (p := ⟨w7.heap.size, 1, none⟩) (Frame.cell_lt K403.out.2)).trans K403.out.2⟩
      have K424 : Hid (w22.cell? ⟨w20.heap.size, 0, none⟩ = some (.slice ua353 un354 uc355) ∧ w22.cell? ⟨w20.heap.size, 1, none⟩ = some (.slice ta356 tn357 tc358)) := ⟨(hb22.cell (p := ⟨w20.heap.size, 0, none⟩) (Frame.cell_lt K404.out.1)).trans K404.out.1, (hb22.cell (p := ⟨w20.heap.size, 1, none⟩) (Frame.cell_lt K404.out.2)).trans K404.out.2⟩
      have B425 : Hid (Below w.heap.size w w22) := Frame.next B405.out hb22 B405.out.size
      clear hb22
      go_wp2
      go_ret
      exact ⟨rfl, B425.out⟩

set_option maxRecDepth 100000 in
theorem contract (H : Type) (enc : TypeId × Value → H) (W : World) (base : Nat) (args : Array Value) (ds gs : List (DataW H)) (before : List MemPlace)
    (hval0 : ∀ (j : Nat) t v, Try.f4.params[j]? = some t → args[j]? = some v → Value.okWide Try.prog W .any base t v)
    (hW : DataW.Whole enc Try.prog Try.f4.params.toList Rows.fnExactProjectSpec.vars false W args.toList ds gs before) :
    Calls Try.prog 4 args W fun e W' => ∃ v, e = .returned v ∧ Rows.fnExactProjectSpec.post enc Try.prog Try.f4 false true false false W args v W' := by
  refine Frame.law_calls (tb := 4) laidOut (by kernel_rfl) (by kernel_rfl) (by kernel_rfl) Try.underlying4 hW (fun ds gs h1 h2 => ?_) ?_
  · rw [Try.params4] at h1
    match ds, gs, h1, h2 with
    | [_, _], [], _, _ => rfl
  · obtain ⟨p, q, hA0, _, _, _, _⟩ := hW
    have hval : ∀ (j : Nat) t v, Try.f4.params[j]? = some t → args[j]? = some v → Value.okWide Try.prog W .any base t v := hval0
    have hA : DataW.TrodAll enc Try.prog W 0 (fun _ => true) true Try.f4.params.toList args.toList ds p := hA0
    rw [Try.params4] at hA hval
    obtain ⟨v0, vs0, d0, ds0, p0, q0, hargs, rfl, rfl, h0, r0⟩ := trodAll_cons hA
    obtain ⟨v1, vs1, d1, ds1, p1, q1, rfl, rfl, rfl, h1, r1⟩ := trodAll_cons r0
    obtain ⟨rfl, rfl, rfl⟩ := trodAll_nil r1
    obtain rfl : args = #[v0, v1] := by cases args; simp_all
    obtain ⟨ua0, un0, uc0, ns0, ta0, tn0, tc0, rs0, rfl, wu0, wt0⟩ := Opr.relation_of (hval 0 25 v0 rfl rfl) h0
    obtain ⟨a1, len1, cap1, rfl⟩ := okWide_slice Try.underlying22 (hval 1 22 v1 rfl rfl)
    obtain ⟨z1, w1⟩ := Frame.isRow_of Try.underlying22 Try.underlying3 (by kernel_rfl) h1
    exact walk ua0 un0 uc0 ns0 ta0 tn0 tc0 rs0 a1 len1 cap1 z1 W wu0 wt0 w1

set_option maxRecDepth 100000 in
theorem lifted (os : Os) (started : os.Started) (H : Type) (enc : TypeId × Value → H) :
    ReturnsInHanded {} Try.checked os 4 .any (Rows.fnExactProjectSpec.pre6 enc Try.prog Try.f4 Rows.fnExactProjectRow.domain false) (Rows.fnExactProjectSpec.post enc Try.prog Try.f4 false true false false) := by
  refine returnsInHanded_of_change (C := Try.checked) own started (by kernel_rfl) Try.func4
    (ChangeSpec.witness6 (enc := enc) (C := Try.checked) false ⟨#[], #[.agg #[.slice none 0 0, .slice none 0 0], .slice none 0 0], []⟩ 8 (by kernel_rfl) (by kernel_rfl) (by kernel_rfl) (by kernel_rfl)) ?_
  intro W base args ds gs before hval hW _ _
  exact contract H enc W base args ds gs before hval hW

/-- The statement. -/
theorem proved : Rows.FnExactProjectSaid :=
  OpenClaim.holds_of_wide 4 Try.f4 rfl rfl rfl rfl rfl rfl rfl ⟨rfl, rfl, rfl, rfl, rfl⟩ rfl rfl rfl rfl rfl (by kernel_rfl) Try.func4 (by kernel_rfl)
    (of_decide_eq_true (by kernel_rfl)) (by unfold Func.isWrapper; first | (rw [if_pos (by decide +kernel)]; kernel_rfl) | (rw [if_neg (by decide +kernel)]; exact ⟨rfl, rfl⟩))
    (fun os started H enc _ => lifted os started H enc)
#print axioms proved

end Go.Proofs.Yteihhpjneeaiaaa.fnExactProject
