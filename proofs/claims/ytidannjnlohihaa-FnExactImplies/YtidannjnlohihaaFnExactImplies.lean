/-
  Proved: at every argument the law FnExactImplies returns true, and its arguments read afterwards as they did.
-/
import Derived.Test.YtidannjnlohihaaFrame
import Derived.Test.YtidannjnlohihaaSsd
import Derived.Test.YtidannjnlohihaaOpd
namespace Go.Proofs.Ytidannjnlohihaa.fnExactImplies
open Go.ChangeShapes Go.WideShapes Go.ChangeAt Go.RowKit

theorem own : ownKnob Try.prog.godebug = none := by kernel_rfl
theorem laidOut : laidOutB Try.prog = true := by kernel_rfl

open Go.Proofs.Ytidannjnlohihaa.Kep

set_option maxRecDepth 100000 in
set_option maxHeartbeats 4000000 in
theorem walk (i0 : Int) (a1 : Option Addr) (n1 c1 : Nat) (rs1 : List Lls.LV) (ua2 : Option Addr) (un2 uc2 : Nat) (ns2 : List Int) (ta2 : Option Addr) (tn2 tc2 : Nat) (ms2 : List Int) (w : World) (hf0 : (Lit.int .i64 i0).wf = true) (h1 : Dls.IsG w a1 n1 c1 rs1) (hu2 : Frame.IsRow .i64 w ua2 un2 uc2 ns2) (ht2 : Frame.IsRow .i64 w ta2 tn2 tc2 ms2) :
    Calls Try.prog 8 #[.int .i64 i0, .slice a1 n1 c1, .agg #[.slice ua2 un2 uc2, .slice ta2 tn2 tc2]] w fun e w' => e = .returned (.bool true) ∧ Below w.heap.size w w' := by
  have HWF0 : Hid ((Lit.int .i64 i0).wf = true) := hf0
  clear hf0
  have HR1 : Hid (Dls.IsG w a1 n1 c1 rs1) := h1
  clear h1
  have HU2 : Hid (Frame.IsRow .i64 w ua2 un2 uc2 ns2) := hu2
  have HT2 : Hid (Frame.IsRow .i64 w ta2 tn2 tc2 ms2) := ht2
  clear hu2 ht2
  have B0 : Hid (Below w.heap.size w w) := Below.refl _ _
  have B1 : Hid (Below w.heap.size w (w.alloc (.cells #[.slice ua2 un2 uc2, .slice ta2 tn2 tc2] 72))) := B0.out.alloc (by simp; try omega) _
  have K2 : Hid ((w.alloc (.cells #[.slice ua2 un2 uc2, .slice ta2 tn2 tc2] 72)).cell? ⟨w.heap.size, 0, none⟩ = some (.slice ua2 un2 uc2) ∧ (w.alloc (.cells #[.slice ua2 un2 uc2, .slice ta2 tn2 tc2] 72)).cell? ⟨w.heap.size, 1, none⟩ = some (.slice ta2 tn2 tc2)) := by
    show _ ∧ _
    refine ⟨?_, ?_⟩ <;> rw [World.cell?_alloc_at _ _ _ _ (by simp)] <;> rfl
  have E3 : Hid ((w.alloc (.cells #[.slice ua2 un2 uc2, .slice ta2 tn2 tc2] 72)).heap.size = w.heap.size + 1) := by show _ = _; simp
  go_enter Try.func8, Try.ntmps8
  have cc4 : (w.alloc (.cells #[.slice ua2 un2 uc2, .slice ta2 tn2 tc2] 72)).cell? ⟨w.heap.size, 0, none⟩ = some (.slice ua2 un2 uc2) := K2.out.1
  have cc5 : (w.alloc (.cells #[.slice ua2 un2 uc2, .slice ta2 tn2 tc2] 72)).cell? ⟨w.heap.size, 1, none⟩ = some (.slice ta2 tn2 tc2) := K2.out.2
  go_wp2_with fail
  refine (Dlt.szDepS a1 n1 c1 rs1 1048576 _ (HR1.out.below B1.out) (by omega) (by omega)).mono ?_
  rintro e w1 ⟨rfl, hb1⟩
  clear cc4 cc5
  have Z6 : Hid (w.heap.size + 1 ≤ w1.heap.size) := (by have hh := hb1.size; rw [E3.out] at hh; exact hh)
  have K7 : Hid (w1.cell? ⟨w.heap.size, 0, none⟩ = some (.slice ua2 un2 uc2) ∧ w1.cell? ⟨w.heap.size, 1, none⟩ = some (.slice ta2 tn2 tc2)) := ⟨(hb1.cell (p := ⟨w.heap.size, 0, none⟩) (Frame.cell_lt K2.out.1)).trans K2.out.1, (hb1.cell (p := ⟨w.heap.size, 1, none⟩) (Frame.cell_lt K2.out.2)).trans K2.out.2⟩
  have B8 : Hid (Below w.heap.size w w1) := Frame.next B1.out hb1 B1.out.size
  clear hb1
  by_cases hL1 : Lls.left 1048576 ((n1 : Int) + Lls.sumL rs1) < 0
  · go_wp2
    go_ret
    exact ⟨rfl, B8.out⟩
  · have ht1 : (n1 : Int) + Lls.sumL rs1 ≤ 1048576 := by have hq := Lls.sumL_nonneg rs1; unfold Lls.left at hL1; split at hL1 <;> omega
    have A1 : Hid (Dlk.DIs w (.slice a1 n1 c1) (Dls.dpl rs1)) := ⟨_, _, _, _, rfl, HR1.out, rfl, ht1⟩
    have hB1 : Lls.left 1048576 ((n1 : Int) + Lls.sumL rs1) ≤ 1048576 := Krl.left_le _ _ (by have hq := Lls.sumL_nonneg rs1; omega) (by omega)
    clear ht1
    generalize hG1 : Lls.left 1048576 ((n1 : Int) + Lls.sumL rs1) = L9 at hL1 hB1 ⊢
    clear hG1
    have cc10 : w1.cell? ⟨w.heap.size, 0, none⟩ = some (.slice ua2 un2 uc2) := K7.out.1
    have cc11 : w1.cell? ⟨w.heap.size, 1, none⟩ = some (.slice ta2 tn2 tc2) := K7.out.2
    go_wp2_with fail
    refine (Dls.e_sz ua2 ta2 un2 uc2 tn2 tc2 L9 _ (Nat.le_trans HU2.out.fits HU2.out.max) (Nat.le_trans HT2.out.fits HT2.out.max) (by omega) (by omega)).mono ?_
    rintro e w2 ⟨rfl, hb2⟩
    clear cc10 cc11
    have Z12 : Hid (w1.heap.size ≤ w2.heap.size) := hb2.size
    have K13 : Hid (w2.cell? ⟨w.heap.size, 0, none⟩ = some (.slice ua2 un2 uc2) ∧ w2.cell? ⟨w.heap.size, 1, none⟩ = some (.slice ta2 tn2 tc2)) := ⟨(hb2.cell (p := ⟨w.heap.size, 0, none⟩) (Frame.cell_lt K7.out.1)).trans K7.out.1, (hb2.cell (p := ⟨w.heap.size, 1, none⟩) (Frame.cell_lt K7.out.2)).trans K7.out.2⟩
    have B14 : Hid (Below w.heap.size w w2) := Frame.next B8.out hb2 B8.out.size
    clear hb2
    by_cases hL2 : Lls.left L9 ((un2 : Int) + (tn2 : Int)) < 0
    · go_wp2
      go_ret
      exact ⟨rfl, B14.out⟩
    · have ht2 : un2 ≤ 1048576 ∧ tn2 ≤ 1048576 := by unfold Lls.left at hL2; split at hL2 <;> omega
      have A2 : Hid (Dls.EIs w (.slice ua2 un2 uc2) (.slice ta2 tn2 tc2) (ns2, ms2)) := ⟨⟨_, _, _, rfl, HU2.out, ht2.1⟩, ⟨_, _, _, rfl, HT2.out, ht2.2⟩⟩
      have hB2 : Lls.left L9 ((un2 : Int) + (tn2 : Int)) ≤ 1048576 := Krl.left_le _ _ (by omega) (by omega)
      clear ht2
      generalize hG2 : Lls.left L9 ((un2 : Int) + (tn2 : Int)) = L15 at hL2 hB2 ⊢
      clear hG2
      go_wp2_with fail
      have K16 : Hid ((w2.drew).cell? ⟨w.heap.size, 0, none⟩ = some (.slice ua2 un2 uc2) ∧ (w2.drew).cell? ⟨w.heap.size, 1, none⟩ = some (.slice ta2 tn2 tc2)) := ⟨(((Below.refl _ _).drew : Below w2.heap.size w2 w2.drew).cell (p := ⟨w.heap.size, 0, none⟩) (Frame.cell_lt K13.out.1)).trans K13.out.1, (((Below.refl _ _).drew : Below w2.heap.size w2 w2.drew).cell (p := ⟨w.heap.size, 1, none⟩) (Frame.cell_lt K13.out.2)).trans K13.out.2⟩
      have B17 : Hid (Below w.heap.size w w2.drew) := Frame.next B14.out ((Below.refl _ _).drew : Below w2.heap.size w2 w2.drew) B14.out.size
      have E18 : Hid (w2.drew.heap.size = w2.heap.size) := rfl
      have S19 : Hid ((w2.drew).cell? ⟨w.heap.size, 0, none⟩ = some (.slice ua2 un2 uc2) ∧ (w2.drew).cell? ⟨w.heap.size, 1, none⟩ = some (.slice ta2 tn2 tc2)) := ⟨K16.out.1, K16.out.2⟩
      go_region_held3 (fun w' => (w').cell? ⟨w.heap.size, 0, none⟩ = some (.slice ua2 un2 uc2) ∧ (w').cell? ⟨w.heap.size, 1, none⟩ = some (.slice ta2 tn2 tc2)) (first | exact S19.out | exact S25.out | exact S38.out | exact S43.out) (first | (go_at_call 42; refine (Dlk.d_to (.slice a1 n1 c1) (Dls.dpl rs1) _ (Dlk.dIs_below A1.out B17.out)).mono ?_; rintro e w3 ⟨u20, rfl, ho, hb3⟩; have O21 : Hid (Dlk.DOwn w3 (w2.heap.size) (w3.heap.size) u20 (Dls.dpl rs1)) := (by have hh := ho; rw [E18.out] at hh; exact hh); have Z22 : Hid (w2.heap.size ≤ w3.heap.size) := (by have hh := hb3.size; rw [E18.out] at hh; exact hh); have K23 : Hid (w3.cell? ⟨w.heap.size, 0, none⟩ = some (.slice ua2 un2 uc2) ∧ w3.cell? ⟨w.heap.size, 1, none⟩ = some (.slice ta2 tn2 tc2)) := ⟨(hb3.cell (p := ⟨w.heap.size, 0, none⟩) (Frame.cell_lt K16.out.1)).trans K16.out.1, (hb3.cell (p := ⟨w.heap.size, 1, none⟩) (Frame.cell_lt K16.out.2)).trans K16.out.2⟩; have B24 : Hid (Below w.heap.size w w3) := Frame.next B17.out hb3 B17.out.size; clear ho hb3; have S25 : Hid (w3.cell? ⟨w.heap.size, 0, none⟩ = some (.slice ua2 un2 uc2) ∧ w3.cell? ⟨w.heap.size, 1, none⟩ = some (.slice ta2 tn2 tc2)) := ⟨K23.out.1, K23.out.2⟩) | (go_at_call 50; refine (Dls.e_to (.slice ua2 un2 uc2) (.slice ta2 tn2 tc2) (ns2, ms2) _ (Dls.eIs_below A2.out B24.out)).mono ?_; rintro e w4 ⟨ua27, un28, uc29, ta30, tn31, tc32, rfl, ho, hb4⟩; have O33 : Hid (Dls.EOwn w4 (w3.heap.size) (w4.heap.size) (.slice ua27 un28 uc29) (.slice ta30 tn31 tc32) (ns2, ms2)) := ho; have Z34 : Hid (w3.heap.size ≤ w4.heap.size) := hb4.size; have O35 : Hid (Dlk.DOwn w4 (w2.heap.size) (w3.heap.size) u20 (Dls.dpl rs1)) := Dlk.dOwn_below O21.out hb4; have K36 : Hid (w4.cell? ⟨w.heap.size, 0, none⟩ = some (.slice ua2 un2 uc2) ∧ w4.cell? ⟨w.heap.size, 1, none⟩ = some (.slice ta2 tn2 tc2)) := ⟨(hb4.cell (p := ⟨w.heap.size, 0, none⟩) (Frame.cell_lt K23.out.1)).trans K23.out.1, (hb4.cell (p := ⟨w.heap.size, 1, none⟩) (Frame.cell_lt K23.out.2)).trans K23.out.2⟩; have B37 : Hid (Below w.heap.size w w4) := Frame.next B24.out hb4 B24.out.size; clear ho hb4; have S38 : Hid (w4.cell? ⟨w.heap.size, 0, none⟩ = some (.slice ua2 un2 uc2) ∧ w4.cell? ⟨w.heap.size, 1, none⟩ = some (.slice ta2 tn2 tc2)) := ⟨K36.out.1, K36.out.2⟩) | (go_at_call 15; refine (Ssd.spec_Implies i0 u20 (.slice ua27 un28 uc29) (.slice ta30 tn31 tc32) (Dls.dpl rs1) (ns2, ms2) _ (Dlk.dOwn_is O35.out) (Dls.eOwn_is O33.out)).mono ?_; rintro e w5 ⟨rfl, hb5⟩; have Z40 : Hid (w4.heap.size ≤ w5.heap.size) := hb5.size; have K41 : Hid (w5.cell? ⟨w.heap.size, 0, none⟩ = some (.slice ua2 un2 uc2) ∧ w5.cell? ⟨w.heap.size, 1, none⟩ = some (.slice ta2 tn2 tc2)) := ⟨(hb5.cell (p := ⟨w.heap.size, 0, none⟩) (Frame.cell_lt K36.out.1)).trans K36.out.1, (hb5.cell (p := ⟨w.heap.size, 1, none⟩) (Frame.cell_lt K36.out.2)).trans K36.out.2⟩; have B42 : Hid (Below w.heap.size w w5) := Frame.next B37.out hb5 B37.out.size; clear  hb5; have S43 : Hid (w5.cell? ⟨w.heap.size, 0, none⟩ = some (.slice ua2 un2 uc2) ∧ w5.cell? ⟨w.heap.size, 1, none⟩ = some (.slice ta2 tn2 tc2)) := ⟨K41.out.1, K41.out.2⟩))
      have cc45 : w5.cell? ⟨w.heap.size, 0, none⟩ = some (.slice ua2 un2 uc2) := K41.out.1
      have cc46 : w5.cell? ⟨w.heap.size, 1, none⟩ = some (.slice ta2 tn2 tc2) := K41.out.2
      go_wp2_with fail
      refine (Dlk.d_to (.slice a1 n1 c1) (Dls.dpl rs1) _ (Dlk.dIs_below A1.out B42.out)).mono ?_
      rintro e w6 ⟨u44, rfl, ho, hb6⟩
      clear cc45 cc46
      have O47 : Hid (Dlk.DOwn w6 (w5.heap.size) (w6.heap.size) u44 (Dls.dpl rs1)) := ho
      have Z48 : Hid (w5.heap.size ≤ w6.heap.size) := hb6.size
      have K49 : Hid (w6.cell? ⟨w.heap.size, 0, none⟩ = some (.slice ua2 un2 uc2) ∧ w6.cell? ⟨w.heap.size, 1, none⟩ = some (.slice ta2 tn2 tc2)) := ⟨(hb6.cell (p := ⟨w.heap.size, 0, none⟩) (Frame.cell_lt K41.out.1)).trans K41.out.1, (hb6.cell (p := ⟨w.heap.size, 1, none⟩) (Frame.cell_lt K41.out.2)).trans K41.out.2⟩
      have B50 : Hid (Below w.heap.size w w6) := Frame.next B42.out hb6 B42.out.size
      clear ho hb6
      have cc58 : w6.cell? ⟨w.heap.size, 0, none⟩ = some (.slice ua2 un2 uc2) := K49.out.1
      have cc59 : w6.cell? ⟨w.heap.size, 1, none⟩ = some (.slice ta2 tn2 tc2) := K49.out.2
      go_wp2_with fail
      refine (Dls.e_to (.slice ua2 un2 uc2) (.slice ta2 tn2 tc2) (ns2, ms2) _ (Dls.eIs_below A2.out B50.out)).mono ?_
      rintro e w7 ⟨ua52, un53, uc54, ta55, tn56, tc57, rfl, ho, hb7⟩
      clear cc58 cc59
      have O60 : Hid (Dls.EOwn w7 (w6.heap.size) (w7.heap.size) (.slice ua52 un53 uc54) (.slice ta55 tn56 tc57) (ns2, ms2)) := ho
      have Z61 : Hid (w6.heap.size ≤ w7.heap.size) := hb7.size
      have O62 : Hid (Dlk.DOwn w7 (w5.heap.size) (w6.heap.size) u44 (Dls.dpl rs1)) := Dlk.dOwn_below O47.out hb7
      have K63 : Hid (w7.cell? ⟨w.heap.size, 0, none⟩ = some (.slice ua2 un2 uc2) ∧ w7.cell? ⟨w.heap.size, 1, none⟩ = some (.slice ta2 tn2 tc2)) := ⟨(hb7.cell (p := ⟨w.heap.size, 0, none⟩) (Frame.cell_lt K49.out.1)).trans K49.out.1, (hb7.cell (p := ⟨w.heap.size, 1, none⟩) (Frame.cell_lt K49.out.2)).trans K49.out.2⟩
      have B64 : Hid (Below w.heap.size w w7) := Frame.next B50.out hb7 B50.out.size
      clear ho hb7
      have O66 : Hid (Dlk.DOwn (w7.alloc (.cells #[.slice ua52 un53 uc54, .slice ta55 tn56 tc57] 26)) (w5.heap.size) (w6.heap.size) u44 (Dls.dpl rs1)) := Dlk.dOwn_below O62.out ((Below.refl w7.heap.size w7).alloc (Nat.le_refl _) (.cells #[.slice ua52 un53 uc54, .slice ta55 tn56 tc57] 26))
      have O67 : Hid (Dls.EOwn (w7.alloc (.cells #[.slice ua52 un53 uc54, .slice ta55 tn56 tc57] 26)) (w6.heap.size) (w7.heap.size) (.slice ua52 un53 uc54) (.slice ta55 tn56 tc57) (ns2, ms2)) := Dls.eOwn_below O60.out ((Below.refl w7.heap.size w7).alloc (Nat.le_refl _) (.cells #[.slice ua52 un53 uc54, .slice ta55 tn56 tc57] 26))
      have K68 : Hid ((w7.alloc (.cells #[.slice ua52 un53 uc54, .slice ta55 tn56 tc57] 26)).cell? ⟨w.heap.size, 0, none⟩ = some (.slice ua2 un2 uc2) ∧ (w7.alloc (.cells #[.slice ua52 un53 uc54, .slice ta55 tn56 tc57] 26)).cell? ⟨w.heap.size, 1, none⟩ = some (.slice ta2 tn2 tc2)) := ⟨(((Below.refl w7.heap.size w7).alloc (Nat.le_refl _) (.cells #[.slice ua52 un53 uc54, .slice ta55 tn56 tc57] 26)).cell (p := ⟨w.heap.size, 0, none⟩) (Frame.cell_lt K63.out.1)).trans K63.out.1, (((Below.refl w7.heap.size w7).alloc (Nat.le_refl _) (.cells #[.slice ua52 un53 uc54, .slice ta55 tn56 tc57] 26)).cell (p := ⟨w.heap.size, 1, none⟩) (Frame.cell_lt K63.out.2)).trans K63.out.2⟩
      have B69 : Hid (Below w.heap.size w (w7.alloc (.cells #[.slice ua52 un53 uc54, .slice ta55 tn56 tc57] 26))) := Frame.next B64.out ((Below.refl w7.heap.size w7).alloc (Nat.le_refl _) (.cells #[.slice ua52 un53 uc54, .slice ta55 tn56 tc57] 26)) B64.out.size
      have K70 : Hid ((w7.alloc (.cells #[.slice ua52 un53 uc54, .slice ta55 tn56 tc57] 26)).cell? ⟨w7.heap.size, 0, none⟩ = some (.slice ua52 un53 uc54) ∧ (w7.alloc (.cells #[.slice ua52 un53 uc54, .slice ta55 tn56 tc57] 26)).cell? ⟨w7.heap.size, 1, none⟩ = some (.slice ta55 tn56 tc57)) := by
        show _ ∧ _
        refine ⟨?_, ?_⟩ <;> rw [World.cell?_alloc_at _ _ _ _ rfl] <;> rfl
      have E71 : Hid ((w7.alloc (.cells #[.slice ua52 un53 uc54, .slice ta55 tn56 tc57] 26)).heap.size = w7.heap.size + 1) := by show _ = _; simp
      have cc72 : (w7.alloc (.cells #[.slice ua52 un53 uc54, .slice ta55 tn56 tc57] 26)).cell? ⟨w.heap.size, 0, none⟩ = some (.slice ua2 un2 uc2) := K68.out.1
      have cc73 : (w7.alloc (.cells #[.slice ua52 un53 uc54, .slice ta55 tn56 tc57] 26)).cell? ⟨w.heap.size, 1, none⟩ = some (.slice ta2 tn2 tc2) := K68.out.2
      have cc74 : (w7.alloc (.cells #[.slice ua52 un53 uc54, .slice ta55 tn56 tc57] 26)).cell? ⟨w7.heap.size, 0, none⟩ = some (.slice ua52 un53 uc54) := K70.out.1
      have cc75 : (w7.alloc (.cells #[.slice ua52 un53 uc54, .slice ta55 tn56 tc57] 26)).cell? ⟨w7.heap.size, 1, none⟩ = some (.slice ta55 tn56 tc57) := K70.out.2
      go_wp2_with fail
      refine (Csd.impl_Implies i0 u44 (.slice ua52 un53 uc54) (.slice ta55 tn56 tc57) (Dls.dpl rs1) (ns2, ms2) _ (Dlk.dOwn_is O66.out) (Dls.eOwn_is O67.out)).mono ?_
      rintro e w8 ⟨rfl, hb8⟩
      clear cc72 cc73 cc74 cc75
      have Z76 : Hid (w7.heap.size + 1 ≤ w8.heap.size) := (by have hh := hb8.size; rw [E71.out] at hh; exact hh)
      have O77 : Hid (Dlk.DOwn w8 (w5.heap.size) (w6.heap.size) u44 (Dls.dpl rs1)) := Dlk.dOwn_below O66.out hb8
      have O78 : Hid (Dls.EOwn w8 (w6.heap.size) (w7.heap.size) (.slice ua52 un53 uc54) (.slice ta55 tn56 tc57) (ns2, ms2)) := Dls.eOwn_below O67.out hb8
      have K79 : Hid (w8.cell? ⟨w.heap.size, 0, none⟩ = some (.slice ua2 un2 uc2) ∧ w8.cell? ⟨w.heap.size, 1, none⟩ = some (.slice ta2 tn2 tc2)) := ⟨(hb8.cell (p := ⟨w.heap.size, 0, none⟩) (Frame.cell_lt K68.out.1)).trans K68.out.1, (hb8.cell (p := ⟨w.heap.size, 1, none⟩) (Frame.cell_lt K68.out.2)).trans K68.out.2⟩
      have K80 : Hid (w8.cell? ⟨w7.heap.size, 0, none⟩ = some (.slice ua52 un53 uc54) ∧ w8.cell? ⟨w7.heap.size, 1, none⟩ = some (.slice ta55 tn56 tc57)) := ⟨(hb8.cell (p := ⟨w7.heap.size, 0, none⟩) (Frame.cell_lt K70.out.1)).trans K70.out.1, (hb8.cell (p := ⟨w7.heap.size, 1, none⟩) (Frame.cell_lt K70.out.2)).trans K70.out.2⟩
      have B81 : Hid (Below w.heap.size w w8) := Frame.next B69.out hb8 B69.out.size
      clear  hb8
      have cc83 : w8.cell? ⟨w.heap.size, 0, none⟩ = some (.slice ua2 un2 uc2) := K79.out.1
      have cc84 : w8.cell? ⟨w.heap.size, 1, none⟩ = some (.slice ta2 tn2 tc2) := K79.out.2
      have cc85 : w8.cell? ⟨w7.heap.size, 0, none⟩ = some (.slice ua52 un53 uc54) := K80.out.1
      have cc86 : w8.cell? ⟨w7.heap.size, 1, none⟩ = some (.slice ta55 tn56 tc57) := K80.out.2
      go_wp2_with fail
      refine (Dlk.d_to (.slice a1 n1 c1) (Dls.dpl rs1) _ (Dlk.dIs_below A1.out B81.out)).mono ?_
      rintro e w9 ⟨u82, rfl, ho, hb9⟩
      clear cc83 cc84 cc85 cc86
      have O87 : Hid (Dlk.DOwn w9 (w8.heap.size) (w9.heap.size) u82 (Dls.dpl rs1)) := ho
      have Z88 : Hid (w8.heap.size ≤ w9.heap.size) := hb9.size
      have O89 : Hid (Dlk.DOwn w9 (w5.heap.size) (w6.heap.size) u44 (Dls.dpl rs1)) := Dlk.dOwn_below O77.out hb9
      have O90 : Hid (Dls.EOwn w9 (w6.heap.size) (w7.heap.size) (.slice ua52 un53 uc54) (.slice ta55 tn56 tc57) (ns2, ms2)) := Dls.eOwn_below O78.out hb9
      have K91 : Hid (w9.cell? ⟨w.heap.size, 0, none⟩ = some (.slice ua2 un2 uc2) ∧ w9.cell? ⟨w.heap.size, 1, none⟩ = some (.slice ta2 tn2 tc2)) := ⟨(hb9.cell (p := ⟨w.heap.size, 0, none⟩) (Frame.cell_lt K79.out.1)).trans K79.out.1, (hb9.cell (p := ⟨w.heap.size, 1, none⟩) (Frame.cell_lt K79.out.2)).trans K79.out.2⟩
      have K92 : Hid (w9.cell? ⟨w7.heap.size, 0, none⟩ = some (.slice ua52 un53 uc54) ∧ w9.cell? ⟨w7.heap.size, 1, none⟩ = some (.slice ta55 tn56 tc57)) := ⟨(hb9.cell (p := ⟨w7.heap.size, 0, none⟩) (Frame.cell_lt K80.out.1)).trans K80.out.1, (hb9.cell (p := ⟨w7.heap.size, 1, none⟩) (Frame.cell_lt K80.out.2)).trans K80.out.2⟩
      have B93 : Hid (Below w.heap.size w w9) := Frame.next B81.out hb9 B81.out.size
      clear ho hb9
      have cc95 : w9.cell? ⟨w.heap.size, 0, none⟩ = some (.slice ua2 un2 uc2) := K91.out.1
      have cc96 : w9.cell? ⟨w.heap.size, 1, none⟩ = some (.slice ta2 tn2 tc2) := K91.out.2
      have cc97 : w9.cell? ⟨w7.heap.size, 0, none⟩ = some (.slice ua52 un53 uc54) := K92.out.1
      have cc98 : w9.cell? ⟨w7.heap.size, 1, none⟩ = some (.slice ta55 tn56 tc57) := K92.out.2
      go_wp2_with fail
      refine (Dlk.d_eq u44 u82 (Dls.dpl rs1) (Dls.dpl rs1) _ (Dlk.dOwn_is O89.out) (Dlk.dOwn_is O87.out)).mono ?_
      rintro e w10 ⟨rfl, hb10⟩
      clear cc95 cc96 cc97 cc98
      rw [decide_eq_true (Eq.refl ((Dls.dpl rs1)))]
      have Z99 : Hid (w9.heap.size ≤ w10.heap.size) := hb10.size
      have O100 : Hid (Dlk.DOwn w10 (w5.heap.size) (w6.heap.size) u44 (Dls.dpl rs1)) := Dlk.dOwn_below O89.out hb10
      have O101 : Hid (Dls.EOwn w10 (w6.heap.size) (w7.heap.size) (.slice ua52 un53 uc54) (.slice ta55 tn56 tc57) (ns2, ms2)) := Dls.eOwn_below O90.out hb10
      have O102 : Hid (Dlk.DOwn w10 (w8.heap.size) (w9.heap.size) u82 (Dls.dpl rs1)) := Dlk.dOwn_below O87.out hb10
      have K103 : Hid (w10.cell? ⟨w.heap.size, 0, none⟩ = some (.slice ua2 un2 uc2) ∧ w10.cell? ⟨w.heap.size, 1, none⟩ = some (.slice ta2 tn2 tc2)) := ⟨(hb10.cell (p := ⟨w.heap.size, 0, none⟩) (Frame.cell_lt K91.out.1)).trans K91.out.1, (hb10.cell (p := ⟨w.heap.size, 1, none⟩) (Frame.cell_lt K91.out.2)).trans K91.out.2⟩
      have K104 : Hid (w10.cell? ⟨w7.heap.size, 0, none⟩ = some (.slice ua52 un53 uc54) ∧ w10.cell? ⟨w7.heap.size, 1, none⟩ = some (.slice ta55 tn56 tc57)) := ⟨(hb10.cell (p := ⟨w7.heap.size, 0, none⟩) (Frame.cell_lt K92.out.1)).trans K92.out.1, (hb10.cell (p := ⟨w7.heap.size, 1, none⟩) (Frame.cell_lt K92.out.2)).trans K92.out.2⟩
      have B105 : Hid (Below w.heap.size w w10) := Frame.next B93.out hb10 B93.out.size
      clear hb10
      go_wp2_with fail
      have O106 : Hid (Dlk.DOwn w10.drew (w5.heap.size) (w6.heap.size) u44 (Dls.dpl rs1)) := Dlk.dOwn_below O100.out ((Below.refl _ _).drew : Below w10.heap.size w10 w10.drew)
      have O107 : Hid (Dls.EOwn w10.drew (w6.heap.size) (w7.heap.size) (.slice ua52 un53 uc54) (.slice ta55 tn56 tc57) (ns2, ms2)) := Dls.eOwn_below O101.out ((Below.refl _ _).drew : Below w10.heap.size w10 w10.drew)
      have K108 : Hid ((w10.drew).cell? ⟨w.heap.size, 0, none⟩ = some (.slice ua2 un2 uc2) ∧ (w10.drew).cell? ⟨w.heap.size, 1, none⟩ = some (.slice ta2 tn2 tc2)) := ⟨(((Below.refl _ _).drew : Below w10.heap.size w10 w10.drew).cell (p := ⟨w.heap.size, 0, none⟩) (Frame.cell_lt K103.out.1)).trans K103.out.1, (((Below.refl _ _).drew : Below w10.heap.size w10 w10.drew).cell (p := ⟨w.heap.size, 1, none⟩) (Frame.cell_lt K103.out.2)).trans K103.out.2⟩
      have K109 : Hid ((w10.drew).cell? ⟨w7.heap.size, 0, none⟩ = some (.slice ua52 un53 uc54) ∧ (w10.drew).cell? ⟨w7.heap.size, 1, none⟩ = some (.slice ta55 tn56 tc57)) := ⟨(((Below.refl _ _).drew : Below w10.heap.size w10 w10.drew).cell (p := ⟨w7.heap.size, 0, none⟩) (Frame.cell_lt K104.out.1)).trans K104.out.1, (((Below.refl _ _).drew : Below w10.heap.size w10 w10.drew).cell (p := ⟨w7.heap.size, 1, none⟩) (Frame.cell_lt K104.out.2)).trans K104.out.2⟩
      have B110 : Hid (Below w.heap.size w w10.drew) := Frame.next B105.out ((Below.refl _ _).drew : Below w10.heap.size w10 w10.drew) B105.out.size
      have E111 : Hid (w10.drew.heap.size = w10.heap.size) := rfl
      have S112 : Hid ((w10.drew).cell? ⟨w.heap.size, 0, none⟩ = some (.slice ua2 un2 uc2) ∧ (w10.drew).cell? ⟨w.heap.size, 1, none⟩ = some (.slice ta2 tn2 tc2) ∧ (w10.drew).cell? ⟨w7.heap.size, 0, none⟩ = some (.slice ua52 un53 uc54) ∧ (w10.drew).cell? ⟨w7.heap.size, 1, none⟩ = some (.slice ta55 tn56 tc57)) := ⟨K108.out.1, K108.out.2, K109.out.1, K109.out.2⟩
      go_region_held3 (fun w' => (w').cell? ⟨w.heap.size, 0, none⟩ = some (.slice ua2 un2 uc2) ∧ (w').cell? ⟨w.heap.size, 1, none⟩ = some (.slice ta2 tn2 tc2) ∧ (w').cell? ⟨w7.heap.size, 0, none⟩ = some (.slice ua52 un53 uc54) ∧ (w').cell? ⟨w7.heap.size, 1, none⟩ = some (.slice ta55 tn56 tc57)) (first | exact S112.out | exact S126.out | exact S135.out) (first | (go_at_call 50; refine (Dls.e_to (.slice ua2 un2 uc2) (.slice ta2 tn2 tc2) (ns2, ms2) _ (Dls.eIs_below A2.out B110.out)).mono ?_; rintro e w11 ⟨ua113, un114, uc115, ta116, tn117, tc118, rfl, ho, hb11⟩; have O119 : Hid (Dls.EOwn w11 (w10.heap.size) (w11.heap.size) (.slice ua113 un114 uc115) (.slice ta116 tn117 tc118) (ns2, ms2)) := (by have hh := ho; rw [E111.out] at hh; exact hh); have Z120 : Hid (w10.heap.size ≤ w11.heap.size) := (by have hh := hb11.size; rw [E111.out] at hh; exact hh); have O121 : Hid (Dlk.DOwn w11 (w5.heap.size) (w6.heap.size) u44 (Dls.dpl rs1)) := Dlk.dOwn_below O106.out hb11; have O122 : Hid (Dls.EOwn w11 (w6.heap.size) (w7.heap.size) (.slice ua52 un53 uc54) (.slice ta55 tn56 tc57) (ns2, ms2)) := Dls.eOwn_below O107.out hb11; have K123 : Hid (w11.cell? ⟨w.heap.size, 0, none⟩ = some (.slice ua2 un2 uc2) ∧ w11.cell? ⟨w.heap.size, 1, none⟩ = some (.slice ta2 tn2 tc2)) := ⟨(hb11.cell (p := ⟨w.heap.size, 0, none⟩) (Frame.cell_lt K108.out.1)).trans K108.out.1, (hb11.cell (p := ⟨w.heap.size, 1, none⟩) (Frame.cell_lt K108.out.2)).trans K108.out.2⟩; have K124 : Hid (w11.cell? ⟨w7.heap.size, 0, none⟩ = some (.slice ua52 un53 uc54) ∧ w11.cell? ⟨w7.heap.size, 1, none⟩ = some (.slice ta55 tn56 tc57)) := ⟨(hb11.cell (p := ⟨w7.heap.size, 0, none⟩) (Frame.cell_lt K109.out.1)).trans K109.out.1, (hb11.cell (p := ⟨w7.heap.size, 1, none⟩) (Frame.cell_lt K109.out.2)).trans K109.out.2⟩; have B125 : Hid (Below w.heap.size w w11) := Frame.next B110.out hb11 B110.out.size; clear ho hb11; have S126 : Hid (w11.cell? ⟨w.heap.size, 0, none⟩ = some (.slice ua2 un2 uc2) ∧ w11.cell? ⟨w.heap.size, 1, none⟩ = some (.slice ta2 tn2 tc2) ∧ w11.cell? ⟨w7.heap.size, 0, none⟩ = some (.slice ua52 un53 uc54) ∧ w11.cell? ⟨w7.heap.size, 1, none⟩ = some (.slice ta55 tn56 tc57)) := ⟨K123.out.1, K123.out.2, K124.out.1, K124.out.2⟩) | (go_at_call 51; refine (Dls.e_eq (.slice ua52 un53 uc54) (.slice ta55 tn56 tc57) (.slice ua113 un114 uc115) (.slice ta116 tn117 tc118) (ns2, ms2) (ns2, ms2) _ (Dls.eOwn_is O122.out) (Dls.eOwn_is O119.out)).mono ?_; rintro e w12 ⟨rfl, hb12⟩; rw [decide_eq_true (Eq.refl ((ns2, ms2)))]; have Z128 : Hid (w11.heap.size ≤ w12.heap.size) := hb12.size; have O129 : Hid (Dlk.DOwn w12 (w5.heap.size) (w6.heap.size) u44 (Dls.dpl rs1)) := Dlk.dOwn_below O121.out hb12; have O130 : Hid (Dls.EOwn w12 (w6.heap.size) (w7.heap.size) (.slice ua52 un53 uc54) (.slice ta55 tn56 tc57) (ns2, ms2)) := Dls.eOwn_below O122.out hb12; have O131 : Hid (Dls.EOwn w12 (w10.heap.size) (w11.heap.size) (.slice ua113 un114 uc115) (.slice ta116 tn117 tc118) (ns2, ms2)) := Dls.eOwn_below O119.out hb12; have K132 : Hid (w12.cell? ⟨w.heap.size, 0, none⟩ = some (.slice ua2 un2 uc2) ∧ w12.cell? ⟨w.heap.size, 1, none⟩ = some (.slice ta2 tn2 tc2)) := ⟨(hb12.cell (p := ⟨w.heap.size, 0, none⟩) (Frame.cell_lt K123.out.1)).trans K123.out.1, (hb12.cell (p := ⟨w.heap.size, 1, none⟩) (Frame.cell_lt K123.out.2)).trans K123.out.2⟩; have K133 : Hid (w12.cell? ⟨w7.heap.size, 0, none⟩ = some (.slice ua52 un53 uc54) ∧ w12.cell? ⟨w7.heap.size, 1, none⟩ = some (.slice ta55 tn56 tc57)) := ⟨(hb12.cell (p := ⟨w7.heap.size, 0, none⟩) (Frame.cell_lt K124.out.1)).trans K124.out.1, (hb12.cell (p := ⟨w7.heap.size, 1, none⟩) (Frame.cell_lt K124.out.2)).trans K124.out.2⟩; have B134 : Hid (Below w.heap.size w w12) := Frame.next B125.out hb12 B125.out.size; clear hb12; have S135 : Hid (w12.cell? ⟨w.heap.size, 0, none⟩ = some (.slice ua2 un2 uc2) ∧ w12.cell? ⟨w.heap.size, 1, none⟩ = some (.slice ta2 tn2 tc2) ∧ w12.cell? ⟨w7.heap.size, 0, none⟩ = some (.slice ua52 un53 uc54) ∧ w12.cell? ⟨w7.heap.size, 1, none⟩ = some (.slice ta55 tn56 tc57)) := ⟨K132.out.1, K132.out.2, K133.out.1, K133.out.2⟩))
      go_wp2
      go_ret
      exact ⟨rfl, B134.out⟩

set_option maxRecDepth 100000 in
theorem contract (H : Type) (enc : TypeId × Value → H) (W : World) (base : Nat) (args : Array Value) (ds gs : List (DataW H)) (before : List MemPlace)
    (hval0 : ∀ (j : Nat) t v, Try.f8.params[j]? = some t → args[j]? = some v → Value.okWide Try.prog W .any base t v)
    (hW : DataW.Whole enc Try.prog Try.f8.params.toList Rows.fnExactImpliesSpec.vars false W args.toList ds gs before) :
    Calls Try.prog 8 args W fun e W' => ∃ v, e = .returned v ∧ Rows.fnExactImpliesSpec.post enc Try.prog Try.f8 false true false false W args v W' := by
  refine Frame.law_calls (tb := 4) laidOut (by kernel_rfl) (by kernel_rfl) (by kernel_rfl) Try.underlying4 hW (fun ds gs h1 h2 => ?_) ?_
  · rw [Try.params8] at h1
    match ds, gs, h1, h2 with
    | [_, _, _], [], _, _ => rfl
  · obtain ⟨p, q, hA0, _, _, _, _⟩ := hW
    have hval : ∀ (j : Nat) t v, Try.f8.params[j]? = some t → args[j]? = some v → Value.okWide Try.prog W .any base t v := hval0
    have hA : DataW.TrodAll enc Try.prog W 0 (fun _ => true) true Try.f8.params.toList args.toList ds p := hA0
    rw [Try.params8] at hA hval
    obtain ⟨v0, vs0, d0, ds0, p0, q0, hargs, rfl, rfl, h0, r0⟩ := trodAll_cons hA
    obtain ⟨v1, vs1, d1, ds1, p1, q1, rfl, rfl, rfl, h1, r1⟩ := trodAll_cons r0
    obtain ⟨v2, vs2, d2, ds2, p2, q2, rfl, rfl, rfl, h2, r2⟩ := trodAll_cons r1
    obtain ⟨rfl, rfl, rfl⟩ := trodAll_nil r2
    obtain rfl : args = #[v0, v1, v2] := by cases args; simp_all
    obtain ⟨a0, rfl, rfl, rfl, w0⟩ := open_int Try.underlying3 (hval 0 3 v0 rfl rfl) h0
    obtain ⟨a1, len1, cap1, rfl⟩ := okWide_slice Try.underlying63 (hval 1 63 v1 rfl rfl)
    obtain ⟨z1, w1⟩ := Opd.isG_of h1
    obtain ⟨ua2, un2, uc2, ns2, ta2, tn2, tc2, ms2, rfl, wu2, wt2⟩ := Opd.dep_of (hval 2 72 v2 rfl rfl) h2
    exact walk a0 a1 len1 cap1 z1 ua2 un2 uc2 ns2 ta2 tn2 tc2 ms2 W w0 w1 wu2 wt2

set_option maxRecDepth 100000 in
theorem lifted (os : Os) (started : os.Started) (H : Type) (enc : TypeId × Value → H) :
    ReturnsInHanded {} Try.checked os 8 .any (Rows.fnExactImpliesSpec.pre6 enc Try.prog Try.f8 Rows.fnExactImpliesRow.domain false) (Rows.fnExactImpliesSpec.post enc Try.prog Try.f8 false true false false) := by
  refine returnsInHanded_of_change (C := Try.checked) own started (by kernel_rfl) Try.func8
    (ChangeSpec.witness6 (enc := enc) (C := Try.checked) false ⟨#[], #[.int .i64 0, .slice none 0 0, .agg #[.slice none 0 0, .slice none 0 0]], []⟩ 8 (by kernel_rfl) (by kernel_rfl) (by kernel_rfl) (by kernel_rfl)) ?_
  intro W base args ds gs before hval hW _ _
  exact contract H enc W base args ds gs before hval hW

/-- The statement. -/
theorem proved : Rows.FnExactImpliesSaid :=
  OpenClaim.holds_of_wide 8 Try.f8 rfl rfl rfl rfl rfl rfl rfl ⟨rfl, rfl, rfl, rfl, rfl⟩ rfl rfl rfl rfl rfl (by kernel_rfl) Try.func8 (by kernel_rfl)
    (of_decide_eq_true (by kernel_rfl)) (by unfold Func.isWrapper; first | (rw [if_pos (by decide +kernel)]; kernel_rfl) | (rw [if_neg (by decide +kernel)]; exact ⟨rfl, rfl⟩))
    (fun os started H enc _ => lifted os started H enc)
#print axioms proved

end Go.Proofs.Ytidannjnlohihaa.fnExactImplies
