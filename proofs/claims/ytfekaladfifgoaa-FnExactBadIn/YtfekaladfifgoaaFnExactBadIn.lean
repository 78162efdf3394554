/-
  Proved: at every argument the law FnExactBadIn returns true, and its arguments read afterwards as they did.
-/
import Derived.Test.YtfekaladfifgoaaFrame
import Derived.Test.YtfekaladfifgoaaBsr
import Derived.Test.YtfekaladfifgoaaOpd
import Derived.Test.YtfekaladfifgoaaDle
namespace Go.Proofs.Ytfekaladfifgoaa.fnExactBadIn
open Go.ChangeShapes Go.WideShapes Go.ChangeAt Go.RowKit

theorem own : ownKnob Try.prog.godebug = none := by kernel_rfl
theorem laidOut : laidOutB Try.prog = true := by kernel_rfl

open Go.Proofs.Ytfekaladfifgoaa.Kep

set_option maxRecDepth 100000 in
set_option maxHeartbeats 4000000 in
theorem walk (i0 : Int) (a1 : Option Addr) (n1 c1 : Nat) (rs1 : List Lls.LV) (a2 : Option Addr) (n2 c2 : Nat) (zs2 : List Int) (w : World) (hf0 : (Lit.int .i64 i0).wf = true) (h1 : Dls.IsG w a1 n1 c1 rs1) (h2 : Frame.IsRow .i64 w a2 n2 c2 zs2) :
    Calls Try.prog 11 #[.int .i64 i0, .slice a1 n1 c1, .slice a2 n2 c2] w fun e w' => e = .returned (.bool true) ∧ Below w.heap.size w w' := by
  have HWF0 : Hid ((Lit.int .i64 i0).wf = true) := hf0
  clear hf0
  have HR1 : Hid (Dls.IsG w a1 n1 c1 rs1) := h1
  clear h1
  have HR2 : Hid (Frame.IsRow .i64 w a2 n2 c2 zs2) := h2
  have hmx2 : n2 ≤ 9223372036854775807 := by have := h2.fits; have := h2.max; unfold maxLen at *; omega
  clear h2
  have B0 : Hid (Below w.heap.size w w) := Below.refl _ _
  go_enter Try.func11, Try.ntmps11
  by_cases hN2 : 1048576 < n2
  · have hNI2 : (1048576 : Int) < (n2 : Int) := by omega
    go_wp2
    go_ret
    exact ⟨rfl, B0.out⟩
  · have A2 : Hid (Kep.IIs w (.slice a2 n2 c2) zs2) := ⟨_, _, _, rfl, HR2.out, by omega⟩
    have hNJ2 : ¬ (1048576 : Int) < (n2 : Int) := by omega
    go_wp2_with fail
    refine (Dlt.szDepS a1 n1 c1 rs1 1048576 _ (HR1.out.below B0.out) (by omega) (by omega)).mono ?_
    rintro e w1 ⟨rfl, hb1⟩
    have Z1 : Hid (w.heap.size ≤ w1.heap.size) := hb1.size
    have B2 : Hid (Below w.heap.size w w1) := Frame.next B0.out hb1 B0.out.size
    clear hb1
    by_cases hL1 : Lls.left 1048576 ((n1 : Int) + Lls.sumL rs1) < 0
    · go_wp2
      go_ret
      exact ⟨rfl, B2.out⟩
    · have ht1 : (n1 : Int) + Lls.sumL rs1 ≤ 1048576 := by have hq := Lls.sumL_nonneg rs1; unfold Lls.left at hL1; split at hL1 <;> omega
      have A1 : Hid (Dlk.DIs w (.slice a1 n1 c1) (Dls.dpl rs1)) := ⟨_, _, _, _, rfl, HR1.out, rfl, ht1⟩
      have hB1 : Lls.left 1048576 ((n1 : Int) + Lls.sumL rs1) ≤ 1048576 := Krl.left_le _ _ (by have hq := Lls.sumL_nonneg rs1; omega) (by omega)
      clear ht1
      generalize hG1 : Lls.left 1048576 ((n1 : Int) + Lls.sumL rs1) = L3 at hL1 hB1 ⊢
      clear hG1
      go_wp2_with fail
      refine (Dlk.d_to (.slice a1 n1 c1) (Dls.dpl rs1) _ (Dlk.dIs_below A1.out B2.out)).mono ?_
      rintro e w2 ⟨u4, rfl, ho, hb2⟩
      have O5 : Hid (Dlk.DOwn w2 (w1.heap.size) (w2.heap.size) u4 (Dls.dpl rs1)) := ho
      have Z6 : Hid (w1.heap.size ≤ w2.heap.size) := hb2.size
      have B7 : Hid (Below w.heap.size w w2) := Frame.next B2.out hb2 B2.out.size
      clear ho hb2
      go_wp2_with fail
      refine (Kep.i_to (.slice a2 n2 c2) zs2 _ (Kep.iIs_below A2.out B7.out)).mono ?_
      rintro e w3 ⟨u9, rfl, ho, hb3⟩
      have O10 : Hid (Kep.IOwn w3 (w2.heap.size) (w3.heap.size) u9 zs2) := ho
      have Z11 : Hid (w2.heap.size ≤ w3.heap.size) := hb3.size
      have O12 : Hid (Dlk.DOwn w3 (w1.heap.size) (w2.heap.size) u4 (Dls.dpl rs1)) := Dlk.dOwn_below O5.out hb3
      have B13 : Hid (Below w.heap.size w w3) := Frame.next B7.out hb3 B7.out.size
      clear ho hb3
      go_wp2_with fail
      refine (Bsr.spec_BadIn i0 u4 u9 (Dls.dpl rs1) zs2 _ (Dlk.dOwn_is O12.out) (Kep.iOwn_is O10.out)).mono ?_
      rintro e w4 ⟨ua15, un16, uc17, ta18, tn19, tc20, rfl, ho0, hb4⟩
      have O21 : Hid (Dls.EOwn w4 (w3.heap.size) (w4.heap.size) (.slice ua15 un16 uc17) (.slice ta18 tn19 tc20) (Bpu.badV i0 (Dls.dpl rs1) zs2)) := ho0
      have Z22 : Hid (w3.heap.size ≤ w4.heap.size) := hb4.size
      have B23 : Hid (Below w.heap.size w w4) := Frame.next B13.out hb4 B13.out.size
      clear ho0 hb4
      have O24 : Hid (Dls.EOwn (w4.alloc (.cells #[.slice ua15 un16 uc17, .slice ta18 tn19 tc20] 26)) (w3.heap.size) (w4.heap.size) (.slice ua15 un16 uc17) (.slice ta18 tn19 tc20) (Bpu.badV i0 (Dls.dpl rs1) zs2)) := Dls.eOwn_below O21.out ((Below.refl w4.heap.size w4).alloc (Nat.le_refl _) (.cells #[.slice ua15 un16 uc17, .slice ta18 tn19 tc20] 26))
      have B25 : Hid (Below w.heap.size w (w4.alloc (.cells #[.slice ua15 un16 uc17, .slice ta18 tn19 tc20] 26))) := Frame.next B23.out ((Below.refl w4.heap.size w4).alloc (Nat.le_refl _) (.cells #[.slice ua15 un16 uc17, .slice ta18 tn19 tc20] 26)) B23.out.size
      have K26 : Hid ((w4.alloc (.cells #[.slice ua15 un16 uc17, .slice ta18 tn19 tc20] 26)).cell? ⟨w4.heap.size, 0, none⟩ = some (.slice ua15 un16 uc17) ∧ (w4.alloc (.cells #[.slice ua15 un16 uc17, .slice ta18 tn19 tc20] 26)).cell? ⟨w4.heap.size, 1, none⟩ = some (.slice ta18 tn19 tc20)) := by
        show _ ∧ _
        refine ⟨?_, ?_⟩ <;> rw [World.cell?_alloc_at _ _ _ _ rfl] <;> rfl
      have E27 : Hid ((w4.alloc (.cells #[.slice ua15 un16 uc17, .slice ta18 tn19 tc20] 26)).heap.size = w4.heap.size + 1) := by show _ = _; simp
      have cc29 : (w4.alloc (.cells #[.slice ua15 un16 uc17, .slice ta18 tn19 tc20] 26)).cell? ⟨w4.heap.size, 0, none⟩ = some (.slice ua15 un16 uc17) := K26.out.1
      have cc30 : (w4.alloc (.cells #[.slice ua15 un16 uc17, .slice ta18 tn19 tc20] 26)).cell? ⟨w4.heap.size, 1, none⟩ = some (.slice ta18 tn19 tc20) := K26.out.2
      go_wp2_with fail
      refine (Dlk.d_to (.slice a1 n1 c1) (Dls.dpl rs1) _ (Dlk.dIs_below A1.out B25.out)).mono ?_
      rintro e w5 ⟨u28, rfl, ho, hb5⟩
      clear cc29 cc30
      have O31 : Hid (Dlk.DOwn w5 (w4.heap.size + 1) (w5.heap.size) u28 (Dls.dpl rs1)) := (by have hh := ho; rw [E27.out] at hh; exact hh)
      have Z32 : Hid (w4.heap.size + 1 ≤ w5.heap.size) := (by have hh := hb5.size; rw [E27.out] at hh; exact hh)
      have O33 : Hid (Dls.EOwn w5 (w3.heap.size) (w4.heap.size) (.slice ua15 un16 uc17) (.slice ta18 tn19 tc20) (Bpu.badV i0 (Dls.dpl rs1) zs2)) := Dls.eOwn_below O24.out hb5
      have K34 : Hid (w5.cell? ⟨w4.heap.size, 0, none⟩ = some (.slice ua15 un16 uc17) ∧ w5.cell? ⟨w4.heap.size, 1, none⟩ = some (.slice ta18 tn19 tc20)) := ⟨(hb5.cell (p := ⟨w4.heap.size, 0, none⟩) (Frame.cell_lt K26.out.1)).trans K26.out.1, (hb5.cell (p := ⟨w4.heap.size, 1, none⟩) (Frame.cell_lt K26.out.2)).trans K26.out.2⟩
      have B35 : Hid (Below w.heap.size w w5) := Frame.next B25.out hb5 B25.out.size
      clear ho hb5
      have cc38 : w5.cell? ⟨w4.heap.size, 0, none⟩ = some (.slice ua15 un16 uc17) := K34.out.1
      have cc39 : w5.cell? ⟨w4.heap.size, 1, none⟩ = some (.slice ta18 tn19 tc20) := K34.out.2
      go_wp2_with fail
      refine (Kep.i_to (.slice a2 n2 c2) zs2 _ (Kep.iIs_below A2.out B35.out)).mono ?_
      rintro e w6 ⟨u37, rfl, ho, hb6⟩
      clear cc38 cc39
      have O40 : Hid (Kep.IOwn w6 (w5.heap.size) (w6.heap.size) u37 zs2) := ho
      have Z41 : Hid (w5.heap.size ≤ w6.heap.size) := hb6.size
      have O42 : Hid (Dls.EOwn w6 (w3.heap.size) (w4.heap.size) (.slice ua15 un16 uc17) (.slice ta18 tn19 tc20) (Bpu.badV i0 (Dls.dpl rs1) zs2)) := Dls.eOwn_below O33.out hb6
      have O43 : Hid (Dlk.DOwn w6 (w4.heap.size + 1) (w5.heap.size) u28 (Dls.dpl rs1)) := Dlk.dOwn_below O31.out hb6
      have K44 : Hid (w6.cell? ⟨w4.heap.size, 0, none⟩ = some (.slice ua15 un16 uc17) ∧ w6.cell? ⟨w4.heap.size, 1, none⟩ = some (.slice ta18 tn19 tc20)) := ⟨(hb6.cell (p := ⟨w4.heap.size, 0, none⟩) (Frame.cell_lt K34.out.1)).trans K34.out.1, (hb6.cell (p := ⟨w4.heap.size, 1, none⟩) (Frame.cell_lt K34.out.2)).trans K34.out.2⟩
      have B45 : Hid (Below w.heap.size w w6) := Frame.next B35.out hb6 B35.out.size
      clear ho hb6
      have cc53 : w6.cell? ⟨w4.heap.size, 0, none⟩ = some (.slice ua15 un16 uc17) := K44.out.1
      have cc54 : w6.cell? ⟨w4.heap.size, 1, none⟩ = some (.slice ta18 tn19 tc20) := K44.out.2
      go_wp2_with fail
      refine (Bsr.impl_BadIn i0 u28 u37 (Dls.dpl rs1) zs2 _ (Dlk.dOwn_is O43.out) (Kep.iOwn_is O40.out)).mono ?_
      rintro e w7 ⟨ua47, un48, uc49, ta50, tn51, tc52, rfl, ho0, hb7⟩
      clear cc53 cc54
      have O55 : Hid (Dls.EOwn w7 (w6.heap.size) (w7.heap.size) (.slice ua47 un48 uc49) (.slice ta50 tn51 tc52) (Bpu.badV i0 (Dls.dpl rs1) zs2)) := ho0
      have Z56 : Hid (w6.heap.size ≤ w7.heap.size) := hb7.size
      have O57 : Hid (Dls.EOwn w7 (w3.heap.size) (w4.heap.size) (.slice ua15 un16 uc17) (.slice ta18 tn19 tc20) (Bpu.badV i0 (Dls.dpl rs1) zs2)) := Dls.eOwn_below O42.out hb7
      have O58 : Hid (Dlk.DOwn w7 (w4.heap.size + 1) (w5.heap.size) u28 (Dls.dpl rs1)) := Dlk.dOwn_below O43.out hb7
      have O59 : Hid (Kep.IOwn w7 (w5.heap.size) (w6.heap.size) u37 zs2) := Kep.iOwn_below O40.out hb7
      have K60 : Hid (w7.cell? ⟨w4.heap.size, 0, none⟩ = some (.slice ua15 un16 uc17) ∧ w7.cell? ⟨w4.heap.size, 1, none⟩ = some (.slice ta18 tn19 tc20)) := ⟨(hb7.cell (p := ⟨w4.heap.size, 0, none⟩) (Frame.cell_lt K44.out.1)).trans K44.out.1, (hb7.cell (p := ⟨w4.heap.size, 1, none⟩) (Frame.cell_lt K44.out.2)).trans K44.out.2⟩
      have B61 : Hid (Below w.heap.size w w7) := Frame.next B45.out hb7 B45.out.size
      clear ho0 hb7
      have O62 : Hid (Dls.EOwn (w7.alloc (.cells #[.slice ua47 un48 uc49, .slice ta50 tn51 tc52] 26)) (w3.heap.size) (w4.heap.size) (.slice ua15 un16 uc17) (.slice ta18 tn19 tc20) (Bpu.badV i0 (Dls.dpl rs1) zs2)) := Dls.eOwn_below O57.out ((Below.refl w7.heap.size w7).alloc (Nat.le_refl _) (.cells #[.slice ua47 un48 uc49, .slice ta50 tn51 tc52] 26))
      have O63 : Hid (Dlk.DOwn (w7.alloc (.cells #[.slice ua47 un48 uc49, .slice ta50 tn51 tc52] 26)) (w4.heap.size + 1) (w5.heap.size) u28 (Dls.dpl rs1)) := Dlk.dOwn_below O58.out ((Below.refl w7.heap.size w7).alloc (Nat.le_refl _) (.cells #[.slice ua47 un48 uc49, .slice ta50 tn51 tc52] 26))
      have O64 : Hid (Kep.IOwn (w7.alloc (.cells #[.slice ua47 un48 uc49, .slice ta50 tn51 tc52] 26)) (w5.heap.size) (w6.heap.size) u37 zs2) := Kep.iOwn_below O59.out ((Below.refl w7.heap.size w7).alloc (Nat.le_refl _) (.cells #[.slice ua47 un48 uc49, .slice ta50 tn51 tc52] 26))
      have O65 : Hid (Dls.EOwn (w7.alloc (.cells #[.slice ua47 un48 uc49, .slice ta50 tn51 tc52] 26)) (w6.heap.size) (w7.heap.size) (.slice ua47 un48 uc49) (.slice ta50 tn51 tc52) (Bpu.badV i0 (Dls.dpl rs1) zs2)) := Dls.eOwn_below O55.out ((Below.refl w7.heap.size w7).alloc (Nat.le_refl _) (.cells #[.slice ua47 un48 uc49, .slice ta50 tn51 tc52] 26))
      have K66 : Hid ((w7.alloc (.cells #[.slice ua47 un48 uc49, .slice ta50 tn51 tc52] 26)).cell? ⟨w4.heap.size, 0, none⟩ = some (.slice ua15 un16 uc17) ∧ (w7.alloc (.cells #[.slice ua47 un48 uc49, .slice ta50 tn51 tc52] 26)).cell? ⟨w4.heap.size, 1, none⟩ = some (.slice ta18 tn19 tc20)) := ⟨(((Below.refl w7.heap.size w7).alloc (Nat.le_refl _) (.cells #[.slice ua47 un48 uc49, .slice ta50 tn51 tc52] 26)).cell (p := ⟨w4.heap.size, 0, none⟩) (Frame.cell_lt K60.out.1)).trans K60.out.1, (((Below.refl w7.heap.size w7).alloc (Nat.le_refl _) (.cells #[.slice ua47 un48 uc49, .slice ta50 tn51 tc52] 26)).cell (p := ⟨w4.heap.size, 1, none⟩) (Frame.cell_lt K60.out.2)).trans K60.out.2⟩
      have B67 : Hid (Below w.heap.size w (w7.alloc (.cells #[.slice ua47 un48 uc49, .slice ta50 tn51 tc52] 26))) := Frame.next B61.out ((Below.refl w7.heap.size w7).alloc (Nat.le_refl _) (.cells #[.slice ua47 un48 uc49, .slice ta50 tn51 tc52] 26)) B61.out.size
      have K68 : Hid ((w7.alloc (.cells #[.slice ua47 un48 uc49, .slice ta50 tn51 tc52] 26)).cell? ⟨w7.heap.size, 0, none⟩ = some (.slice ua47 un48 uc49) ∧ (w7.alloc (.cells #[.slice ua47 un48 uc49, .slice ta50 tn51 tc52] 26)).cell? ⟨w7.heap.size, 1, none⟩ = some (.slice ta50 tn51 tc52)) := by
        show _ ∧ _
        refine ⟨?_, ?_⟩ <;> rw [World.cell?_alloc_at _ _ _ _ rfl] <;> rfl
      have E69 : Hid ((w7.alloc (.cells #[.slice ua47 un48 uc49, .slice ta50 tn51 tc52] 26)).heap.size = w7.heap.size + 1) := by show _ = _; simp
      have cc70 : (w7.alloc (.cells #[.slice ua47 un48 uc49, .slice ta50 tn51 tc52] 26)).cell? ⟨w4.heap.size, 0, none⟩ = some (.slice ua15 un16 uc17) := K66.out.1
      have cc71 : (w7.alloc (.cells #[.slice ua47 un48 uc49, .slice ta50 tn51 tc52] 26)).cell? ⟨w4.heap.size, 1, none⟩ = some (.slice ta18 tn19 tc20) := K66.out.2
      have cc72 : (w7.alloc (.cells #[.slice ua47 un48 uc49, .slice ta50 tn51 tc52] 26)).cell? ⟨w7.heap.size, 0, none⟩ = some (.slice ua47 un48 uc49) := K68.out.1
      have cc73 : (w7.alloc (.cells #[.slice ua47 un48 uc49, .slice ta50 tn51 tc52] 26)).cell? ⟨w7.heap.size, 1, none⟩ = some (.slice ta50 tn51 tc52) := K68.out.2
      go_wp2_with fail
      refine (Dls.e_eq (.slice ua47 un48 uc49) (.slice ta50 tn51 tc52) (.slice ua15 un16 uc17) (.slice ta18 tn19 tc20) (Bpu.badV i0 (Dls.dpl rs1) zs2) (Bpu.badV i0 (Dls.dpl rs1) zs2) _ (Dls.eOwn_is O65.out) (Dls.eOwn_is O62.out)).mono ?_
      rintro e w8 ⟨rfl, hb8⟩
      clear cc70 cc71 cc72 cc73
      rw [decide_eq_true (Eq.refl ((Bpu.badV i0 (Dls.dpl rs1) zs2)))]
      have Z74 : Hid (w7.heap.size + 1 ≤ w8.heap.size) := (by have hh := hb8.size; rw [E69.out] at hh; exact hh)
      have O75 : Hid (Dls.EOwn w8 (w3.heap.size) (w4.heap.size) (.slice ua15 un16 uc17) (.slice ta18 tn19 tc20) (Bpu.badV i0 (Dls.dpl rs1) zs2)) := Dls.eOwn_below O62.out hb8
      have O76 : Hid (Dlk.DOwn w8 (w4.heap.size + 1) (w5.heap.size) u28 (Dls.dpl rs1)) := Dlk.dOwn_below O63.out hb8
      have O77 : Hid (Kep.IOwn w8 (w5.heap.size) (w6.heap.size) u37 zs2) := Kep.iOwn_below O64.out hb8
      have O78 : Hid (Dls.EOwn w8 (w6.heap.size) (w7.heap.size) (.slice ua47 un48 uc49) (.slice ta50 tn51 tc52) (Bpu.badV i0 (Dls.dpl rs1) zs2)) := Dls.eOwn_below O65.out hb8
      have K79 : Hid (w8.cell? ⟨w4.heap.size, 0, none⟩ = some (.slice ua15 un16 uc17) ∧ w8.cell? ⟨w4.heap.size, 1, none⟩ = some (.slice ta18 tn19 tc20)) := ⟨(hb8.cell (p := ⟨w4.heap.size, 0, none⟩) (Frame.cell_lt K66.out.1)).trans K66.out.1, (hb8.cell (p := ⟨w4.heap.size, 1, none⟩) (Frame.cell_lt K66.out.2)).trans K66.out.2⟩
      have K80 : Hid (w8.cell? ⟨w7.heap.size, 0, none⟩ = some (.slice ua47 un48 uc49) ∧ w8.cell? ⟨w7.heap.size, 1, none⟩ = some (.slice ta50 tn51 tc52)) := ⟨(hb8.cell (p := ⟨w7.heap.size, 0, none⟩) (Frame.cell_lt K68.out.1)).trans K68.out.1, (hb8.cell (p := ⟨w7.heap.size, 1, none⟩) (Frame.cell_lt K68.out.2)).trans K68.out.2⟩
      have B81 : Hid (Below w.heap.size w w8) := Frame.next B67.out hb8 B67.out.size
      clear hb8
      have cc83 : w8.cell? ⟨w4.heap.size, 0, none⟩ = some (.slice ua15 un16 uc17) := K79.out.1
      have cc84 : w8.cell? ⟨w4.heap.size, 1, none⟩ = some (.slice ta18 tn19 tc20) := K79.out.2
      have cc85 : w8.cell? ⟨w7.heap.size, 0, none⟩ = some (.slice ua47 un48 uc49) := K80.out.1
      have cc86 : w8.cell? ⟨w7.heap.size, 1, none⟩ = some (.slice ta50 tn51 tc52) := K80.out.2
      go_wp2_with fail
      refine (Dlk.d_to (.slice a1 n1 c1) (Dls.dpl rs1) _ (Dlk.dIs_below A1.out B81.out)).mono ?_
      rintro e w9 ⟨u82, rfl, ho, hb9⟩
      clear cc83 cc84 cc85 cc86
      have O87 : Hid (Dlk.DOwn w9 (w8.heap.size) (w9.heap.size) u82 (Dls.dpl rs1)) := ho
      have Z88 : Hid (w8.heap.size ≤ w9.heap.size) := hb9.size
      have O89 : Hid (Dls.EOwn w9 (w3.heap.size) (w4.heap.size) (.slice ua15 un16 uc17) (.slice ta18 tn19 tc20) (Bpu.badV i0 (Dls.dpl rs1) zs2)) := Dls.eOwn_below O75.out hb9
      have O90 : Hid (Dlk.DOwn w9 (w4.heap.size + 1) (w5.heap.size) u28 (Dls.dpl rs1)) := Dlk.dOwn_below O76.out hb9
      have O91 : Hid (Kep.IOwn w9 (w5.heap.size) (w6.heap.size) u37 zs2) := Kep.iOwn_below O77.out hb9
      have O92 : Hid (Dls.EOwn w9 (w6.heap.size) (w7.heap.size) (.slice ua47 un48 uc49) (.slice ta50 tn51 tc52) (Bpu.badV i0 (Dls.dpl rs1) zs2)) := Dls.eOwn_below O78.out hb9
      have K93 : Hid (w9.cell? ⟨w4.heap.size, 0, none⟩ = some (.slice ua15 un16 uc17) ∧ w9.cell? ⟨w4.heap.size, 1, none⟩ = some (.slice ta18 tn19 tc20)) := ⟨(hb9.cell (p := ⟨w4.heap.size, 0, none⟩) (Frame.cell_lt K79.out.1)).trans K79.out.1, (hb9.cell (p := ⟨w4.heap.size, 1, none⟩) (Frame.cell_lt K79.out.2)).trans K79.out.2⟩
      have K94 : Hid (w9.cell? ⟨w7.heap.size, 0, none⟩ = some (.slice ua47 un48 uc49) ∧ w9.cell? ⟨w7.heap.size, 1, none⟩ = some (.slice ta50 tn51 tc52)) := ⟨(hb9.cell (p := ⟨w7.heap.size, 0, none⟩) (Frame.cell_lt K80.out.1)).trans K80.out.1, (hb9.cell (p := ⟨w7.heap.size, 1, none⟩) (Frame.cell_lt K80.out.2)).trans K80.out.2⟩
      have B95 : Hid (Below w.heap.size w w9) := Frame.next B81.out hb9 B81.out.size
      clear ho hb9
      have cc97 : w9.cell? ⟨w4.heap.size, 0, none⟩ = some (.slice ua15 un16 uc17) := K93.out.1
      have cc98 : w9.cell? ⟨w4.heap.size, 1, none⟩ = some (.slice ta18 tn19 tc20) := K93.out.2
      have cc99 : w9.cell? ⟨w7.heap.size, 0, none⟩ = some (.slice ua47 un48 uc49) := K94.out.1
      have cc100 : w9.cell? ⟨w7.heap.size, 1, none⟩ = some (.slice ta50 tn51 tc52) := K94.out.2
      go_wp2_with fail
      refine (Dlk.d_eq u28 u82 (Dls.dpl rs1) (Dls.dpl rs1) _ (Dlk.dOwn_is O90.out) (Dlk.dOwn_is O87.out)).mono ?_
      rintro e w10 ⟨rfl, hb10⟩
      clear cc97 cc98 cc99 cc100
      rw [decide_eq_true (Eq.refl ((Dls.dpl rs1)))]
      have Z101 : Hid (w9.heap.size ≤ w10.heap.size) := hb10.size
      have O102 : Hid (Dls.EOwn w10 (w3.heap.size) (w4.heap.size) (.slice ua15 un16 uc17) (.slice ta18 tn19 tc20) (Bpu.badV i0 (Dls.dpl rs1) zs2)) := Dls.eOwn_below O89.out hb10
      have O103 : Hid (Dlk.DOwn w10 (w4.heap.size + 1) (w5.heap.size) u28 (Dls.dpl rs1)) := Dlk.dOwn_below O90.out hb10
      have O104 : Hid (Kep.IOwn w10 (w5.heap.size) (w6.heap.size) u37 zs2) := Kep.iOwn_below O91.out hb10
      have O105 : Hid (Dls.EOwn w10 (w6.heap.size) (w7.heap.size) (.slice ua47 un48 uc49) (.slice ta50 tn51 tc52) (Bpu.badV i0 (Dls.dpl rs1) zs2)) := Dls.eOwn_below O92.out hb10
      have O106 : Hid (Dlk.DOwn w10 (w8.heap.size) (w9.heap.size) u82 (Dls.dpl rs1)) := Dlk.dOwn_below O87.out hb10
      have K107 : Hid (w10.cell? ⟨w4.heap.size, 0, none⟩ = some (.slice ua15 un16 uc17) ∧ w10.cell? ⟨w4.heap.size, 1, none⟩ = some (.slice ta18 tn19 tc20)) := ⟨(hb10.cell (p := ⟨w4.heap.size, 0, none⟩) (Frame.cell_lt K93.out.1)).trans K93.out.1, (hb10.cell (p := ⟨w4.heap.size, 1, none⟩) (Frame.cell_lt K93.out.2)).trans K93.out.2⟩
      have K108 : Hid (w10.cell? ⟨w7.heap.size, 0, none⟩ = some (.slice ua47 un48 uc49) ∧ w10.cell? ⟨w7.heap.size, 1, none⟩ = some (.slice ta50 tn51 tc52)) := ⟨(hb10.cell (p := ⟨w7.heap.size, 0, none⟩) (Frame.cell_lt K94.out.1)).trans K94.out.1, (hb10.cell (p := ⟨w7.heap.size, 1, none⟩) (Frame.cell_lt K94.out.2)).trans K94.out.2⟩
      have B109 : Hid (Below w.heap.size w w10) := Frame.next B95.out hb10 B95.out.size
      clear hb10
      have cc111 : w10.cell? ⟨w4.heap.size, 0, none⟩ = some (.slice ua15 un16 uc17) := K107.out.1
      have cc112 : w10.cell? ⟨w4.heap.size, 1, none⟩ = some (.slice ta18 tn19 tc20) := K107.out.2
      have cc113 : w10.cell? ⟨w7.heap.size, 0, none⟩ = some (.slice ua47 un48 uc49) := K108.out.1
      have cc114 : w10.cell? ⟨w7.heap.size, 1, none⟩ = some (.slice ta50 tn51 tc52) := K108.out.2
      go_wp2_with fail
      refine (Kep.i_to (.slice a2 n2 c2) zs2 _ (Kep.iIs_below A2.out B109.out)).mono ?_
      rintro e w11 ⟨u110, rfl, ho, hb11⟩
      clear cc111 cc112 cc113 cc114
      have O115 : Hid (Kep.IOwn w11 (w10.heap.size) (w11.heap.size) u110 zs2) := ho
      have Z116 : Hid (w10.heap.size ≤ w11.heap.size) := hb11.size
      have O117 : Hid (Dls.EOwn w11 (w3.heap.size) (w4.heap.size) (.slice ua15 un16 uc17) (.slice ta18 tn19 tc20) (Bpu.badV i0 (Dls.dpl rs1) zs2)) := Dls.eOwn_below O102.out hb11
      have O118 : Hid (Dlk.DOwn w11 (w4.heap.size + 1) (w5.heap.size) u28 (Dls.dpl rs1)) := Dlk.dOwn_below O103.out hb11
      have O119 : Hid (Kep.IOwn w11 (w5.heap.size) (w6.heap.size) u37 zs2) := Kep.iOwn_below O104.out hb11
      have O120 : Hid (Dls.EOwn w11 (w6.heap.size) (w7.heap.size) (.slice ua47 un48 uc49) (.slice ta50 tn51 tc52) (Bpu.badV i0 (Dls.dpl rs1) zs2)) := Dls.eOwn_below O105.out hb11
      have K121 : Hid (w11.cell? ⟨w4.heap.size, 0, none⟩ = some (.slice ua15 un16 uc17) ∧ w11.cell? ⟨w4.heap.size, 1, none⟩ = some (.slice ta18 tn19 tc20)) := ⟨(hb11.cell (p := ⟨w4.heap.size, 0, none⟩) (Frame.cell_lt K107.out.1)).trans K107.out.1, (hb11.cell (p := ⟨w4.heap.size, 1, none⟩) (Frame.cell_lt K107.out.2)).trans K107.out.2⟩
      have K122 : Hid (w11.cell? ⟨w7.heap.size, 0, none⟩ = some (.slice ua47 un48 uc49) ∧ w11.cell? ⟨w7.heap.size, 1, none⟩ = some (.slice ta50 tn51 tc52)) := ⟨(hb11.cell (p := ⟨w7.heap.size, 0, none⟩) (Frame.cell_lt K108.out.1)).trans K108.out.1, (hb11.cell (p := ⟨w7.heap.size, 1, none⟩) (Frame.cell_lt K108.out.2)).trans K108.out.2⟩
      have B123 : Hid (Below w.heap.size w w11) := Frame.next B109.out hb11 B109.out.size
      clear ho hb11
      have cc125 : w11.cell? ⟨w4.heap.size, 0, none⟩ = some (.slice ua15 un16 uc17) := K121.out.1
      have cc126 : w11.cell? ⟨w4.heap.size, 1, none⟩ = some (.slice ta18 tn19 tc20) := K121.out.2
      have cc127 : w11.cell? ⟨w7.heap.size, 0, none⟩ = some (.slice ua47 un48 uc49) := K122.out.1
      have cc128 : w11.cell? ⟨w7.heap.size, 1, none⟩ = some (.slice ta50 tn51 tc52) := K122.out.2
      go_wp2_with fail
      refine (Kep.i_eq u37 u110 zs2 zs2 _ (Kep.iOwn_is O119.out) (Kep.iOwn_is O115.out)).mono ?_
      rintro e w12 ⟨rfl, hb12⟩
      clear cc125 cc126 cc127 cc128
      rw [decide_eq_true (Eq.refl (zs2))]
      have Z129 : Hid (w11.heap.size ≤ w12.heap.size) := hb12.size
      have O130 : Hid (Dls.EOwn w12 (w3.heap.size) (w4.heap.size) (.slice ua15 un16 uc17) (.slice ta18 tn19 tc20) (Bpu.badV i0 (Dls.dpl rs1) zs2)) := Dls.eOwn_below O117.out hb12
      have O131 : Hid (Dlk.DOwn w12 (w4.heap.size + 1) (w5.heap.size) u28 (Dls.dpl rs1)) := Dlk.dOwn_below O118.out hb12
      have O132 : Hid (Kep.IOwn w12 (w5.heap.size) (w6.heap.size) u37 zs2) := Kep.iOwn_below O119.out hb12
      have O133 : Hid (Dls.EOwn w12 (w6.heap.size) (w7.heap.size) (.slice ua47 un48 uc49) (.slice ta50 tn51 tc52) (Bpu.badV i0 (Dls.dpl rs1) zs2)) := Dls.eOwn_below O120.out hb12
      have O134 : Hid (Kep.IOwn w12 (w10.heap.size) (w11.heap.size) u110 zs2) := Kep.iOwn_below O115.out hb12
      have K135 : Hid (w12.cell? ⟨w4.heap.size, 0, none⟩ = some (.slice ua15 un16 uc17) ∧ w12.cell? ⟨w4.heap.size, 1, none⟩ = some (.slice ta18 tn19 tc20)) := ⟨(hb12.cell (p := ⟨w4.heap.size, 0, none⟩) (Frame.cell_lt K121.out.1)).trans K121.out.1, (hb12.cell (p := ⟨w4.heap.size, 1, none⟩) (Frame.cell_lt K121.out.2)).trans K121.out.2⟩
      have K136 : Hid (w12.cell? ⟨w7.heap.size, 0, none⟩ = some (.slice ua47 un48 uc49) ∧ w12.cell? ⟨w7.heap.size, 1, none⟩ = some (.slice ta50 tn51 tc52)) := ⟨(hb12.cell (p := ⟨w7.heap.size, 0, none⟩) (Frame.cell_lt K122.out.1)).trans K122.out.1, (hb12.cell (p := ⟨w7.heap.size, 1, none⟩) (Frame.cell_lt K122.out.2)).trans K122.out.2⟩
      have B137 : Hid (Below w.heap.size w w12) := Frame.next B123.out hb12 B123.out.size
      clear hb12
      have cc139 : w12.cell? ⟨w4.heap.size, 0, none⟩ = some (.slice ua15 un16 uc17) := K135.out.1
      have cc140 : w12.cell? ⟨w4.heap.size, 1, none⟩ = some (.slice ta18 tn19 tc20) := K135.out.2
      have cc141 : w12.cell? ⟨w7.heap.size, 0, none⟩ = some (.slice ua47 un48 uc49) := K136.out.1
      have cc142 : w12.cell? ⟨w7.heap.size, 1, none⟩ = some (.slice ta50 tn51 tc52) := K136.out.2
      go_wp2_with fail
      refine (Dlk.d_mark u28 (Dls.dpl rs1) _ _ 1 _ O131.out (by omega) (by omega)).mono ?_
      rintro e w13 ⟨nx138, rfl, hn0nx138, hn1nx138, hm, hb13⟩
      clear cc139 cc140 cc141 cc142
      have hznx138 : ¬ nx138 < 0 := by omega
      have O143 : Hid (Dlk.DMarked w13 (w4.heap.size + 1) (w5.heap.size) u28 1 nx138) := hm
      have Z144 : Hid (w12.heap.size ≤ w13.heap.size) := hb13.size
      have O145 : Hid (Dls.EOwn w13 (w3.heap.size) (w4.heap.size) (.slice ua15 un16 uc17) (.slice ta18 tn19 tc20) (Bpu.badV i0 (Dls.dpl rs1) zs2)) := Dls.eOwn_keeps O130.out hb13 (by have z0 := Z1.out; have z1 := Z6.out; have z2 := Z11.out; have z3 := Z22.out; have z4 := Z32.out; have z5 := Z41.out; have z6 := Z56.out; have z7 := Z74.out; have z8 := Z88.out; have z9 := Z101.out; have z10 := Z116.out; have z11 := Z129.out; omega)
      have O146 : Hid (Kep.IOwn w13 (w5.heap.size) (w6.heap.size) u37 zs2) := Kep.iOwn_keeps O132.out hb13 (by have z0 := Z1.out; have z1 := Z6.out; have z2 := Z11.out; have z3 := Z22.out; have z4 := Z32.out; have z5 := Z41.out; have z6 := Z56.out; have z7 := Z74.out; have z8 := Z88.out; have z9 := Z101.out; have z10 := Z116.out; have z11 := Z129.out; omega)
      have O147 : Hid (Dls.EOwn w13 (w6.heap.size) (w7.heap.size) (.slice ua47 un48 uc49) (.slice ta50 tn51 tc52) (Bpu.badV i0 (Dls.dpl rs1) zs2)) := Dls.eOwn_keeps O133.out hb13 (by have z0 := Z1.out; have z1 := Z6.out; have z2 := Z11.out; have z3 := Z22.out; have z4 := Z32.out; have z5 := Z41.out; have z6 := Z56.out; have z7 := Z74.out; have z8 := Z88.out; have z9 := Z101.out; have z10 := Z116.out; have z11 := Z129.out; omega)
      have K148 : Hid (w13.cell? ⟨w4.heap.size, 0, none⟩ = some (.slice ua15 un16 uc17) ∧ w13.cell? ⟨w4.heap.size, 1, none⟩ = some (.slice ta18 tn19 tc20)) := ⟨Keeps.cell hb13 K135.out.1 (by have z0 := Z1.out; have z1 := Z6.out; have z2 := Z11.out; have z3 := Z22.out; have z4 := Z32.out; have z5 := Z41.out; have z6 := Z56.out; have z7 := Z74.out; have z8 := Z88.out; have z9 := Z101.out; have z10 := Z116.out; have z11 := Z129.out; omega), Keeps.cell hb13 K135.out.2 (by have z0 := Z1.out; have z1 := Z6.out; have z2 := Z11.out; have z3 := Z22.out; have z4 := Z32.out; have z5 := Z41.out; have z6 := Z56.out; have z7 := Z74.out; have z8 := Z88.out; have z9 := Z101.out; have z10 := Z116.out; have z11 := Z129.out; omega)⟩
      have K149 : Hid (w13.cell? ⟨w7.heap.size, 0, none⟩ = some (.slice ua47 un48 uc49) ∧ w13.cell? ⟨w7.heap.size, 1, none⟩ = some (.slice ta50 tn51 tc52)) := ⟨Keeps.cell hb13 K136.out.1 (by have z0 := Z1.out; have z1 := Z6.out; have z2 := Z11.out; have z3 := Z22.out; have z4 := Z32.out; have z5 := Z41.out; have z6 := Z56.out; have z7 := Z74.out; have z8 := Z88.out; have z9 := Z101.out; have z10 := Z116.out; have z11 := Z129.out; omega), Keeps.cell hb13 K136.out.2 (by have z0 := Z1.out; have z1 := Z6.out; have z2 := Z11.out; have z3 := Z22.out; have z4 := Z32.out; have z5 := Z41.out; have z6 := Z56.out; have z7 := Z74.out; have z8 := Z88.out; have z9 := Z101.out; have z10 := Z116.out; have z11 := Z129.out; omega)⟩
      have B150 : Hid (Below w.heap.size w w13) := Keeps.below B137.out hb13 (by have z0 := Z1.out; have z1 := Z6.out; have z2 := Z11.out; have z3 := Z22.out; have z4 := Z32.out; have z5 := Z41.out; have z6 := Z56.out; have z7 := Z74.out; have z8 := Z88.out; have z9 := Z101.out; have z10 := Z116.out; have z11 := Z129.out; omega) B137.out.size
      clear hm hb13
      have cc152 : w13.cell? ⟨w4.heap.size, 0, none⟩ = some (.slice ua15 un16 uc17) := K148.out.1
      have cc153 : w13.cell? ⟨w4.heap.size, 1, none⟩ = some (.slice ta18 tn19 tc20) := K148.out.2
      have cc154 : w13.cell? ⟨w7.heap.size, 0, none⟩ = some (.slice ua47 un48 uc49) := K149.out.1
      have cc155 : w13.cell? ⟨w7.heap.size, 1, none⟩ = some (.slice ta50 tn51 tc52) := K149.out.2
      go_wp2_with fail
      refine (Kep.i_mark u37 zs2 _ _ nx138 _ O146.out (by omega) (by omega)).mono ?_
      rintro e w14 ⟨nx151, rfl, hn0nx151, hn1nx151, hm, hb14⟩
      clear cc152 cc153 cc154 cc155
      have hznx151 : ¬ nx151 < 0 := by omega
      have O156 : Hid (Kep.IMarked w14 (w5.heap.size) (w6.heap.size) u37 nx138 nx151) := hm
      have Z157 : Hid (w13.heap.size ≤ w14.heap.size) := hb14.size
      have O158 : Hid (Dls.EOwn w14 (w3.heap.size) (w4.heap.size) (.slice ua15 un16 uc17) (.slice ta18 tn19 tc20) (Bpu.badV i0 (Dls.dpl rs1) zs2)) := Dls.eOwn_keeps O145.out hb14 (by have z0 := Z1.out; have z1 := Z6.out; have z2 := Z11.out; have z3 := Z22.out; have z4 := Z32.out; have z5 := Z41.out; have z6 := Z56.out; have z7 := Z74.out; have z8 := Z88.out; have z9 := Z101.out; have z10 := Z116.out; have z11 := Z129.out; have z12 := Z144.out; omega)
      have O159 : Hid (Dlk.DMarked w14 (w4.heap.size + 1) (w5.heap.size) u28 1 nx138) := Dlk.dMarked_keeps O143.out hb14 (by have z0 := Z1.out; have z1 := Z6.out; have z2 := Z11.out; have z3 := Z22.out; have z4 := Z32.out; have z5 := Z41.out; have z6 := Z56.out; have z7 := Z74.out; have z8 := Z88.out; have z9 := Z101.out; have z10 := Z116.out; have z11 := Z129.out; have z12 := Z144.out; omega)
      have O160 : Hid (Dls.EOwn w14 (w6.heap.size) (w7.heap.size) (.slice ua47 un48 uc49) (.slice ta50 tn51 tc52) (Bpu.badV i0 (Dls.dpl rs1) zs2)) := Dls.eOwn_keeps O147.out hb14 (by have z0 := Z1.out; have z1 := Z6.out; have z2 := Z11.out; have z3 := Z22.out; have z4 := Z32.out; have z5 := Z41.out; have z6 := Z56.out; have z7 := Z74.out; have z8 := Z88.out; have z9 := Z101.out; have z10 := Z116.out; have z11 := Z129.out; have z12 := Z144.out; omega)
      have K161 : Hid (w14.cell? ⟨w4.heap.size, 0, none⟩ = some (.slice ua15 un16 uc17) ∧ w14.cell? ⟨w4.heap.size, 1, none⟩ = some (.slice ta18 tn19 tc20)) := ⟨Keeps.cell hb14 K148.out.1 (by have z0 := Z1.out; have z1 := Z6.out; have z2 := Z11.out; have z3 := Z22.out; have z4 := Z32.out; have z5 := Z41.out; have z6 := Z56.out; have z7 := Z74.out; have z8 := Z88.out; have z9 := Z101.out; have z10 := Z116.out; have z11 := Z129.out; have z12 := Z144.out; omega), Keeps.cell hb14 K148.out.2 (by have z0 := Z1.out; have z1 := Z6.out; have z2 := Z11.out; have z3 := Z22.out; have z4 := Z32.out; have z5 := Z41.out; have z6 := Z56.out; have z7 := Z74.out; have z8 := Z88.out; have z9 := Z101.out; have z10 := Z116.out; have z11 := Z129.out; have z12 := Z144.out; omega)⟩
      have K162 : Hid (w14.cell? ⟨w7.heap.size, 0, none⟩ = some (.slice ua47 un48 uc49) ∧ w14.cell? ⟨w7.heap.size, 1, none⟩ = some (.slice ta50 tn51 tc52)) := ⟨Keeps.cell hb14 K149.out.1 (by have z0 := Z1.out; have z1 := Z6.out; have z2 := Z11.out; have z3 := Z22.out; have z4 := Z32.out; have z5 := Z41.out; have z6 := Z56.out; have z7 := Z74.out; have z8 := Z88.out; have z9 := Z101.out; have z10 := Z116.out; have z11 := Z129.out; have z12 := Z144.out; omega), Keeps.cell hb14 K149.out.2 (by have z0 := Z1.out; have z1 := Z6.out; have z2 := Z11.out; have z3 := Z22.out; have z4 := Z32.out; have z5 := Z41.out; have z6 := Z56.out; have z7 := Z74.out; have z8 := Z88.out; have z9 := Z101.out; have z10 := Z116.out; have z11 := Z129.out; have z12 := Z144.out; omega)⟩
      have B163 : Hid (Below w.heap.size w w14) := Keeps.below B150.out hb14 (by have z0 := Z1.out; have z1 := Z6.out; have z2 := Z11.out; have z3 := Z22.out; have z4 := Z32.out; have z5 := Z41.out; have z6 := Z56.out; have z7 := Z74.out; have z8 := Z88.out; have z9 := Z101.out; have z10 := Z116.out; have z11 := Z129.out; have z12 := Z144.out; omega) B150.out.size
      clear hm hb14
      have cc164 : w14.cell? ⟨w4.heap.size, 0, none⟩ = some (.slice ua15 un16 uc17) := K161.out.1
      have cc165 : w14.cell? ⟨w4.heap.size, 1, none⟩ = some (.slice ta18 tn19 tc20) := K161.out.2
      have cc166 : w14.cell? ⟨w7.heap.size, 0, none⟩ = some (.slice ua47 un48 uc49) := K162.out.1
      have cc167 : w14.cell? ⟨w7.heap.size, 1, none⟩ = some (.slice ta50 tn51 tc52) := K162.out.2
      go_wp2_with fail
      refine (Dls.e_eq (.slice ua47 un48 uc49) (.slice ta50 tn51 tc52) (.slice ua15 un16 uc17) (.slice ta18 tn19 tc20) (Bpu.badV i0 (Dls.dpl rs1) zs2) (Bpu.badV i0 (Dls.dpl rs1) zs2) _ (Dls.eOwn_is O160.out) (Dls.eOwn_is O158.out)).mono ?_
      rintro e w15 ⟨rfl, hb15⟩
      clear cc164 cc165 cc166 cc167
      rw [decide_eq_true (Eq.refl ((Bpu.badV i0 (Dls.dpl rs1) zs2)))]
      have Z168 : Hid (w14.heap.size ≤ w15.heap.size) := hb15.size
      have O169 : Hid (Dls.EOwn w15 (w3.heap.size) (w4.heap.size) (.slice ua15 un16 uc17) (.slice ta18 tn19 tc20) (Bpu.badV i0 (Dls.dpl rs1) zs2)) := Dls.eOwn_below O158.out hb15
      have O170 : Hid (Dlk.DMarked w15 (w4.heap.size + 1) (w5.heap.size) u28 1 nx138) := Dlk.dMarked_below O159.out hb15
      have O171 : Hid (Kep.IMarked w15 (w5.heap.size) (w6.heap.size) u37 nx138 nx151) := Kep.iMarked_below O156.out hb15
      have O172 : Hid (Dls.EOwn w15 (w6.heap.size) (w7.heap.size) (.slice ua47 un48 uc49) (.slice ta50 tn51 tc52) (Bpu.badV i0 (Dls.dpl rs1) zs2)) := Dls.eOwn_below O160.out hb15
      have K173 : Hid (w15.cell? ⟨w4.heap.size, 0, none⟩ = some (.slice ua15 un16 uc17) ∧ w15.cell? ⟨w4.heap.size, 1, none⟩ = some (.slice ta18 tn19 tc20)) := ⟨(hb15.cell (p := ⟨w4.heap.size, 0, none⟩) (Frame.cell_lt K161.out.1)).trans K161.out.1, (hb15.cell (p := ⟨w4.heap.size, 1, none⟩) (Frame.cell_lt K161.out.2)).trans K161.out.2⟩
      have K174 : Hid (w15.cell? ⟨w7.heap.size, 0, none⟩ = some (.slice ua47 un48 uc49) ∧ w15.cell? ⟨w7.heap.size, 1, none⟩ = some (.slice ta50 tn51 tc52)) := ⟨(hb15.cell (p := ⟨w7.heap.size, 0, none⟩) (Frame.cell_lt K162.out.1)).trans K162.out.1, (hb15.cell (p := ⟨w7.heap.size, 1, none⟩) (Frame.cell_lt K162.out.2)).trans K162.out.2⟩
      have B175 : Hid (Below w.heap.size w w15) := Frame.next B163.out hb15 B163.out.size
      clear hb15
      have cc177 : w15.cell? ⟨w4.heap.size, 0, none⟩ = some (.slice ua15 un16 uc17) := K173.out.1
      have cc178 : w15.cell? ⟨w4.heap.size, 1, none⟩ = some (.slice ta18 tn19 tc20) := K173.out.2
      have cc179 : w15.cell? ⟨w7.heap.size, 0, none⟩ = some (.slice ua47 un48 uc49) := K174.out.1
      have cc180 : w15.cell? ⟨w7.heap.size, 1, none⟩ = some (.slice ta50 tn51 tc52) := K174.out.2
      go_wp2_with fail
      refine (Dlk.e_mark (.slice ua47 un48 uc49) (.slice ta50 tn51 tc52) (Bpu.badV i0 (Dls.dpl rs1) zs2) _ _ 1 _ O172.out (by omega) (by omega)).mono ?_
      rintro e w16 ⟨nx176, rfl, hn0nx176, hn1nx176, hm, hb16⟩
      clear cc177 cc178 cc179 cc180
      have hznx176 : ¬ nx176 < 0 := by omega
      have O181 : Hid (Dls.EMarked w16 (w6.heap.size) (w7.heap.size) (.slice ua47 un48 uc49) (.slice ta50 tn51 tc52) 1 nx176) := hm
      have Z182 : Hid (w15.heap.size ≤ w16.heap.size) := hb16.size
      have O183 : Hid (Dls.EOwn w16 (w3.heap.size) (w4.heap.size) (.slice ua15 un16 uc17) (.slice ta18 tn19 tc20) (Bpu.badV i0 (Dls.dpl rs1) zs2)) := Dls.eOwn_keeps O169.out hb16 (by have z0 := Z1.out; have z1 := Z6.out; have z2 := Z11.out; have z3 := Z22.out; have z4 := Z32.out; have z5 := Z41.out; have z6 := Z56.out; have z7 := Z74.out; have z8 := Z88.out; have z9 := Z101.out; have z10 := Z116.out; have z11 := Z129.out; have z12 := Z144.out; have z13 := Z157.out; have z14 := Z168.out; omega)
      have K184 : Hid (w16.cell? ⟨w4.heap.size, 0, none⟩ = some (.slice ua15 un16 uc17) ∧ w16.cell? ⟨w4.heap.size, 1, none⟩ = some (.slice ta18 tn19 tc20)) := ⟨Keeps.cell hb16 K173.out.1 (by have z0 := Z1.out; have z1 := Z6.out; have z2 := Z11.out; have z3 := Z22.out; have z4 := Z32.out; have z5 := Z41.out; have z6 := Z56.out; have z7 := Z74.out; have z8 := Z88.out; have z9 := Z101.out; have z10 := Z116.out; have z11 := Z129.out; have z12 := Z144.out; have z13 := Z157.out; have z14 := Z168.out; omega), Keeps.cell hb16 K173.out.2 (by have z0 := Z1.out; have z1 := Z6.out; have z2 := Z11.out; have z3 := Z22.out; have z4 := Z32.out; have z5 := Z41.out; have z6 := Z56.out; have z7 := Z74.out; have z8 := Z88.out; have z9 := Z101.out; have z10 := Z116.out; have z11 := Z129.out; have z12 := Z144.out; have z13 := Z157.out; have z14 := Z168.out; omega)⟩
      have K185 : Hid (w16.cell? ⟨w7.heap.size, 0, none⟩ = some (.slice ua47 un48 uc49) ∧ w16.cell? ⟨w7.heap.size, 1, none⟩ = some (.slice ta50 tn51 tc52)) := ⟨Keeps.cell hb16 K174.out.1 (by have z0 := Z1.out; have z1 := Z6.out; have z2 := Z11.out; have z3 := Z22.out; have z4 := Z32.out; have z5 := Z41.out; have z6 := Z56.out; have z7 := Z74.out; have z8 := Z88.out; have z9 := Z101.out; have z10 := Z116.out; have z11 := Z129.out; have z12 := Z144.out; have z13 := Z157.out; have z14 := Z168.out; omega), Keeps.cell hb16 K174.out.2 (by have z0 := Z1.out; have z1 := Z6.out; have z2 := Z11.out; have z3 := Z22.out; have z4 := Z32.out; have z5 := Z41.out; have z6 := Z56.out; have z7 := Z74.out; have z8 := Z88.out; have z9 := Z101.out; have z10 := Z116.out; have z11 := Z129.out; have z12 := Z144.out; have z13 := Z157.out; have z14 := Z168.out; omega)⟩
      have B186 : Hid (Below w.heap.size w w16) := Keeps.below B175.out hb16 (by have z0 := Z1.out; have z1 := Z6.out; have z2 := Z11.out; have z3 := Z22.out; have z4 := Z32.out; have z5 := Z41.out; have z6 := Z56.out; have z7 := Z74.out; have z8 := Z88.out; have z9 := Z101.out; have z10 := Z116.out; have z11 := Z129.out; have z12 := Z144.out; have z13 := Z157.out; have z14 := Z168.out; omega) B175.out.size
      clear hm hb16
      have cc187 : w16.cell? ⟨w4.heap.size, 0, none⟩ = some (.slice ua15 un16 uc17) := K184.out.1
      have cc188 : w16.cell? ⟨w4.heap.size, 1, none⟩ = some (.slice ta18 tn19 tc20) := K184.out.2
      have cc189 : w16.cell? ⟨w7.heap.size, 0, none⟩ = some (.slice ua47 un48 uc49) := K185.out.1
      have cc190 : w16.cell? ⟨w7.heap.size, 1, none⟩ = some (.slice ta50 tn51 tc52) := K185.out.2
      go_wp2_with fail
      refine (Dle.e_held (.slice ua47 un48 uc49) (.slice ta50 tn51 tc52) _ _ 1 nx176 _ O181.out).mono ?_
      rintro e w17 ⟨rfl, hb17⟩
      clear cc187 cc188 cc189 cc190
      have Z191 : Hid (w16.heap.size ≤ w17.heap.size) := hb17.size
      have O192 : Hid (Dls.EOwn w17 (w3.heap.size) (w4.heap.size) (.slice ua15 un16 uc17) (.slice ta18 tn19 tc20) (Bpu.badV i0 (Dls.dpl rs1) zs2)) := Dls.eOwn_below O183.out hb17
      have O193 : Hid (Dls.EMarked w17 (w6.heap.size) (w7.heap.size) (.slice ua47 un48 uc49) (.slice ta50 tn51 tc52) 1 nx176) := Dls.eMarked_below O181.out hb17
      have K194 : Hid (w17.cell? ⟨w4.heap.size, 0, none⟩ = some (.slice ua15 un16 uc17) ∧ w17.cell? ⟨w4.heap.size, 1, none⟩ = some (.slice ta18 tn19 tc20)) := ⟨(hb17.cell (p := ⟨w4.heap.size, 0, none⟩) (Frame.cell_lt K184.out.1)).trans K184.out.1, (hb17.cell (p := ⟨w4.heap.size, 1, none⟩) (Frame.cell_lt K184.out.2)).trans K184.out.2⟩
      have K195 : Hid (w17.cell? ⟨w7.heap.size, 0, none⟩ = some (.slice ua47 un48 uc49) ∧ w17.cell? ⟨w7.heap.size, 1, none⟩ = some (.slice ta50 tn51 tc52)) := ⟨(hb17.cell (p := ⟨w7.heap.size, 0, none⟩) (Frame.cell_lt K185.out.1)).trans K185.out.1, (hb17.cell (p := ⟨w7.heap.size, 1, none⟩) (Frame.cell_lt K185.out.2)).trans K185.out.2⟩
      have B196 : Hid (Below w.heap.size w w17) := Frame.next B186.out hb17 B186.out.size
      clear hb17
      have cc198 : w17.cell? ⟨w4.heap.size, 0, none⟩ = some (.slice ua15 un16 uc17) := K194.out.1
      have cc199 : w17.cell? ⟨w4.heap.size, 1, none⟩ = some (.slice ta18 tn19 tc20) := K194.out.2
      have cc200 : w17.cell? ⟨w7.heap.size, 0, none⟩ = some (.slice ua47 un48 uc49) := K195.out.1
      have cc201 : w17.cell? ⟨w7.heap.size, 1, none⟩ = some (.slice ta50 tn51 tc52) := K195.out.2
      go_wp2_with fail
      refine (Dlk.d_to (.slice a1 n1 c1) (Dls.dpl rs1) _ (Dlk.dIs_below A1.out B196.out)).mono ?_
      rintro e w18 ⟨u197, rfl, ho, hb18⟩
      clear cc198 cc199 cc200 cc201
      have O202 : Hid (Dlk.DOwn w18 (w17.heap.size) (w18.heap.size) u197 (Dls.dpl rs1)) := ho
      have Z203 : Hid (w17.heap.size ≤ w18.heap.size) := hb18.size
      have O204 : Hid (Dls.EOwn w18 (w3.heap.size) (w4.heap.size) (.slice ua15 un16 uc17) (.slice ta18 tn19 tc20) (Bpu.badV i0 (Dls.dpl rs1) zs2)) := Dls.eOwn_below O192.out hb18
      have O205 : Hid (Dls.EMarked w18 (w6.heap.size) (w7.heap.size) (.slice ua47 un48 uc49) (.slice ta50 tn51 tc52) 1 nx176) := Dls.eMarked_below O193.out hb18
      have K206 : Hid (w18.cell? ⟨w4.heap.size, 0, none⟩ = some (.slice ua15 un16 uc17) ∧ w18.cell? ⟨w4.heap.size, 1, none⟩ = some (.slice ta18 tn19 tc20)) := ⟨(hb18.cell (p := ⟨w4.heap.size, 0, none⟩) (Frame.cell_lt K194.out.1)).trans K194.out.1, (hb18.cell (p := ⟨w4.heap.size, 1, none⟩) (Frame.cell_lt K194.out.2)).trans K194.out.2⟩
      have K207 : Hid (w18.cell? ⟨w7.heap.size, 0, none⟩ = some (.slice ua47 un48 uc49) ∧ w18.cell? ⟨w7.heap.size, 1, none⟩ = some (.slice ta50 tn51 tc52)) := ⟨(hb18.cell (p := ⟨w7.heap.size, 0, none⟩) (Frame.cell_lt K195.out.1)).trans K195.out.1, (hb18.cell (p := ⟨w7.heap.size, 1, none⟩) (Frame.cell_lt K195.out.2)).trans K195.out.2⟩
      have B208 : Hid (Below w.heap.size w w18) := Frame.next B196.out hb18 B196.out.size
      clear ho hb18
      have cc211 : w18.cell? ⟨w4.heap.size, 0, none⟩ = some (.slice ua15 un16 uc17) := K206.out.1
      have cc212 : w18.cell? ⟨w4.heap.size, 1, none⟩ = some (.slice ta18 tn19 tc20) := K206.out.2
      have cc213 : w18.cell? ⟨w7.heap.size, 0, none⟩ = some (.slice ua47 un48 uc49) := K207.out.1
      have cc214 : w18.cell? ⟨w7.heap.size, 1, none⟩ = some (.slice ta50 tn51 tc52) := K207.out.2
      go_wp2_with fail
      refine (Kep.i_to (.slice a2 n2 c2) zs2 _ (Kep.iIs_below A2.out B208.out)).mono ?_
      rintro e w19 ⟨u210, rfl, ho, hb19⟩
      clear cc211 cc212 cc213 cc214
      have O215 : Hid (Kep.IOwn w19 (w18.heap.size) (w19.heap.size) u210 zs2) := ho
      have Z216 : Hid (w18.heap.size ≤ w19.heap.size) := hb19.size
      have O217 : Hid (Dls.EOwn w19 (w3.heap.size) (w4.heap.size) (.slice ua15 un16 uc17) (.slice ta18 tn19 tc20) (Bpu.badV i0 (Dls.dpl rs1) zs2)) := Dls.eOwn_below O204.out hb19
      have O218 : Hid (Dls.EMarked w19 (w6.heap.size) (w7.heap.size) (.slice ua47 un48 uc49) (.slice ta50 tn51 tc52) 1 nx176) := Dls.eMarked_below O205.out hb19
      have O219 : Hid (Dlk.DOwn w19 (w17.heap.size) (w18.heap.size) u197 (Dls.dpl rs1)) := Dlk.dOwn_below O202.out hb19
      have K220 : Hid (w19.cell? ⟨w4.heap.size, 0, none⟩ = some (.slice ua15 un16 uc17) ∧ w19.cell? ⟨w4.heap.size, 1, none⟩ = some (.slice ta18 tn19 tc20)) := ⟨(hb19.cell (p := ⟨w4.heap.size, 0, none⟩) (Frame.cell_lt K206.out.1)).trans K206.out.1, (hb19.cell (p := ⟨w4.heap.size, 1, none⟩) (Frame.cell_lt K206.out.2)).trans K206.out.2⟩
      have K221 : Hid (w19.cell? ⟨w7.heap.size, 0, none⟩ = some (.slice ua47 un48 uc49) ∧ w19.cell? ⟨w7.heap.size, 1, none⟩ = some (.slice ta50 tn51 tc52)) := ⟨(hb19.cell (p := ⟨w7.heap.size, 0, none⟩) (Frame.cell_lt K207.out.1)).trans K207.out.1, (hb19.cell (p := ⟨w7.heap.size, 1, none⟩) (Frame.cell_lt K207.out.2)).trans K207.out.2⟩
      have B222 : Hid (Below w.heap.size w w19) := Frame.next B208.out hb19 B208.out.size
      clear ho hb19
      have cc230 : w19.cell? ⟨w4.heap.size, 0, none⟩ = some (.slice ua15 un16 uc17) := K220.out.1
      have cc231 : w19.cell? ⟨w4.heap.size, 1, none⟩ = some (.slice ta18 tn19 tc20) := K220.out.2
      have cc232 : w19.cell? ⟨w7.heap.size, 0, none⟩ = some (.slice ua47 un48 uc49) := K221.out.1
      have cc233 : w19.cell? ⟨w7.heap.size, 1, none⟩ = some (.slice ta50 tn51 tc52) := K221.out.2
      go_wp2_with fail
      refine (Bsr.impl_BadIn i0 u197 u210 (Dls.dpl rs1) zs2 _ (Dlk.dOwn_is O219.out) (Kep.iOwn_is O215.out)).mono ?_
      rintro e w20 ⟨ua224, un225, uc226, ta227, tn228, tc229, rfl, ho0, hb20⟩
      clear cc230 cc231 cc232 cc233
      have O234 : Hid (Dls.EOwn w20 (w19.heap.size) (w20.heap.size) (.slice ua224 un225 uc226) (.slice ta227 tn228 tc229) (Bpu.badV i0 (Dls.dpl rs1) zs2)) := ho0
      have Z235 : Hid (w19.heap.size ≤ w20.heap.size) := hb20.size
      have O236 : Hid (Dls.EOwn w20 (w3.heap.size) (w4.heap.size) (.slice ua15 un16 uc17) (.slice ta18 tn19 tc20) (Bpu.badV i0 (Dls.dpl rs1) zs2)) := Dls.eOwn_below O217.out hb20
      have O237 : Hid (Dls.EMarked w20 (w6.heap.size) (w7.heap.size) (.slice ua47 un48 uc49) (.slice ta50 tn51 tc52) 1 nx176) := Dls.eMarked_below O218.out hb20
      have K238 : Hid (w20.cell? ⟨w4.heap.size, 0, none⟩ = some (.slice ua15 un16 uc17) ∧ w20.cell? ⟨w4.heap.size, 1, none⟩ = some (.slice ta18 tn19 tc20)) := ⟨(hb20.cell (p := ⟨w4.heap.size, 0, none⟩) (Frame.cell_lt K220.out.1)).trans K220.out.1, (hb20.cell (p := ⟨w4.heap.size, 1, none⟩) (Frame.cell_lt K220.out.2)).trans K220.out.2⟩
      have K239 : Hid (w20.cell? ⟨w7.heap.size, 0, none⟩ = some (.slice ua47 un48 uc49) ∧ w20.cell? ⟨w7.heap.size, 1, none⟩ = some (.slice ta50 tn51 tc52)) := ⟨(hb20.cell (p := ⟨w7.heap.size, 0, none⟩) (Frame.cell_lt K221.out.1)).trans K221.out.1, (hb20.cell (p := ⟨w7.heap.size, 1, none⟩) (Frame.cell_lt K221.out.2)).trans K221.out.2⟩
      have B240 : Hid (Below w.heap.size w w20) := Frame.next B222.out hb20 B222.out.size
      clear ho0 hb20
      have O241 : Hid (Dls.EOwn (w20.alloc (.cells #[.slice ua224 un225 uc226, .slice ta227 tn228 tc229] 26)) (w3.heap.size) (w4.heap.size) (.slice ua15 un16 uc17) (.slice ta18 tn19 tc20) (Bpu.badV i0 (Dls.dpl rs1) zs2)) := Dls.eOwn_below O236.out ((Below.refl w20.heap.size w20).alloc (Nat.le_refl _) (.cells #[.slice ua224 un225 uc226, .slice ta227 tn228 tc229] 26))
      have O242 : Hid (Dls.EMarked (w20.alloc (.cells #[.slice ua224 un225 uc226, .slice ta227 tn228 tc229] 26)) (w6.heap.size) (w7.heap.size) (.slice ua47 un48 uc49) (.slice ta50 tn51 tc52) 1 nx176) := Dls.eMarked_below O237.out ((Below.refl w20.heap.size w20).alloc (Nat.le_refl _) (.cells #[.slice ua224 un225 uc226, .slice ta227 tn228 tc229] 26))
      have O243 : Hid (Dls.EOwn (w20.alloc (.cells #[.slice ua224 un225 uc226, .slice ta227 tn228 tc229] 26)) (w19.heap.size) (w20.heap.size) (.slice ua224 un225 uc226) (.slice ta227 tn228 tc229) (Bpu.badV i0 (Dls.dpl rs1) zs2)) := Dls.eOwn_below O234.out ((Below.refl w20.heap.size w20).alloc (Nat.le_refl _) (.cells #[.slice ua224 un225 uc226, .slice ta227 tn228 tc229] 26))
      have K244 : Hid ((w20.alloc (.cells #[.slice ua224 un225 uc226, .slice ta227 tn228 tc229] 26)).cell? ⟨w4.heap.size, 0, none⟩ = some (.slice ua15 un16 uc17) ∧ (w20.alloc (.cells #[.slice ua224 un225 uc226, .slice ta227 tn228 tc229] 26)).cell? ⟨w4.heap.size, 1, none⟩ = some (.slice ta18 tn19 tc20)) := ⟨(((Below.refl w20.heap.size w20).alloc (Nat.le_refl _) (.cells #[.slice ua224 un225 uc226, .slice ta227 tn228 tc229] 26)).cell (p := ⟨w4.heap.size, 0, none⟩) (Frame.cell_lt K238.out.1)).trans K238.out.1, (((Below.refl w20.heap.size w20).alloc (Nat.le_refl _) (.cells #[.slice ua224 un225 uc226, .slice ta227 tn228 tc229] 26)).cell (p := ⟨w4.heap.size, 1, none⟩) (Frame.cell_lt K238.out.2)).trans K238.out.2⟩
      have K245 : Hid ((w20.alloc (.cells #[.slice ua224 un225 uc226, .slice ta227 tn228 tc229] 26)).cell? ⟨w7.heap.size, 0, none⟩ = some (.slice ua47 un48 uc49) ∧ (w20.alloc (.cells #[.slice ua224 un225 uc226, .slice ta227 tn228 tc229] 26)).cell? ⟨w7.heap.size, 1, none⟩ = some (.slice ta50 tn51 tc52)) := ⟨(((Below.refl w20.heap.size w20).alloc (Nat.le_refl _) (.cells #[.slice ua224 un225 uc226, .slice ta227 tn228 tc229] 26)).cell (p := ⟨w7.heap.size, 0, none⟩) (Frame.cell_lt K239.out.1)).trans K239.out.1, (((Below.refl w20.heap.size w20).alloc (Nat.le_refl _) (.cells #[.slice ua224 un225 uc226, .slice ta227 tn228 tc229] 26)).cell (p := ⟨w7.heap.size, 1, none⟩) (Frame.cell_lt K239.out.2)).trans K239.out.2⟩
      have B246 : Hid (Below w.heap.size w (w20.alloc (.cells #[.slice ua224 un225 uc226, .slice ta227 tn228 tc229] 26))) := Frame.next B240.out ((Below.refl w20.heap.size w20).alloc (Nat.le_refl _) (.cells #[.slice ua224 un225 uc226, .slice ta227 tn228 tc229] 26)) B240.out.size
      have K247 : Hid ((w20.alloc (.cells #[.slice ua224 un225 uc226, .slice ta227 tn228 tc229] 26)).cell? ⟨w20.heap.size, 0, none⟩ = some (.slice ua224 un225 uc226) ∧ (w20.alloc (.cells #[.slice ua224 un225 uc226, .slice ta227 tn228 tc229] 26)).cell? ⟨w20.heap.size, 1, none⟩ = some (.slice ta227 tn228 tc229)) := by
        show _ ∧ _
        refine ⟨?_, ?_⟩ <;> rw [World.cell?_alloc_at _ _ _ _ rfl] <;> rfl
      have E248 : Hid ((w20.alloc (.cells #[.slice ua224 un225 uc226, .slice ta227 tn228 tc229] 26)).heap.size = w20.heap.size + 1) := by show _ = _; simp
      have cc249 : (w20.alloc (.cells #[.slice ua224 un225 uc226, .slice ta227 tn228 tc229] 26)).cell? ⟨w4.heap.size, 0, none⟩ = some (.slice ua15 un16 uc17) := K244.out.1
      have cc250 : (w20.alloc (.cells #[.slice ua224 un225 uc226, .slice ta227 tn228 tc229] 26)).cell? ⟨w4.heap.size, 1, none⟩ = some (.slice ta18 tn19 tc20) := K244.out.2
      have cc251 : (w20.alloc (.cells #[.slice ua224 un225 uc226, .slice ta227 tn228 tc229] 26)).cell? ⟨w7.heap.size, 0, none⟩ = some (.slice ua47 un48 uc49) := K245.out.1
      have cc252 : (w20.alloc (.cells #[.slice ua224 un225 uc226, .slice ta227 tn228 tc229] 26)).cell? ⟨w7.heap.size, 1, none⟩ = some (.slice ta50 tn51 tc52) := K245.out.2
      have cc253 : (w20.alloc (.cells #[.slice ua224 un225 uc226, .slice ta227 tn228 tc229] 26)).cell? ⟨w20.heap.size, 0, none⟩ = some (.slice ua224 un225 uc226) := K247.out.1
      have cc254 : (w20.alloc (.cells #[.slice ua224 un225 uc226, .slice ta227 tn228 tc229] 26)).cell? ⟨w20.heap.size, 1, none⟩ = some (.slice ta227 tn228 tc229) := K247.out.2
      go_wp2_with fail
      refine (Dls.e_eq (.slice ua224 un225 uc226) (.slice ta227 tn228 tc229) (.slice ua15 un16 uc17) (.slice ta18 tn19 tc20) (Bpu.badV i0 (Dls.dpl rs1) zs2) (Bpu.badV i0 (Dls.dpl rs1) zs2) _ (Dls.eOwn_is O243.out) (Dls.eOwn_is O241.out)).mono ?_
      rintro e w21 ⟨rfl, hb21⟩
      clear cc249 cc250 cc251 cc252 cc253 cc254
      rw [decide_eq_true (Eq.refl ((Bpu.badV i0 (Dls.dpl rs1) zs2)))]
      have Z255 : Hid (w20.heap.size + 1 ≤ w21.heap.size) := (by have hh := hb21.size; rw [E248.out] at hh; exact hh)
      have O256 : Hid (Dls.EOwn w21 (w3.heap.size) (w4.heap.size) (.slice ua15 un16 uc17) (.slice ta18 tn19 tc20) (Bpu.badV i0 (Dls.dpl rs1) zs2)) := Dls.eOwn_below O241.out hb21
      have O257 : Hid (Dls.EMarked w21 (w6.heap.size) (w7.heap.size) (.slice ua47 un48 uc49) (.slice ta50 tn51 tc52) 1 nx176) := Dls.eMarked_below O242.out hb21
      have O258 : Hid (Dls.EOwn w21 (w19.heap.size) (w20.heap.size) (.slice ua224 un225 uc226) (.slice ta227 tn228 tc229) (Bpu.badV i0 (Dls.dpl rs1) zs2)) := Dls.eOwn_below O243.out hb21
      have K259 : Hid (w21.cell? ⟨w4.heap.size, 0, none⟩ = some (.slice ua15 un16 uc17) ∧ w21.cell? ⟨w4.heap.size, 1, none⟩ = some (.slice ta18 tn19 tc20)) := ⟨(hb21.cell (p := ⟨w4.heap.size, 0, none⟩) (Frame.cell_lt K244.out.1)).trans K244.out.1, (hb21.cell (p := ⟨w4.heap.size, 1, none⟩) (Frame.cell_lt K244.out.2)).trans K244.out.2⟩
      have K260 : Hid (w21.cell? ⟨w7.heap.size, 0, none⟩ = some (.slice ua47 un48 uc49) ∧ w21.cell? ⟨w7.heap.size, 1, none⟩ = some (.slice ta50 tn51 tc52)) := ⟨(hb21.cell (p := ⟨w7.heap.size, 0, none⟩) (Frame.cell_lt K245.out.1)).trans K245.out.1, (hb21.cell (p := ⟨w7.heap.size, 1, none⟩) (Frame.cell_lt K245.out.2)).trans K245.out.2⟩
      have K261 : Hid (w21.cell? ⟨w20.heap.size, 0, none⟩ = some (.slice ua224 un225 uc226) ∧ w21.cell? ⟨w20.heap.size, 1, none⟩ = some (.slice ta227 tn228 tc229)) := ⟨(hb21.cell (p := ⟨w20.heap.size, 0, none⟩) (Frame.cell_lt K247.out.1)).trans K247.out.1, (hb21.cell (p := ⟨w20.heap.size, 1, none⟩) (Frame.cell_lt K247.out.2)).trans K247.out.2⟩
      have B262 : Hid (Below w.heap.size w w21) := Frame.next B246.out hb21 B246.out.size
      clear hb21
      have cc263 : w21.cell? ⟨w4.heap.size, 0, none⟩ = some (.slice ua15 un16 uc17) := K259.out.1
      have cc264 : w21.cell? ⟨w4.heap.size, 1, none⟩ = some (.slice ta18 tn19 tc20) := K259.out.2
      have cc265 : w21.cell? ⟨w7.heap.size, 0, none⟩ = some (.slice ua47 un48 uc49) := K260.out.1
      have cc266 : w21.cell? ⟨w7.heap.size, 1, none⟩ = some (.slice ta50 tn51 tc52) := K260.out.2
      have cc267 : w21.cell? ⟨w20.heap.size, 0, none⟩ = some (.slice ua224 un225 uc226) := K261.out.1
      have cc268 : w21.cell? ⟨w20.heap.size, 1, none⟩ = some (.slice ta227 tn228 tc229) := K261.out.2
      go_wp2_with fail
      refine (Dle.e_held (.slice ua47 un48 uc49) (.slice ta50 tn51 tc52) _ _ 1 nx176 _ O257.out).mono ?_
      rintro e w22 ⟨rfl, hb22⟩
      clear cc263 cc264 cc265 cc266 cc267 cc268
      have Z269 : Hid (w21.heap.size ≤ w22.heap.size) := hb22.size
      have O270 : Hid (Dls.EOwn w22 (w3.heap.size) (w4.heap.size) (.slice ua15 un16 uc17) (.slice ta18 tn19 tc20) (Bpu.badV i0 (Dls.dpl rs1) zs2)) := Dls.eOwn_below O256.out hb22
      have O271 : Hid (Dls.EMarked w22 (w6.heap.size) (w7.heap.size) (.slice ua47 un48 uc49) (.slice ta50 tn51 tc52) 1 nx176) := Dls.eMarked_below O257.out hb22
      have O272 : Hid (Dls.EOwn w22 (w19.heap.size) (w20.heap.size) (.slice ua224 un225 uc226) (.slice ta227 tn228 tc229) (Bpu.badV i0 (Dls.dpl rs1) zs2)) := Dls.eOwn_below O258.out hb22
      have K273 : Hid (w22.cell? ⟨w4.heap.size, 0, none⟩ = some (.slice ua15 un16 uc17) ∧ w22.cell? ⟨w4.heap.size, 1, none⟩ = some (.slice ta18 tn19 tc20)) := ⟨(hb22.cell (p := ⟨w4.heap.size, 0, none⟩) (Frame.cell_lt K259.out.1)).trans K259.out.1, (hb22.cell (p := ⟨w4.heap.size, 1, none⟩) (Frame.cell_lt K259.out.2)).trans K259.out.2⟩
      have K274 : Hid (w22.cell? ⟨w7.heap.size, 0, none⟩ = some (.slice ua47 un48 uc49) ∧ w22.cell? ⟨w7.heap.size, 1, none⟩ = some (.slice ta50 tn51 tc52)) := ⟨(hb22.cell (p := ⟨w7.heap.size, 0, none⟩) (Frame.cell_lt K260.out.1)).trans K260.out.1, (hb22.cell (p := ⟨w7.heap.size, 1, none⟩) (Frame.cell_lt K260.out.2)).trans K260.out.2⟩
      have K275 : Hid (w22.cell? ⟨w20.heap.size, 0, none⟩ = some (.slice ua224 un225 uc226) ∧ w22.cell? ⟨w20.heap.size, 1, none⟩ = some (.slice ta227 tn228 tc229)) := ⟨(hb22.cell (p := ⟨w20.heap.size, 0, none⟩) (Frame.cell_lt K261.out.1)).trans K261.out.1, (hb22.cell (p := ⟨w20.heap.size, 1, none⟩) (Frame.cell_lt K261.out.2)).trans K261.out.2⟩
      have B276 : Hid (Below w.heap.size w w22) := Frame.next B262.out hb22 B262.out.size
      clear hb22
      go_wp2
      go_ret
      exact ⟨rfl, B276.out⟩

set_option maxRecDepth 100000 in
theorem contract (H : Type) (enc : TypeId × Value → H) (W : World) (base : Nat) (args : Array Value) (ds gs : List (DataW H)) (before : List MemPlace)
    (hval0 : ∀ (j : Nat) t v, Try.f11.params[j]? = some t → args[j]? = some v → Value.okWide Try.prog W .any base t v)
    (hW : DataW.Whole enc Try.prog Try.f11.params.toList Rows.fnExactBadInSpec.vars false W args.toList ds gs before) :
    Calls Try.prog 11 args W fun e W' => ∃ v, e = .returned v ∧ Rows.fnExactBadInSpec.post enc Try.prog Try.f11 false true false false W args v W' := by
  refine Frame.law_calls (tb := 4) laidOut (by kernel_rfl) (by kernel_rfl) (by kernel_rfl) Try.underlying4 hW (fun ds gs h1 h2 => ?_) ?_
  · rw [Try.params11] at h1
    match ds, gs, h1, h2 with
    | [_, _, _], [], _, _ => rfl
  · obtain ⟨p, q, hA0, _, _, _, _⟩ := hW
    have hval : ∀ (j : Nat) t v, Try.f11.params[j]? = some t → args[j]? = some v → Value.okWide Try.prog W .any base t v := hval0
    have hA : DataW.TrodAll enc Try.prog W 0 (fun _ => true) true Try.f11.params.toList args.toList ds p := hA0
    rw [Try.params11] at hA hval
    obtain ⟨v0, vs0, d0, ds0, p0, q0, hargs, rfl, rfl, h0, r0⟩ := trodAll_cons hA
    obtain ⟨v1, vs1, d1, ds1, p1, q1, rfl, rfl, rfl, h1, r1⟩ := trodAll_cons r0
    obtain ⟨v2, vs2, d2, ds2, p2, q2, rfl, rfl, rfl, h2, r2⟩ := trodAll_cons r1
    obtain ⟨rfl, rfl, rfl⟩ := trodAll_nil r2
    obtain rfl : args = #[v0, v1, v2] := by cases args; simp_all
    obtain ⟨a0, rfl, rfl, rfl, w0⟩ := open_int Try.underlying3 (hval 0 3 v0 rfl rfl) h0
    obtain ⟨a1, len1, cap1, rfl⟩ := okWide_slice Try.underlying73 (hval 1 73 v1 rfl rfl)
    obtain ⟨z1, w1⟩ := Opd.isG_of h1
    obtain ⟨a2, len2, cap2, rfl⟩ := okWide_slice Try.underlying24 (hval 2 24 v2 rfl rfl)
    obtain ⟨z2, w2⟩ := Frame.isRow_of Try.underlying24 Try.underlying3 (by kernel_rfl) h2
    exact walk a0 a1 len1 cap1 z1 a2 len2 cap2 z2 W w0 w1 w2

set_option maxRecDepth 100000 in
theorem lifted (os : Os) (started : os.Started) (H : Type) (enc : TypeId × Value → H) :
    ReturnsInHanded {} Try.checked os 11 .any (Rows.fnExactBadInSpec.pre6 enc Try.prog Try.f11 Rows.fnExactBadInRow.domain false) (Rows.fnExactBadInSpec.post enc Try.prog Try.f11 false true false false) := by
  refine returnsInHanded_of_change (C := Try.checked) own started (by kernel_rfl) Try.func11
    (ChangeSpec.witness6 (enc := enc) (C := Try.checked) false ⟨#[], #[.int .i64 0, .slice none 0 0, .slice none 0 0], []⟩ 8 (by kernel_rfl) (by kernel_rfl) (by kernel_rfl) (by kernel_rfl)) ?_
  intro W base args ds gs before hval hW _ _
  exact contract H enc W base args ds gs before hval hW

theorem fnamed : Try.prog.funcNamed Rows.fnExactBadInRow.func = some 11 := by kernel_rfl

theorem joined : joinedFacts Try.prog 11 Try.f11 Rows.fnExactBadInSpec Rows.fnExactBadInRow = true := by kernel_rfl

/-- The statement. -/
theorem proved : Rows.FnExactBadInSaid :=
  OpenClaim.holds_of_wide 11 Try.f11 rfl rfl rfl rfl rfl rfl rfl ⟨rfl, rfl, rfl, rfl, rfl⟩ rfl rfl rfl rfl rfl fnamed Try.func11 joined
    (of_decide_eq_true (by kernel_rfl)) (by unfold Func.isWrapper; first | (rw [if_pos (by decide +kernel)]; kernel_rfl) | (rw [if_neg (by decide +kernel)]; exact ⟨rfl, rfl⟩))
    (fun os started H enc _ => lifted os started H enc)
#print axioms proved

end Go.Proofs.Ytfekaladfifgoaa.fnExactBadIn
