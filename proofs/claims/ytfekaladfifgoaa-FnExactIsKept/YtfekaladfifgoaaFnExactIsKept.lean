/-
  Proved: at every argument the law FnExactIsKept returns true, and its arguments read afterwards as they did.
-/
import Derived.Test.YtfekaladfifgoaaFrame
import Derived.Test.YtfekaladfifgoaaLsb
import Derived.Test.YtfekaladfifgoaaOpd
namespace Go.Proofs.Ytfekaladfifgoaa.fnExactIsKept
open Go.ChangeShapes Go.WideShapes Go.ChangeAt Go.RowKit

theorem own : ownKnob Try.prog.godebug = none := by kernel_rfl
theorem laidOut : laidOutB Try.prog = true := by kernel_rfl

open Go.Proofs.Ytfekaladfifgoaa.Kep

set_option maxRecDepth 100000 in
set_option maxHeartbeats 4000000 in
theorem walk (i0 : Int) (a1 : Option Addr) (n1 c1 : Nat) (rs1 : List Lls.LV) (a2 : Option Addr) (n2 c2 : Nat) (zs2 : List Int) (ua3 : Option Addr) (un3 uc3 : Nat) (ns3 : List Int) (ta3 : Option Addr) (tn3 tc3 : Nat) (ms3 : List Int) (w : World) (hf0 : (Lit.int .i64 i0).wf = true) (h1 : Dls.IsG w a1 n1 c1 rs1) (h2 : Frame.IsRow .i64 w a2 n2 c2 zs2) (hu3 : Frame.IsRow .i64 w ua3 un3 uc3 ns3) (ht3 : Frame.IsRow .i64 w ta3 tn3 tc3 ms3) :
    Calls Try.prog 16 #[.int .i64 i0, .slice a1 n1 c1, .slice a2 n2 c2, .agg #[.slice ua3 un3 uc3, .slice ta3 tn3 tc3]] w fun e w' => e = .returned (.bool true) ∧ Below w.heap.size w w' := by
  have HWF0 : Hid ((Lit.int .i64 i0).wf = true) := hf0
  clear hf0
  have HR1 : Hid (Dls.IsG w a1 n1 c1 rs1) := h1
  clear h1
  have HR2 : Hid (Frame.IsRow .i64 w a2 n2 c2 zs2) := h2
  have hmx2 : n2 ≤ 9223372036854775807 := by have := h2.fits; have := h2.max; unfold maxLen at *; omega
  clear h2
  have HU3 : Hid (Frame.IsRow .i64 w ua3 un3 uc3 ns3) := hu3
  have HT3 : Hid (Frame.IsRow .i64 w ta3 tn3 tc3 ms3) := ht3
  clear hu3 ht3
  have B0 : Hid (Below w.heap.size w w) := Below.refl _ _
  have B1 : Hid (Below w.heap.size w (w.alloc (.cells #[.slice ua3 un3 uc3, .slice ta3 tn3 tc3] 80))) := B0.out.alloc (by simp; try omega) _
  have K2 : Hid ((w.alloc (.cells #[.slice ua3 un3 uc3, .slice ta3 tn3 tc3] 80)).cell? ⟨w.heap.size, 0, none⟩ = some (.slice ua3 un3 uc3) ∧ (w.alloc (.cells #[.slice ua3 un3 uc3, .slice ta3 tn3 tc3] 80)).cell? ⟨w.heap.size, 1, none⟩ = some (.slice ta3 tn3 tc3)) := by
    show _ ∧ _
    refine ⟨?_, ?_⟩ <;> rw [World.cell?_alloc_at _ _ _ _ (by simp)] <;> rfl
  have E3 : Hid ((w.alloc (.cells #[.slice ua3 un3 uc3, .slice ta3 tn3 tc3] 80)).heap.size = w.heap.size + 1) := by show _ = _; simp
  go_enter Try.func16, Try.ntmps16
  by_cases hN2 : 1048576 < n2
  · have hNI2 : (1048576 : Int) < (n2 : Int) := by omega
    go_wp2
    go_ret
    exact ⟨rfl, B1.out⟩
  · have A2 : Hid (Kep.IIs w (.slice a2 n2 c2) zs2) := ⟨_, _, _, rfl, HR2.out, by omega⟩
    have hNJ2 : ¬ (1048576 : Int) < (n2 : Int) := by omega
    have cc4 : (w.alloc (.cells #[.slice ua3 un3 uc3, .slice ta3 tn3 tc3] 80)).cell? ⟨w.heap.size, 0, none⟩ = some (.slice ua3 un3 uc3) := K2.out.1
    have cc5 : (w.alloc (.cells #[.slice ua3 un3 uc3, .slice ta3 tn3 tc3] 80)).cell? ⟨w.heap.size, 1, none⟩ = some (.slice ta3 tn3 tc3) := K2.out.2
    go_wp2_with fail
    refine (Dlt.szDepS a1 n1 c1 rs1 1048576 _ (HR1.out.below B1.out) (by omega) (by omega)).mono ?_
    rintro e w1 ⟨rfl, hb1⟩
    clear cc4 cc5
    have Z6 : Hid (w.heap.size + 1 ≤ w1.heap.size) := (by have hh := hb1.size; rw [E3.out] at hh; exact hh)
    have K7 : Hid (w1.cell? ⟨w.heap.size, 0, none⟩ = some (.slice ua3 un3 uc3) ∧ w1.cell? ⟨w.heap.size, 1, none⟩ = some (.slice ta3 tn3 tc3)) := ⟨(hb1.cell (p := ⟨w.heap.size, 0, none⟩) (Frame.cell_lt K2.out.1)).trans K2.out.1, (hb1.cell (p := ⟨w.heap.size, 1, none⟩) (Frame.cell_lt K2.out.2)).trans K2.out.2⟩
    have B8 : Hid (Below w.heap.size w w1) := Frame.next B1.out hb1 B1.out.size
    clear hb1
    by_cases hL1 : Lls.left 1048576 ((n1 : Int) + Lls.sumL rs1) < 0
    · go_wp2
      go_ret
      exact ⟨rfl, B8.out⟩
    · have ht1 : (n1 : Int) + Lls.sumL rs1 ≤ 1048576 := by have hq := Lls.sumL_nonneg rs1; unfold Lls.left at hL1; split at hL1 <;> omega
      have A1 : Hid (Dlk.DIs w (.slice a1 n1 c1) (Dls.dpl rs1)) := ⟨_, _, _, _, rfl, HR1.out, rfl, ht1⟩
      have hB1 : Lls.left 1048576 ((n1 : Int) + Lls.sumL rs1) ≤ 1048576 := Krl.left_le _ _ (by have hq := Lls.sumL_nonneg rs1; omega) (by omega)
      clear ht1
      generalize hG1 : Lls.left 1048576 ((n1 : Int) + Lls.sumL rs1) = L9 at hL1 hB1 ⊢
      clear hG1
      have cc10 : w1.cell? ⟨w.heap.size, 0, none⟩ = some (.slice ua3 un3 uc3) := K7.out.1
      have cc11 : w1.cell? ⟨w.heap.size, 1, none⟩ = some (.slice ta3 tn3 tc3) := K7.out.2
      go_wp2_with fail
      refine (Dls.e_sz ua3 ta3 un3 uc3 tn3 tc3 L9 _ (Nat.le_trans HU3.out.fits HU3.out.max) (Nat.le_trans HT3.out.fits HT3.out.max) (by omega) (by omega)).mono ?_
      rintro e w2 ⟨rfl, hb2⟩
      clear cc10 cc11
      have Z12 : Hid (w1.heap.size ≤ w2.heap.size) := hb2.size
      have K13 : Hid (w2.cell? ⟨w.heap.size, 0, none⟩ = some (.slice ua3 un3 uc3) ∧ w2.cell? ⟨w.heap.size, 1, none⟩ = some (.slice ta3 tn3 tc3)) := ⟨(hb2.cell (p := ⟨w.heap.size, 0, none⟩) (Frame.cell_lt K7.out.1)).trans K7.out.1, (hb2.cell (p := ⟨w.heap.size, 1, none⟩) (Frame.cell_lt K7.out.2)).trans K7.out.2⟩
      have B14 : Hid (Below w.heap.size w w2) := Frame.next B8.out hb2 B8.out.size
      clear hb2
      by_cases hL2 : Lls.left L9 ((un3 : Int) + (tn3 : Int)) < 0
      · go_wp2
        go_ret
        exact ⟨rfl, B14.out⟩
      · have ht3 : un3 ≤ 1048576 ∧ tn3 ≤ 1048576 := by unfold Lls.left at hL2; split at hL2 <;> omega
        have A3 : Hid (Dls.EIs w (.slice ua3 un3 uc3) (.slice ta3 tn3 tc3) (ns3, ms3)) := ⟨⟨_, _, _, rfl, HU3.out, ht3.1⟩, ⟨_, _, _, rfl, HT3.out, ht3.2⟩⟩
        have hB2 : Lls.left L9 ((un3 : Int) + (tn3 : Int)) ≤ 1048576 := Krl.left_le _ _ (by omega) (by omega)
        clear ht3
        generalize hG2 : Lls.left L9 ((un3 : Int) + (tn3 : Int)) = L15 at hL2 hB2 ⊢
        clear hG2
        go_wp2_with fail
        have K16 : Hid ((w2.drew).cell? ⟨w.heap.size, 0, none⟩ = some (.slice ua3 un3 uc3) ∧ (w2.drew).cell? ⟨w.heap.size, 1, none⟩ = some (.slice ta3 tn3 tc3)) := ⟨(((Below.refl _ _).drew : Below w2.heap.size w2 w2.drew).cell (p := ⟨w.heap.size, 0, none⟩) (Frame.cell_lt K13.out.1)).trans K13.out.1, (((Below.refl _ _).drew : Below w2.heap.size w2 w2.drew).cell (p := ⟨w.heap.size, 1, none⟩) (Frame.cell_lt K13.out.2)).trans K13.out.2⟩
        have B17 : Hid (Below w.heap.size w w2.drew) := Frame.next B14.out ((Below.refl _ _).drew : Below w2.heap.size w2 w2.drew) B14.out.size
        have E18 : Hid (w2.drew.heap.size = w2.heap.size) := rfl
        have S19 : Hid ((w2.drew).cell? ⟨w.heap.size, 0, none⟩ = some (.slice ua3 un3 uc3) ∧ (w2.drew).cell? ⟨w.heap.size, 1, none⟩ = some (.slice ta3 tn3 tc3)) := ⟨K16.out.1, K16.out.2⟩
        go_region_held3 (fun w' => (w').cell? ⟨w.heap.size, 0, none⟩ = some (.slice ua3 un3 uc3) ∧ (w').cell? ⟨w.heap.size, 1, none⟩ = some (.slice ta3 tn3 tc3)) (first | exact S19.out | exact S25.out | exact S33.out | exact S47.out | exact S52.out) (first | (go_at_call 58; refine (Dlk.d_to (.slice a1 n1 c1) (Dls.dpl rs1) _ (Dlk.dIs_below A1.out B17.out)).mono ?_; rintro e w3 ⟨u20, rfl, ho, hb3⟩; have O21 : Hid (Dlk.DOwn w3 (w2.heap.size) (w3.heap.size) u20 (Dls.dpl rs1)) := (by have hh := ho; rw [E18.out] at hh; exact hh); have Z22 : Hid (w2.heap.size ≤ w3.heap.size) := (by have hh := hb3.size; rw [E18.out] at hh; exact hh); have K23 : Hid (w3.cell? ⟨w.heap.size, 0, none⟩ = some (.slice ua3 un3 uc3) ∧ w3.cell? ⟨w.heap.size, 1, none⟩ = some (.slice ta3 tn3 tc3)) := ⟨(hb3.cell (p := ⟨w.heap.size, 0, none⟩) (Frame.cell_lt K16.out.1)).trans K16.out.1, (hb3.cell (p := ⟨w.heap.size, 1, none⟩) (Frame.cell_lt K16.out.2)).trans K16.out.2⟩; have B24 : Hid (Below w.heap.size w w3) := Frame.next B17.out hb3 B17.out.size; clear ho hb3; have S25 : Hid (w3.cell? ⟨w.heap.size, 0, none⟩ = some (.slice ua3 un3 uc3) ∧ w3.cell? ⟨w.heap.size, 1, none⟩ = some (.slice ta3 tn3 tc3)) := ⟨K23.out.1, K23.out.2⟩) | (go_at_call 73; refine (Kep.i_to (.slice a2 n2 c2) zs2 _ (Kep.iIs_below A2.out B24.out)).mono ?_; rintro e w4 ⟨u27, rfl, ho, hb4⟩; have O28 : Hid (Kep.IOwn w4 (w3.heap.size) (w4.heap.size) u27 zs2) := ho; have Z29 : Hid (w3.heap.size ≤ w4.heap.size) := hb4.size; have O30 : Hid (Dlk.DOwn w4 (w2.heap.size) (w3.heap.size) u20 (Dls.dpl rs1)) := Dlk.dOwn_below O21.out hb4; have K31 : Hid (w4.cell? ⟨w.heap.size, 0, none⟩ = some (.slice ua3 un3 uc3) ∧ w4.cell? ⟨w.heap.size, 1, none⟩ = some (.slice ta3 tn3 tc3)) := ⟨(hb4.cell (p := ⟨w.heap.size, 0, none⟩) (Frame.cell_lt K23.out.1)).trans K23.out.1, (hb4.cell (p := ⟨w.heap.size, 1, none⟩) (Frame.cell_lt K23.out.2)).trans K23.out.2⟩; have B32 : Hid (Below w.heap.size w w4) := Frame.next B24.out hb4 B24.out.size; clear ho hb4; have S33 : Hid (w4.cell? ⟨w.heap.size, 0, none⟩ = some (.slice ua3 un3 uc3) ∧ w4.cell? ⟨w.heap.size, 1, none⟩ = some (.slice ta3 tn3 tc3)) := ⟨K31.out.1, K31.out.2⟩) | (go_at_call 65; refine (Dls.e_to (.slice ua3 un3 uc3) (.slice ta3 tn3 tc3) (ns3, ms3) _ (Dls.eIs_below A3.out B32.out)).mono ?_; rintro e w5 ⟨ua35, un36, uc37, ta38, tn39, tc40, rfl, ho, hb5⟩; have O41 : Hid (Dls.EOwn w5 (w4.heap.size) (w5.heap.size) (.slice ua35 un36 uc37) (.slice ta38 tn39 tc40) (ns3, ms3)) := ho; have Z42 : Hid (w4.heap.size ≤ w5.heap.size) := hb5.size; have O43 : Hid (Dlk.DOwn w5 (w2.heap.size) (w3.heap.size) u20 (Dls.dpl rs1)) := Dlk.dOwn_below O30.out hb5; have O44 : Hid (Kep.IOwn w5 (w3.heap.size) (w4.heap.size) u27 zs2) := Kep.iOwn_below O28.out hb5; have K45 : Hid (w5.cell? ⟨w.heap.size, 0, none⟩ = some (.slice ua3 un3 uc3) ∧ w5.cell? ⟨w.heap.size, 1, none⟩ = some (.slice ta3 tn3 tc3)) := ⟨(hb5.cell (p := ⟨w.heap.size, 0, none⟩) (Frame.cell_lt K31.out.1)).trans K31.out.1, (hb5.cell (p := ⟨w.heap.size, 1, none⟩) (Frame.cell_lt K31.out.2)).trans K31.out.2⟩; have B46 : Hid (Below w.heap.size w w5) := Frame.next B32.out hb5 B32.out.size; clear ho hb5; have S47 : Hid (w5.cell? ⟨w.heap.size, 0, none⟩ = some (.slice ua3 un3 uc3) ∧ w5.cell? ⟨w.heap.size, 1, none⟩ = some (.slice ta3 tn3 tc3)) := ⟨K45.out.1, K45.out.2⟩) | (go_at_call 49; refine (Lsb.spec_IsKept i0 u20 u27 (.slice ua35 un36 uc37) (.slice ta38 tn39 tc40) (Dls.dpl rs1) zs2 (ns3, ms3) _ (Dlk.dOwn_is O43.out) (Kep.iOwn_is O44.out) (Dls.eOwn_is O41.out)).mono ?_; rintro e w6 ⟨rfl, hb6⟩; have Z49 : Hid (w5.heap.size ≤ w6.heap.size) := hb6.size; have K50 : Hid (w6.cell? ⟨w.heap.size, 0, none⟩ = some (.slice ua3 un3 uc3) ∧ w6.cell? ⟨w.heap.size, 1, none⟩ = some (.slice ta3 tn3 tc3)) := ⟨(hb6.cell (p := ⟨w.heap.size, 0, none⟩) (Frame.cell_lt K45.out.1)).trans K45.out.1, (hb6.cell (p := ⟨w.heap.size, 1, none⟩) (Frame.cell_lt K45.out.2)).trans K45.out.2⟩; have B51 : Hid (Below w.heap.size w w6) := Frame.next B46.out hb6 B46.out.size; clear  hb6; have S52 : Hid (w6.cell? ⟨w.heap.size, 0, none⟩ = some (.slice ua3 un3 uc3) ∧ w6.cell? ⟨w.heap.size, 1, none⟩ = some (.slice ta3 tn3 tc3)) := ⟨K50.out.1, K50.out.2⟩))
        have cc54 : w6.cell? ⟨w.heap.size, 0, none⟩ = some (.slice ua3 un3 uc3) := K50.out.1
        have cc55 : w6.cell? ⟨w.heap.size, 1, none⟩ = some (.slice ta3 tn3 tc3) := K50.out.2
        go_wp2_with fail
        refine (Dlk.d_to (.slice a1 n1 c1) (Dls.dpl rs1) _ (Dlk.dIs_below A1.out B51.out)).mono ?_
        rintro e w7 ⟨u53, rfl, ho, hb7⟩
        clear cc54 cc55
        have O56 : Hid (Dlk.DOwn w7 (w6.heap.size) (w7.heap.size) u53 (Dls.dpl rs1)) := ho
        have Z57 : Hid (w6.heap.size ≤ w7.heap.size) := hb7.size
        have K58 : Hid (w7.cell? ⟨w.heap.size, 0, none⟩ = some (.slice ua3 un3 uc3) ∧ w7.cell? ⟨w.heap.size, 1, none⟩ = some (.slice ta3 tn3 tc3)) := ⟨(hb7.cell (p := ⟨w.heap.size, 0, none⟩) (Frame.cell_lt K50.out.1)).trans K50.out.1, (hb7.cell (p := ⟨w.heap.size, 1, none⟩) (Frame.cell_lt K50.out.2)).trans K50.out.2⟩
        have B59 : Hid (Below w.heap.size w w7) := Frame.next B51.out hb7 B51.out.size
        clear ho hb7
        have cc62 : w7.cell? ⟨w.heap.size, 0, none⟩ = some (.slice ua3 un3 uc3) := K58.out.1
        have cc63 : w7.cell? ⟨w.heap.size, 1, none⟩ = some (.slice ta3 tn3 tc3) := K58.out.2
        go_wp2_with fail
        refine (Kep.i_to (.slice a2 n2 c2) zs2 _ (Kep.iIs_below A2.out B59.out)).mono ?_
        rintro e w8 ⟨u61, rfl, ho, hb8⟩
        clear cc62 cc63
        have O64 : Hid (Kep.IOwn w8 (w7.heap.size) (w8.heap.size) u61 zs2) := ho
        have Z65 : Hid (w7.heap.size ≤ w8.heap.size) := hb8.size
        have O66 : Hid (Dlk.DOwn w8 (w6.heap.size) (w7.heap.size) u53 (Dls.dpl rs1)) := Dlk.dOwn_below O56.out hb8
        have K67 : Hid (w8.cell? ⟨w.heap.size, 0, none⟩ = some (.slice ua3 un3 uc3) ∧ w8.cell? ⟨w.heap.size, 1, none⟩ = some (.slice ta3 tn3 tc3)) := ⟨(hb8.cell (p := ⟨w.heap.size, 0, none⟩) (Frame.cell_lt K58.out.1)).trans K58.out.1, (hb8.cell (p := ⟨w.heap.size, 1, none⟩) (Frame.cell_lt K58.out.2)).trans K58.out.2⟩
        have B68 : Hid (Below w.heap.size w w8) := Frame.next B59.out hb8 B59.out.size
        clear ho hb8
        have cc76 : w8.cell? ⟨w.heap.size, 0, none⟩ = some (.slice ua3 un3 uc3) := K67.out.1
        have cc77 : w8.cell? ⟨w.heap.size, 1, none⟩ = some (.slice ta3 tn3 tc3) := K67.out.2
        go_wp2_with fail
        refine (Dls.e_to (.slice ua3 un3 uc3) (.slice ta3 tn3 tc3) (ns3, ms3) _ (Dls.eIs_below A3.out B68.out)).mono ?_
        rintro e w9 ⟨ua70, un71, uc72, ta73, tn74, tc75, rfl, ho, hb9⟩
        clear cc76 cc77
        have O78 : Hid (Dls.EOwn w9 (w8.heap.size) (w9.heap.size) (.slice ua70 un71 uc72) (.slice ta73 tn74 tc75) (ns3, ms3)) := ho
        have Z79 : Hid (w8.heap.size ≤ w9.heap.size) := hb9.size
        have O80 : Hid (Dlk.DOwn w9 (w6.heap.size) (w7.heap.size) u53 (Dls.dpl rs1)) := Dlk.dOwn_below O66.out hb9
        have O81 : Hid (Kep.IOwn w9 (w7.heap.size) (w8.heap.size) u61 zs2) := Kep.iOwn_below O64.out hb9
        have K82 : Hid (w9.cell? ⟨w.heap.size, 0, none⟩ = some (.slice ua3 un3 uc3) ∧ w9.cell? ⟨w.heap.size, 1, none⟩ = some (.slice ta3 tn3 tc3)) := ⟨(hb9.cell (p := ⟨w.heap.size, 0, none⟩) (Frame.cell_lt K67.out.1)).trans K67.out.1, (hb9.cell (p := ⟨w.heap.size, 1, none⟩) (Frame.cell_lt K67.out.2)).trans K67.out.2⟩
        have B83 : Hid (Below w.heap.size w w9) := Frame.next B68.out hb9 B68.out.size
        clear ho hb9
        have O85 : Hid (Dlk.DOwn (w9.alloc (.cells #[.slice ua70 un71 uc72, .slice ta73 tn74 tc75] 26)) (w6.heap.size) (w7.heap.size) u53 (Dls.dpl rs1)) := Dlk.dOwn_below O80.out ((Below.refl w9.heap.size w9).alloc (Nat.le_refl _) (.cells #[.slice ua70 un71 uc72, .slice ta73 tn74 tc75] 26))
        have O86 : Hid (Kep.IOwn (w9.alloc (.cells #[.slice ua70 un71 uc72, .slice ta73 tn74 tc75] 26)) (w7.heap.size) (w8.heap.size) u61 zs2) := Kep.iOwn_below O81.out ((Below.refl w9.heap.size w9).alloc (Nat.le_refl _) (.cells #[.slice ua70 un71 uc72, .slice ta73 tn74 tc75] 26))
        have O87 : Hid (Dls.EOwn (w9.alloc (.cells #[.slice ua70 un71 uc72, .slice ta73 tn74 tc75] 26)) (w8.heap.size) (w9.heap.size) (.slice ua70 un71 uc72) (.slice ta73 tn74 tc75) (ns3, ms3)) := Dls.eOwn_below O78.out ((Below.refl w9.heap.size w9).alloc (Nat.le_refl _) (.cells #[.slice ua70 un71 uc72, .slice ta73 tn74 tc75] 26))
        have K88 : Hid ((w9.alloc (.cells #[.slice ua70 un71 uc72, .slice ta73 tn74 tc75] 26)).cell? ⟨w.heap.size, 0, none⟩ = some (.slice ua3 un3 uc3) ∧ (w9.alloc (.cells #[.slice ua70 un71 uc72, .slice ta73 tn74 tc75] 26)).cell? ⟨w.heap.size, 1, none⟩ = some (.slice ta3 tn3 tc3)) := ⟨(((Below.refl w9.heap.size w9).alloc (Nat.le_refl _) (.cells #[.slice ua70 un71 uc72, .slice ta73 tn74 tc75] 26)).cell (p := ⟨w.heap.size, 0, none⟩) (Frame.cell_lt K82.out.1)).trans K82.out.1, (((Below.refl w9.heap.size w9).alloc (Nat.le_refl _) (.cells #[.slice ua70 un71 uc72, .slice ta73 tn74 tc75] 26)).cell (p := ⟨w.heap.size, 1, none⟩) (Frame.cell_lt K82.out.2)).trans K82.out.2⟩
        have B89 : Hid (Below w.heap.size w (w9.alloc (.cells #[.slice ua70 un71 uc72, .slice ta73 tn74 tc75] 26))) := Frame.next B83.out ((Below.refl w9.heap.size w9).alloc (Nat.le_refl _) (.cells #[.slice ua70 un71 uc72, .slice ta73 tn74 tc75] 26)) B83.out.size
        have K90 : Hid ((w9.alloc (.cells #[.slice ua70 un71 uc72, .slice ta73 tn74 tc75] 26)).cell? ⟨w9.heap.size, 0, none⟩ = some (.slice ua70 un71 uc72) ∧ (w9.alloc (.cells #[.slice ua70 un71 uc72, .slice ta73 tn74 tc75] 26)).cell? ⟨w9.heap.size, 1, none⟩ = some (.slice ta73 tn74 tc75)) := by
          show _ ∧ _
          refine ⟨?_, ?_⟩ <;> rw [World.cell?_alloc_at _ _ _ _ rfl] <;> rfl
        have E91 : Hid ((w9.alloc (.cells #[.slice ua70 un71 uc72, .slice ta73 tn74 tc75] 26)).heap.size = w9.heap.size + 1) := by show _ = _; simp
        have cc92 : (w9.alloc (.cells #[.slice ua70 un71 uc72, .slice ta73 tn74 tc75] 26)).cell? ⟨w.heap.size, 0, none⟩ = some (.slice ua3 un3 uc3) := K88.out.1
        have cc93 : (w9.alloc (.cells #[.slice ua70 un71 uc72, .slice ta73 tn74 tc75] 26)).cell? ⟨w.heap.size, 1, none⟩ = some (.slice ta3 tn3 tc3) := K88.out.2
        have cc94 : (w9.alloc (.cells #[.slice ua70 un71 uc72, .slice ta73 tn74 tc75] 26)).cell? ⟨w9.heap.size, 0, none⟩ = some (.slice ua70 un71 uc72) := K90.out.1
        have cc95 : (w9.alloc (.cells #[.slice ua70 un71 uc72, .slice ta73 tn74 tc75] 26)).cell? ⟨w9.heap.size, 1, none⟩ = some (.slice ta73 tn74 tc75) := K90.out.2
        go_wp2_with fail
        refine (Lsa.impl_IsKept i0 u53 u61 (.slice ua70 un71 uc72) (.slice ta73 tn74 tc75) (Dls.dpl rs1) zs2 (ns3, ms3) _ (Dlk.dOwn_is O85.out) (Kep.iOwn_is O86.out) (Dls.eOwn_is O87.out)).mono ?_
        rintro e w10 ⟨rfl, hb10⟩
        clear cc92 cc93 cc94 cc95
        have Z96 : Hid (w9.heap.size + 1 ≤ w10.heap.size) := (by have hh := hb10.size; rw [E91.out] at hh; exact hh)
        have O97 : Hid (Dlk.DOwn w10 (w6.heap.size) (w7.heap.size) u53 (Dls.dpl rs1)) := Dlk.dOwn_below O85.out hb10
        have O98 : Hid (Kep.IOwn w10 (w7.heap.size) (w8.heap.size) u61 zs2) := Kep.iOwn_below O86.out hb10
        have O99 : Hid (Dls.EOwn w10 (w8.heap.size) (w9.heap.size) (.slice ua70 un71 uc72) (.slice ta73 tn74 tc75) (ns3, ms3)) := Dls.eOwn_below O87.out hb10
        have K100 : Hid (w10.cell? ⟨w.heap.size, 0, none⟩ = some (.slice ua3 un3 uc3) ∧ w10.cell? ⟨w.heap.size, 1, none⟩ = some (.slice ta3 tn3 tc3)) := ⟨(hb10.cell (p := ⟨w.heap.size, 0, none⟩) (Frame.cell_lt K88.out.1)).trans K88.out.1, (hb10.cell (p := ⟨w.heap.size, 1, none⟩) (Frame.cell_lt K88.out.2)).trans K88.out.2⟩
        have K101 : Hid (w10.cell? ⟨w9.heap.size, 0, none⟩ = some (.slice ua70 un71 uc72) ∧ w10.cell? ⟨w9.heap.size, 1, none⟩ = some (.slice ta73 tn74 tc75)) := ⟨(hb10.cell (p := ⟨w9.heap.size, 0, none⟩) (Frame.cell_lt K90.out.1)).trans K90.out.1, (hb10.cell (p := ⟨w9.heap.size, 1, none⟩) (Frame.cell_lt K90.out.2)).trans K90.out.2⟩
        have B102 : Hid (Below w.heap.size w w10) := Frame.next B89.out hb10 B89.out.size
        clear  hb10
        have cc104 : w10.cell? ⟨w.heap.size, 0, none⟩ = some (.slice ua3 un3 uc3) := K100.out.1
        have cc105 : w10.cell? ⟨w.heap.size, 1, none⟩ = some (.slice ta3 tn3 tc3) := K100.out.2
        have cc106 : w10.cell? ⟨w9.heap.size, 0, none⟩ = some (.slice ua70 un71 uc72) := K101.out.1
        have cc107 : w10.cell? ⟨w9.heap.size, 1, none⟩ = some (.slice ta73 tn74 tc75) := K101.out.2
        go_wp2_with fail
        refine (Dlk.d_to (.slice a1 n1 c1) (Dls.dpl rs1) _ (Dlk.dIs_below A1.out B102.out)).mono ?_
        rintro e w11 ⟨u103, rfl, ho, hb11⟩
        clear cc104 cc105 cc106 cc107
        have O108 : Hid (Dlk.DOwn w11 (w10.heap.size) (w11.heap.size) u103 (Dls.dpl rs1)) := ho
        have Z109 : Hid (w10.heap.size ≤ w11.heap.size) := hb11.size
        have O110 : Hid (Dlk.DOwn w11 (w6.heap.size) (w7.heap.size) u53 (Dls.dpl rs1)) := Dlk.dOwn_below O97.out hb11
        have O111 : Hid (Kep.IOwn w11 (w7.heap.size) (w8.heap.size) u61 zs2) := Kep.iOwn_below O98.out hb11
        have O112 : Hid (Dls.EOwn w11 (w8.heap.size) (w9.heap.size) (.slice ua70 un71 uc72) (.slice ta73 tn74 tc75) (ns3, ms3)) := Dls.eOwn_below O99.out hb11
        have K113 : Hid (w11.cell? ⟨w.heap.size, 0, none⟩ = some (.slice ua3 un3 uc3) ∧ w11.cell? ⟨w.heap.size, 1, none⟩ = some (.slice ta3 tn3 tc3)) := ⟨(hb11.cell (p := ⟨w.heap.size, 0, none⟩) (Frame.cell_lt K100.out.1)).trans K100.out.1, (hb11.cell (p := ⟨w.heap.size, 1, none⟩) (Frame.cell_lt K100.out.2)).trans K100.out.2⟩
        have K114 : Hid (w11.cell? ⟨w9.heap.size, 0, none⟩ = some (.slice ua70 un71 uc72) ∧ w11.cell? ⟨w9.heap.size, 1, none⟩ = some (.slice ta73 tn74 tc75)) := ⟨(hb11.cell (p := ⟨w9.heap.size, 0, none⟩) (Frame.cell_lt K101.out.1)).trans K101.out.1, (hb11.cell (p := ⟨w9.heap.size, 1, none⟩) (Frame.cell_lt K101.out.2)).trans K101.out.2⟩
        have B115 : Hid (Below w.heap.size w w11) := Frame.next B102.out hb11 B102.out.size
        clear ho hb11
        have cc117 : w11.cell? ⟨w.heap.size, 0, none⟩ = some (.slice ua3 un3 uc3) := K113.out.1
        have cc118 : w11.cell? ⟨w.heap.size, 1, none⟩ = some (.slice ta3 tn3 tc3) := K113.out.2
        have cc119 : w11.cell? ⟨w9.heap.size, 0, none⟩ = some (.slice ua70 un71 uc72) := K114.out.1
        have cc120 : w11.cell? ⟨w9.heap.size, 1, none⟩ = some (.slice ta73 tn74 tc75) := K114.out.2
        go_wp2_with fail
        refine (Dlk.d_eq u53 u103 (Dls.dpl rs1) (Dls.dpl rs1) _ (Dlk.dOwn_is O110.out) (Dlk.dOwn_is O108.out)).mono ?_
        rintro e w12 ⟨rfl, hb12⟩
        clear cc117 cc118 cc119 cc120
        rw [decide_eq_true (Eq.refl ((Dls.dpl rs1)))]
        have Z121 : Hid (w11.heap.size ≤ w12.heap.size) := hb12.size
        have O122 : Hid (Dlk.DOwn w12 (w6.heap.size) (w7.heap.size) u53 (Dls.dpl rs1)) := Dlk.dOwn_below O110.out hb12
        have O123 : Hid (Kep.IOwn w12 (w7.heap.size) (w8.heap.size) u61 zs2) := Kep.iOwn_below O111.out hb12
        have O124 : Hid (Dls.EOwn w12 (w8.heap.size) (w9.heap.size) (.slice ua70 un71 uc72) (.slice ta73 tn74 tc75) (ns3, ms3)) := Dls.eOwn_below O112.out hb12
        have O125 : Hid (Dlk.DOwn w12 (w10.heap.size) (w11.heap.size) u103 (Dls.dpl rs1)) := Dlk.dOwn_below O108.out hb12
        have K126 : Hid (w12.cell? ⟨w.heap.size, 0, none⟩ = some (.slice ua3 un3 uc3) ∧ w12.cell? ⟨w.heap.size, 1, none⟩ = some (.slice ta3 tn3 tc3)) := ⟨(hb12.cell (p := ⟨w.heap.size, 0, none⟩) (Frame.cell_lt K113.out.1)).trans K113.out.1, (hb12.cell (p := ⟨w.heap.size, 1, none⟩) (Frame.cell_lt K113.out.2)).trans K113.out.2⟩
        have K127 : Hid (w12.cell? ⟨w9.heap.size, 0, none⟩ = some (.slice ua70 un71 uc72) ∧ w12.cell? ⟨w9.heap.size, 1, none⟩ = some (.slice ta73 tn74 tc75)) := ⟨(hb12.cell (p := ⟨w9.heap.size, 0, none⟩) (Frame.cell_lt K114.out.1)).trans K114.out.1, (hb12.cell (p := ⟨w9.heap.size, 1, none⟩) (Frame.cell_lt K114.out.2)).trans K114.out.2⟩
        have B128 : Hid (Below w.heap.size w w12) := Frame.next B115.out hb12 B115.out.size
        clear hb12
        have cc130 : w12.cell? ⟨w.heap.size, 0, none⟩ = some (.slice ua3 un3 uc3) := K126.out.1
        have cc131 : w12.cell? ⟨w.heap.size, 1, none⟩ = some (.slice ta3 tn3 tc3) := K126.out.2
        have cc132 : w12.cell? ⟨w9.heap.size, 0, none⟩ = some (.slice ua70 un71 uc72) := K127.out.1
        have cc133 : w12.cell? ⟨w9.heap.size, 1, none⟩ = some (.slice ta73 tn74 tc75) := K127.out.2
        go_wp2_with fail
        refine (Kep.i_to (.slice a2 n2 c2) zs2 _ (Kep.iIs_below A2.out B128.out)).mono ?_
        rintro e w13 ⟨u129, rfl, ho, hb13⟩
        clear cc130 cc131 cc132 cc133
        have O134 : Hid (Kep.IOwn w13 (w12.heap.size) (w13.heap.size) u129 zs2) := ho
        have Z135 : Hid (w12.heap.size ≤ w13.heap.size) := hb13.size
        have O136 : Hid (Dlk.DOwn w13 (w6.heap.size) (w7.heap.size) u53 (Dls.dpl rs1)) := Dlk.dOwn_below O122.out hb13
        have O137 : Hid (Kep.IOwn w13 (w7.heap.size) (w8.heap.size) u61 zs2) := Kep.iOwn_below O123.out hb13
        have O138 : Hid (Dls.EOwn w13 (w8.heap.size) (w9.heap.size) (.slice ua70 un71 uc72) (.slice ta73 tn74 tc75) (ns3, ms3)) := Dls.eOwn_below O124.out hb13
        have K139 : Hid (w13.cell? ⟨w.heap.size, 0, none⟩ = some (.slice ua3 un3 uc3) ∧ w13.cell? ⟨w.heap.size, 1, none⟩ = some (.slice ta3 tn3 tc3)) := ⟨(hb13.cell (p := ⟨w.heap.size, 0, none⟩) (Frame.cell_lt K126.out.1)).trans K126.out.1, (hb13.cell (p := ⟨w.heap.size, 1, none⟩) (Frame.cell_lt K126.out.2)).trans K126.out.2⟩
        have K140 : Hid (w13.cell? ⟨w9.heap.size, 0, none⟩ = some (.slice ua70 un71 uc72) ∧ w13.cell? ⟨w9.heap.size, 1, none⟩ = some (.slice ta73 tn74 tc75)) := ⟨(hb13.cell (p := ⟨w9.heap.size, 0, none⟩) (Frame.cell_lt K127.out.1)).trans K127.out.1, (hb13.cell (p := ⟨w9.heap.size, 1, none⟩) (Frame.cell_lt K127.out.2)).trans K127.out.2⟩
        have B141 : Hid (Below w.heap.size w w13) := Frame.next B128.out hb13 B128.out.size
        clear ho hb13
        have cc143 : w13.cell? ⟨w.heap.size, 0, none⟩ = some (.slice ua3 un3 uc3) := K139.out.1
        have cc144 : w13.cell? ⟨w.heap.size, 1, none⟩ = some (.slice ta3 tn3 tc3) := K139.out.2
        have cc145 : w13.cell? ⟨w9.heap.size, 0, none⟩ = some (.slice ua70 un71 uc72) := K140.out.1
        have cc146 : w13.cell? ⟨w9.heap.size, 1, none⟩ = some (.slice ta73 tn74 tc75) := K140.out.2
        go_wp2_with fail
        refine (Kep.i_eq u61 u129 zs2 zs2 _ (Kep.iOwn_is O137.out) (Kep.iOwn_is O134.out)).mono ?_
        rintro e w14 ⟨rfl, hb14⟩
        clear cc143 cc144 cc145 cc146
        rw [decide_eq_true (Eq.refl (zs2))]
        have Z147 : Hid (w13.heap.size ≤ w14.heap.size) := hb14.size
        have O148 : Hid (Dlk.DOwn w14 (w6.heap.size) (w7.heap.size) u53 (Dls.dpl rs1)) := Dlk.dOwn_below O136.out hb14
        have O149 : Hid (Kep.IOwn w14 (w7.heap.size) (w8.heap.size) u61 zs2) := Kep.iOwn_below O137.out hb14
        have O150 : Hid (Dls.EOwn w14 (w8.heap.size) (w9.heap.size) (.slice ua70 un71 uc72) (.slice ta73 tn74 tc75) (ns3, ms3)) := Dls.eOwn_below O138.out hb14
        have O151 : Hid (Kep.IOwn w14 (w12.heap.size) (w13.heap.size) u129 zs2) := Kep.iOwn_below O134.out hb14
        have K152 : Hid (w14.cell? ⟨w.heap.size, 0, none⟩ = some (.slice ua3 un3 uc3) ∧ w14.cell? ⟨w.heap.size, 1, none⟩ = some (.slice ta3 tn3 tc3)) := ⟨(hb14.cell (p := ⟨w.heap.size, 0, none⟩) (Frame.cell_lt K139.out.1)).trans K139.out.1, (hb14.cell (p := ⟨w.heap.size, 1, none⟩) (Frame.cell_lt K139.out.2)).trans K139.out.2⟩
        have K153 : Hid (w14.cell? ⟨w9.heap.size, 0, none⟩ = some (.slice ua70 un71 uc72) ∧ w14.cell? ⟨w9.heap.size, 1, none⟩ = some (.slice ta73 tn74 tc75)) := ⟨(hb14.cell (p := ⟨w9.heap.size, 0, none⟩) (Frame.cell_lt K140.out.1)).trans K140.out.1, (hb14.cell (p := ⟨w9.heap.size, 1, none⟩) (Frame.cell_lt K140.out.2)).trans K140.out.2⟩
        have B154 : Hid (Below w.heap.size w w14) := Frame.next B141.out hb14 B141.out.size
        clear hb14
        go_wp2_with fail
        have O155 : Hid (Dlk.DOwn w14.drew (w6.heap.size) (w7.heap.size) u53 (Dls.dpl rs1)) := Dlk.dOwn_below O148.out ((Below.refl _ _).drew : Below w14.heap.size w14 w14.drew)
        have O156 : Hid (Kep.IOwn w14.drew (w7.heap.size) (w8.heap.size) u61 zs2) := Kep.iOwn_below O149.out ((Below.refl _ _).drew : Below w14.heap.size w14 w14.drew)
        have O157 : Hid (Dls.EOwn w14.drew (w8.heap.size) (w9.heap.size) (.slice ua70 un71 uc72) (.slice ta73 tn74 tc75) (ns3, ms3)) := Dls.eOwn_below O150.out ((Below.refl _ _).drew : Below w14.heap.size w14 w14.drew)
        have K158 : Hid ((w14.drew).cell? ⟨w.heap.size, 0, none⟩ = some (.slice ua3 un3 uc3) ∧ (w14.drew).cell? ⟨w.heap.size, 1, none⟩ = some (.slice ta3 tn3 tc3)) := ⟨(((Below.refl _ _).drew : Below w14.heap.size w14 w14.drew).cell (p := ⟨w.heap.size, 0, none⟩) (Frame.cell_lt K152.out.1)).trans K152.out.1, (((Below.refl _ _).drew : Below w14.heap.size w14 w14.drew).cell (p := ⟨w.heap.size, 1, none⟩) (Frame.cell_lt K152.out.2)).trans K152.out.2⟩
        have K159 : Hid ((w14.drew).cell? ⟨w9.heap.size, 0, none⟩ = some (.slice ua70 un71 uc72) ∧ (w14.drew).cell? ⟨w9.heap.size, 1, none⟩ = some (.slice ta73 tn74 tc75)) := ⟨(((Below.refl _ _).drew : Below w14.heap.size w14 w14.drew).cell (p := ⟨w9.heap.size, 0, none⟩) (Frame.cell_lt K153.out.1)).trans K153.out.1, (((Below.refl _ _).drew : Below w14.heap.size w14 w14.drew).cell (p := ⟨w9.heap.size, 1, none⟩) (Frame.cell_lt K153.out.2)).trans K153.out.2⟩
        have B160 : Hid (Below w.heap.size w w14.drew) := Frame.next B154.out ((Below.refl _ _).drew : Below w14.heap.size w14 w14.drew) B154.out.size
        have E161 : Hid (w14.drew.heap.size = w14.heap.size) := rfl
        have S162 : Hid ((w14.drew).cell? ⟨w.heap.size, 0, none⟩ = some (.slice ua3 un3 uc3) ∧ (w14.drew).cell? ⟨w.heap.size, 1, none⟩ = some (.slice ta3 tn3 tc3) ∧ (w14.drew).cell? ⟨w9.heap.size, 0, none⟩ = some (.slice ua70 un71 uc72) ∧ (w14.drew).cell? ⟨w9.heap.size, 1, none⟩ = some (.slice ta73 tn74 tc75)) := ⟨K158.out.1, K158.out.2, K159.out.1, K159.out.2⟩
        go_region_held3 (fun w' => (w').cell? ⟨w.heap.size, 0, none⟩ = some (.slice ua3 un3 uc3) ∧ (w').cell? ⟨w.heap.size, 1, none⟩ = some (.slice ta3 tn3 tc3) ∧ (w').cell? ⟨w9.heap.size, 0, none⟩ = some (.slice ua70 un71 uc72) ∧ (w').cell? ⟨w9.heap.size, 1, none⟩ = some (.slice ta73 tn74 tc75)) (first | exact S162.out | exact S177.out | exact S187.out) (first | (go_at_call 65; refine (Dls.e_to (.slice ua3 un3 uc3) (.slice ta3 tn3 tc3) (ns3, ms3) _ (Dls.eIs_below A3.out B160.out)).mono ?_; rintro e w15 ⟨ua163, un164, uc165, ta166, tn167, tc168, rfl, ho, hb15⟩; have O169 : Hid (Dls.EOwn w15 (w14.heap.size) (w15.heap.size) (.slice ua163 un164 uc165) (.slice ta166 tn167 tc168) (ns3, ms3)) := (by have hh := ho; rw [E161.out] at hh; exact hh); have Z170 : Hid (w14.heap.size ≤ w15.heap.size) := (by have hh := hb15.size; rw [E161.out] at hh; exact hh); have O171 : Hid (Dlk.DOwn w15 (w6.heap.size) (w7.heap.size) u53 (Dls.dpl rs1)) := Dlk.dOwn_below O155.out hb15; have O172 : Hid (Kep.IOwn w15 (w7.heap.size) (w8.heap.size) u61 zs2) := Kep.iOwn_below O156.out hb15; have O173 : Hid (Dls.EOwn w15 (w8.heap.size) (w9.heap.size) (.slice ua70 un71 uc72) (.slice ta73 tn74 tc75) (ns3, ms3)) := Dls.eOwn_below O157.out hb15; have K174 : Hid (w15.cell? ⟨w.heap.size, 0, none⟩ = some (.slice ua3 un3 uc3) ∧ w15.cell? ⟨w.heap.size, 1, none⟩ = some (.slice ta3 tn3 tc3)) := ⟨(hb15.cell (p := ⟨w.heap.size, 0, none⟩) (Frame.cell_lt K158.out.1)).trans K158.out.1, (hb15.cell (p := ⟨w.heap.size, 1, none⟩) (Frame.cell_lt K158.out.2)).trans K158.out.2⟩; have K175 : Hid (w15.cell? ⟨w9.heap.size, 0, none⟩ = some (.slice ua70 un71 uc72) ∧ w15.cell? ⟨w9.heap.size, 1, none⟩ = some (.slice ta73 tn74 tc75)) := ⟨(hb15.cell (p := ⟨w9.heap.size, 0, none⟩) (Frame.cell_lt K159.out.1)).trans K159.out.1, (hb15.cell (p := ⟨w9.heap.size, 1, none⟩) (Frame.cell_lt K159.out.2)).trans K159.out.2⟩; have B176 : Hid (Below w.heap.size w w15) := Frame.next B160.out hb15 B160.out.size; clear ho hb15; have S177 : Hid (w15.cell? ⟨w.heap.size, 0, none⟩ = some (.slice ua3 un3 uc3) ∧ w15.cell? ⟨w.heap.size, 1, none⟩ = some (.slice ta3 tn3 tc3) ∧ w15.cell? ⟨w9.heap.size, 0, none⟩ = some (.slice ua70 un71 uc72) ∧ w15.cell? ⟨w9.heap.size, 1, none⟩ = some (.slice ta73 tn74 tc75)) := ⟨K174.out.1, K174.out.2, K175.out.1, K175.out.2⟩) | (go_at_call 67; refine (Dls.e_eq (.slice ua70 un71 uc72) (.slice ta73 tn74 tc75) (.slice ua163 un164 uc165) (.slice ta166 tn167 tc168) (ns3, ms3) (ns3, ms3) _ (Dls.eOwn_is O173.out) (Dls.eOwn_is O169.out)).mono ?_; rintro e w16 ⟨rfl, hb16⟩; rw [decide_eq_true (Eq.refl ((ns3, ms3)))]; have Z179 : Hid (w15.heap.size ≤ w16.heap.size) := hb16.size; have O180 : Hid (Dlk.DOwn w16 (w6.heap.size) (w7.heap.size) u53 (Dls.dpl rs1)) := Dlk.dOwn_below O171.out hb16; have O181 : Hid (Kep.IOwn w16 (w7.heap.size) (w8.heap.size) u61 zs2) := Kep.iOwn_below O172.out hb16; have O182 : Hid (Dls.EOwn w16 (w8.heap.size) (w9.heap.size) (.slice ua70 un71 uc72) (.slice ta73 tn74 tc75) (ns3, ms3)) := Dls.eOwn_below O173.out hb16; have O183 : Hid (Dls.EOwn w16 (w14.heap.size) (w15.heap.size) (.slice ua163 un164 uc165) (.slice ta166 tn167 tc168) (ns3, ms3)) := Dls.eOwn_below O169.out hb16; have K184 : Hid (w16.cell? ⟨w.heap.size, 0, none⟩ = some (.slice ua3 un3 uc3) ∧ w16.cell? ⟨w.heap.size, 1, none⟩ = some (.slice ta3 tn3 tc3)) := ⟨(hb16.cell (p := ⟨w.heap.size, 0, none⟩) (Frame.cell_lt K174.out.1)).trans K174.out.1, (hb16.cell (p := ⟨w.heap.size, 1, none⟩) (Frame.cell_lt K174.out.2)).trans K174.out.2⟩; have K185 : Hid (w16.cell? ⟨w9.heap.size, 0, none⟩ = some (.slice ua70 un71 uc72) ∧ w16.cell? ⟨w9.heap.size, 1, none⟩ = some (.slice ta73 tn74 tc75)) := ⟨(hb16.cell (p := ⟨w9.heap.size, 0, none⟩) (Frame.cell_lt K175.out.1)).trans K175.out.1, (hb16.cell (p := ⟨w9.heap.size, 1, none⟩) (Frame.cell_lt K175.out.2)).trans K175.out.2⟩; have B186 : Hid (Below w.heap.size w w16) := Frame.next B176.out hb16 B176.out.size; clear hb16; have S187 : Hid (w16.cell? ⟨w.heap.size, 0, none⟩ = some (.slice ua3 un3 uc3) ∧ w16.cell? ⟨w.heap.size, 1, none⟩ = some (.slice ta3 tn3 tc3) ∧ w16.cell? ⟨w9.heap.size, 0, none⟩ = some (.slice ua70 un71 uc72) ∧ w16.cell? ⟨w9.heap.size, 1, none⟩ = some (.slice ta73 tn74 tc75)) := ⟨K184.out.1, K184.out.2, K185.out.1, K185.out.2⟩))
        go_wp2
        go_ret
        exact ⟨rfl, B186.out⟩

set_option maxRecDepth 100000 in
theorem contract (H : Type) (enc : TypeId × Value → H) (W : World) (base : Nat) (args : Array Value) (ds gs : List (DataW H)) (before : List MemPlace)
    (hval0 : ∀ (j : Nat) t v, Try.f16.params[j]? = some t → args[j]? = some v → Value.okWide Try.prog W .any base t v)
    (hW : DataW.Whole enc Try.prog Try.f16.params.toList Rows.fnExactIsKeptSpec.vars false W args.toList ds gs before) :
    Calls Try.prog 16 args W fun e W' => ∃ v, e = .returned v ∧ Rows.fnExactIsKeptSpec.post enc Try.prog Try.f16 false true false false W args v W' := by
  refine Frame.law_calls (tb := 4) laidOut (by kernel_rfl) (by kernel_rfl) (by kernel_rfl) Try.underlying4 hW (fun ds gs h1 h2 => ?_) ?_
  · rw [Try.params16] at h1
    match ds, gs, h1, h2 with
    | [_, _, _, _], [], _, _ => rfl
  · obtain ⟨p, q, hA0, _, _, _, _⟩ := hW
    have hval : ∀ (j : Nat) t v, Try.f16.params[j]? = some t → args[j]? = some v → Value.okWide Try.prog W .any base t v := hval0
    have hA : DataW.TrodAll enc Try.prog W 0 (fun _ => true) true Try.f16.params.toList args.toList ds p := hA0
    rw [Try.params16] at hA hval
    obtain ⟨v0, vs0, d0, ds0, p0, q0, hargs, rfl, rfl, h0, r0⟩ := trodAll_cons hA
    obtain ⟨v1, vs1, d1, ds1, p1, q1, rfl, rfl, rfl, h1, r1⟩ := trodAll_cons r0
    obtain ⟨v2, vs2, d2, ds2, p2, q2, rfl, rfl, rfl, h2, r2⟩ := trodAll_cons r1
    obtain ⟨v3, vs3, d3, ds3, p3, q3, rfl, rfl, rfl, h3, r3⟩ := trodAll_cons r2
    obtain ⟨rfl, rfl, rfl⟩ := trodAll_nil r3
    obtain rfl : args = #[v0, v1, v2, v3] := by cases args; simp_all
    obtain ⟨a0, rfl, rfl, rfl, w0⟩ := open_int Try.underlying3 (hval 0 3 v0 rfl rfl) h0
    obtain ⟨a1, len1, cap1, rfl⟩ := okWide_slice Try.underlying73 (hval 1 73 v1 rfl rfl)
    obtain ⟨z1, w1⟩ := Opd.isG_of h1
    obtain ⟨a2, len2, cap2, rfl⟩ := okWide_slice Try.underlying24 (hval 2 24 v2 rfl rfl)
    obtain ⟨z2, w2⟩ := Frame.isRow_of Try.underlying24 Try.underlying3 (by kernel_rfl) h2
    obtain ⟨ua3, un3, uc3, ns3, ta3, tn3, tc3, ms3, rfl, wu3, wt3⟩ := Opd.dep_of (hval 3 80 v3 rfl rfl) h3
    exact walk a0 a1 len1 cap1 z1 a2 len2 cap2 z2 ua3 un3 uc3 ns3 ta3 tn3 tc3 ms3 W w0 w1 w2 wu3 wt3

set_option maxRecDepth 100000 in
theorem lifted (os : Os) (started : os.Started) (H : Type) (enc : TypeId × Value → H) :
    ReturnsInHanded {} Try.checked os 16 .any (Rows.fnExactIsKeptSpec.pre6 enc Try.prog Try.f16 Rows.fnExactIsKeptRow.domain false) (Rows.fnExactIsKeptSpec.post enc Try.prog Try.f16 false true false false) := by
  refine returnsInHanded_of_change (C := Try.checked) own started (by kernel_rfl) Try.func16
    (ChangeSpec.witness6 (enc := enc) (C := Try.checked) false ⟨#[], #[.int .i64 0, .slice none 0 0, .slice none 0 0, .agg #[.slice none 0 0, .slice none 0 0]], []⟩ 8 (by kernel_rfl) (by kernel_rfl) (by kernel_rfl) (by kernel_rfl)) ?_
  intro W base args ds gs before hval hW _ _
  exact contract H enc W base args ds gs before hval hW

theorem fnamed : Try.prog.funcNamed Rows.fnExactIsKeptRow.func = some 16 := by kernel_rfl

theorem joined : joinedFacts Try.prog 16 Try.f16 Rows.fnExactIsKeptSpec Rows.fnExactIsKeptRow = true := by kernel_rfl

/-- The statement. -/
theorem proved : Rows.FnExactIsKeptSaid :=
  OpenClaim.holds_of_wide 16 Try.f16 rfl rfl rfl rfl rfl rfl rfl ⟨rfl, rfl, rfl, rfl, rfl⟩ rfl rfl rfl rfl rfl fnamed Try.func16 joined
    (of_decide_eq_true (by kernel_rfl)) (by unfold Func.isWrapper; first | (rw [if_pos (by decide +kernel)]; kernel_rfl) | (rw [if_neg (by decide +kernel)]; exact ⟨rfl, rfl⟩))
    (fun os started H enc _ => lifted os started H enc)
#print axioms proved

end Go.Proofs.Ytfekaladfifgoaa.fnExactIsKept
