/-
  Proved: at every argument the law FnExactGoodLocks returns true, and its arguments read afterwards as they did.
-/
import Derived.Test.YtlcfdfcfmmhdgaaFrame
import Derived.Test.YtlcfdfcfmmhdgaaLkn
import Derived.Test.YtlcfdfcfmmhdgaaOLocks
namespace Go.Proofs.Ytlcfdfcfmmhdgaa.fnExactGoodLocks
open Go.ChangeShapes Go.WideShapes Go.ChangeAt Go.RowKit

theorem own : ownKnob Try.prog.godebug = none := by kernel_rfl
theorem laidOut : laidOutB Try.prog = true := by kernel_rfl

open Go.Proofs.Ytlcfdfcfmmhdgaa.Kep

set_option maxRecDepth 100000 in
set_option maxHeartbeats 4000000 in
theorem walk (a0_0 : Option Addr) (n0_0 c0_0 : Nat) (r0_0 : List Lls.LV) (a1_0 : Option Addr) (n1_0 c1_0 : Nat) (r1_0 : List Int) (a2_0 : Option Addr) (n2_0 c2_0 : Nat) (r2_0 : List Int) (w : World) (f0_0 : Lls.IsLs w a0_0 n0_0 c0_0 r0_0) (f1_0 : Frame.IsRow .i64 w a1_0 n1_0 c1_0 r1_0) (f2_0 : Frame.IsRow .i64 w a2_0 n2_0 c2_0 r2_0) :
    Calls Try.prog 5 #[.agg #[.slice a0_0 n0_0 c0_0, .slice a1_0 n1_0 c1_0, .slice a2_0 n2_0 c2_0]] w fun e w' => e = .returned (.bool true) ∧ Below w.heap.size w w' := by
  have F0_0 : Hid (Lls.IsLs w a0_0 n0_0 c0_0 r0_0) := f0_0
  have F1_0 : Hid (Frame.IsRow .i64 w a1_0 n1_0 c1_0 r1_0) := f1_0
  have F2_0 : Hid (Frame.IsRow .i64 w a2_0 n2_0 c2_0 r2_0) := f2_0
  clear f0_0 f1_0 f2_0
  have B0 : Hid (Below w.heap.size w w) := Below.refl _ _
  have B1 : Hid (Below w.heap.size w (w.alloc (.cells #[.slice a0_0 n0_0 c0_0, .slice a1_0 n1_0 c1_0, .slice a2_0 n2_0 c2_0] 46))) := B0.out.alloc (by simp; try omega) _
  have K2 : Hid ((w.alloc (.cells #[.slice a0_0 n0_0 c0_0, .slice a1_0 n1_0 c1_0, .slice a2_0 n2_0 c2_0] 46)).cell? ⟨w.heap.size, 0, none⟩ = some (.slice a0_0 n0_0 c0_0) ∧ (w.alloc (.cells #[.slice a0_0 n0_0 c0_0, .slice a1_0 n1_0 c1_0, .slice a2_0 n2_0 c2_0] 46)).cell? ⟨w.heap.size, 1, none⟩ = some (.slice a1_0 n1_0 c1_0) ∧ (w.alloc (.cells #[.slice a0_0 n0_0 c0_0, .slice a1_0 n1_0 c1_0, .slice a2_0 n2_0 c2_0] 46)).cell? ⟨w.heap.size, 2, none⟩ = some (.slice a2_0 n2_0 c2_0)) := by
    show _ ∧ _ ∧ _
    refine ⟨?_, ?_, ?_⟩ <;> rw [World.cell?_alloc_at _ _ _ _ (by simp)] <;> rfl
  have E3 : Hid ((w.alloc (.cells #[.slice a0_0 n0_0 c0_0, .slice a1_0 n1_0 c1_0, .slice a2_0 n2_0 c2_0] 46)).heap.size = w.heap.size + 1) := by show _ = _; simp
  go_enter Try.func5, Try.ntmps5
  have cc4 : (w.alloc (.cells #[.slice a0_0 n0_0 c0_0, .slice a1_0 n1_0 c1_0, .slice a2_0 n2_0 c2_0] 46)).cell? ⟨w.heap.size, 0, none⟩ = some (.slice a0_0 n0_0 c0_0) := K2.out.1
  have cc5 : (w.alloc (.cells #[.slice a0_0 n0_0 c0_0, .slice a1_0 n1_0 c1_0, .slice a2_0 n2_0 c2_0] 46)).cell? ⟨w.heap.size, 1, none⟩ = some (.slice a1_0 n1_0 c1_0) := K2.out.2.1
  have cc6 : (w.alloc (.cells #[.slice a0_0 n0_0 c0_0, .slice a1_0 n1_0 c1_0, .slice a2_0 n2_0 c2_0] 46)).cell? ⟨w.heap.size, 2, none⟩ = some (.slice a2_0 n2_0 c2_0) := K2.out.2.2
  go_wp2_with fail
  refine (SLocks.s_sz a0_0 n0_0 c0_0 r0_0 a1_0 n1_0 c1_0 a2_0 n2_0 c2_0  1048576 _ (F0_0.out.below B1.out) (Nat.le_trans F1_0.out.fits F1_0.out.max) (Nat.le_trans F2_0.out.fits F2_0.out.max) (by omega) (by omega)).mono ?_
  rintro e w1 ⟨rfl, hb1⟩
  clear cc4 cc5 cc6
  have Z7 : Hid (w.heap.size + 1 ≤ w1.heap.size) := (by have hh := hb1.size; rw [E3.out] at hh; exact hh)
  have K8 : Hid (w1.cell? ⟨w.heap.size, 0, none⟩ = some (.slice a0_0 n0_0 c0_0) ∧ w1.cell? ⟨w.heap.size, 1, none⟩ = some (.slice a1_0 n1_0 c1_0) ∧ w1.cell? ⟨w.heap.size, 2, none⟩ = some (.slice a2_0 n2_0 c2_0)) := ⟨(hb1.cell (p := ⟨w.heap.size, 0, none⟩) (Frame.cell_lt K2.out.1)).trans K2.out.1, (hb1.cell (p := ⟨w.heap.size, 1, none⟩) (Frame.cell_lt K2.out.2.1)).trans K2.out.2.1, (hb1.cell (p := ⟨w.heap.size, 2, none⟩) (Frame.cell_lt K2.out.2.2)).trans K2.out.2.2⟩
  have B9 : Hid (Below w.heap.size w w1) := Frame.next B1.out hb1 B1.out.size
  clear hb1
  by_cases hL1 : Lls.left 1048576 (((Lls.totalL r0_0 + (n1_0 : Int)) + (n2_0 : Int))) < 0
  · go_wp2
    go_ret
    exact ⟨rfl, B9.out⟩
  · have hq0_0 : 0 ≤ Lls.totalL r0_0 := Krl.total_nonneg _
    have hq1_0 : 0 ≤ (n1_0 : Int) := by omega
    have hq2_0 : 0 ≤ (n2_0 : Int) := by omega
    have ht0 : Lls.totalL r0_0 ≤ 1048576 ∧ (n1_0 : Int) ≤ 1048576 ∧ (n2_0 : Int) ≤ 1048576 := by unfold Lls.left at hL1; split at hL1 <;> (first | exact absurd hL1 (by omega) | omega)
    have A0 : Hid (SLocks.SIs w (.slice a0_0 n0_0 c0_0) (.slice a1_0 n1_0 c1_0) (.slice a2_0 n2_0 c2_0) (Lls.lplain r0_0, r1_0, r2_0)) := ⟨⟨_, _, _, _, rfl, F0_0.out, rfl, by omega⟩, ⟨_, _, _, rfl, F1_0.out, by omega⟩, ⟨_, _, _, rfl, F2_0.out, by omega⟩⟩
    have hB1 : Lls.left 1048576 (((Lls.totalL r0_0 + (n1_0 : Int)) + (n2_0 : Int))) ≤ 1048576 := Krl.left_le _ _ (by omega) (by omega)
    clear ht0 hq0_0 hq1_0 hq2_0
    generalize hG1 : Lls.left 1048576 (((Lls.totalL r0_0 + (n1_0 : Int)) + (n2_0 : Int))) = L10 at hL1 hB1 ⊢
    clear hG1
    have cc20 : w1.cell? ⟨w.heap.size, 0, none⟩ = some (.slice a0_0 n0_0 c0_0) := K8.out.1
    have cc21 : w1.cell? ⟨w.heap.size, 1, none⟩ = some (.slice a1_0 n1_0 c1_0) := K8.out.2.1
    have cc22 : w1.cell? ⟨w.heap.size, 2, none⟩ = some (.slice a2_0 n2_0 c2_0) := K8.out.2.2
    go_wp2_with fail
    refine (SLocks.s_to9 (.slice a0_0 n0_0 c0_0) (.slice a1_0 n1_0 c1_0) (.slice a2_0 n2_0 c2_0) (Lls.lplain r0_0, r1_0, r2_0) _ (SLocks.sIs_below A0.out B9.out)).mono ?_
    rintro e w2 ⟨ua11, un12, uc13, ua14, un15, uc16, ua17, un18, uc19, rfl, ho, hb2⟩
    clear cc20 cc21 cc22
    have O23 : Hid (SLocks.SOwn w2 (w1.heap.size) (w2.heap.size) (.slice ua11 un12 uc13) (.slice ua14 un15 uc16) (.slice ua17 un18 uc19) (Lls.lplain r0_0, r1_0, r2_0)) := ho
    have Z24 : Hid (w1.heap.size ≤ w2.heap.size) := hb2.size
    have K25 : Hid (w2.cell? ⟨w.heap.size, 0, none⟩ = some (.slice a0_0 n0_0 c0_0) ∧ w2.cell? ⟨w.heap.size, 1, none⟩ = some (.slice a1_0 n1_0 c1_0) ∧ w2.cell? ⟨w.heap.size, 2, none⟩ = some (.slice a2_0 n2_0 c2_0)) := ⟨(hb2.cell (p := ⟨w.heap.size, 0, none⟩) (Frame.cell_lt K8.out.1)).trans K8.out.1, (hb2.cell (p := ⟨w.heap.size, 1, none⟩) (Frame.cell_lt K8.out.2.1)).trans K8.out.2.1, (hb2.cell (p := ⟨w.heap.size, 2, none⟩) (Frame.cell_lt K8.out.2.2)).trans K8.out.2.2⟩
    have B26 : Hid (Below w.heap.size w w2) := Frame.next B9.out hb2 B9.out.size
    clear ho hb2
    have cc28 : w2.cell? ⟨w.heap.size, 0, none⟩ = some (.slice a0_0 n0_0 c0_0) := K25.out.1
    have cc29 : w2.cell? ⟨w.heap.size, 1, none⟩ = some (.slice a1_0 n1_0 c1_0) := K25.out.2.1
    have cc30 : w2.cell? ⟨w.heap.size, 2, none⟩ = some (.slice a2_0 n2_0 c2_0) := K25.out.2.2
    go_wp2_with fail
    refine (Lkn.spec_GoodLocks (.slice ua11 un12 uc13) (.slice ua14 un15 uc16) (.slice ua17 un18 uc19) (Lls.lplain r0_0, r1_0, r2_0) _ (SLocks.sOwn_is O23.out)).mono ?_
    rintro e w3 ⟨rfl, hb3⟩
    clear cc28 cc29 cc30
    have Z31 : Hid (w2.heap.size ≤ w3.heap.size) := hb3.size
    have K32 : Hid (w3.cell? ⟨w.heap.size, 0, none⟩ = some (.slice a0_0 n0_0 c0_0) ∧ w3.cell? ⟨w.heap.size, 1, none⟩ = some (.slice a1_0 n1_0 c1_0) ∧ w3.cell? ⟨w.heap.size, 2, none⟩ = some (.slice a2_0 n2_0 c2_0)) := ⟨(hb3.cell (p := ⟨w.heap.size, 0, none⟩) (Frame.cell_lt K25.out.1)).trans K25.out.1, (hb3.cell (p := ⟨w.heap.size, 1, none⟩) (Frame.cell_lt K25.out.2.1)).trans K25.out.2.1, (hb3.cell (p := ⟨w.heap.size, 2, none⟩) (Frame.cell_lt K25.out.2.2)).trans K25.out.2.2⟩
    have B33 : Hid (Below w.heap.size w w3) := Frame.next B26.out hb3 B26.out.size
    clear  hb3
    have cc43 : w3.cell? ⟨w.heap.size, 0, none⟩ = some (.slice a0_0 n0_0 c0_0) := K32.out.1
    have cc44 : w3.cell? ⟨w.heap.size, 1, none⟩ = some (.slice a1_0 n1_0 c1_0) := K32.out.2.1
    have cc45 : w3.cell? ⟨w.heap.size, 2, none⟩ = some (.slice a2_0 n2_0 c2_0) := K32.out.2.2
    go_wp2_with fail
    refine (SLocks.s_to9 (.slice a0_0 n0_0 c0_0) (.slice a1_0 n1_0 c1_0) (.slice a2_0 n2_0 c2_0) (Lls.lplain r0_0, r1_0, r2_0) _ (SLocks.sIs_below A0.out B33.out)).mono ?_
    rintro e w4 ⟨ua34, un35, uc36, ua37, un38, uc39, ua40, un41, uc42, rfl, ho, hb4⟩
    clear cc43 cc44 cc45
    have O46 : Hid (SLocks.SOwn w4 (w3.heap.size) (w4.heap.size) (.slice ua34 un35 uc36) (.slice ua37 un38 uc39) (.slice ua40 un41 uc42) (Lls.lplain r0_0, r1_0, r2_0)) := ho
    have Z47 : Hid (w3.heap.size ≤ w4.heap.size) := hb4.size
    have K48 : Hid (w4.cell? ⟨w.heap.size, 0, none⟩ = some (.slice a0_0 n0_0 c0_0) ∧ w4.cell? ⟨w.heap.size, 1, none⟩ = some (.slice a1_0 n1_0 c1_0) ∧ w4.cell? ⟨w.heap.size, 2, none⟩ = some (.slice a2_0 n2_0 c2_0)) := ⟨(hb4.cell (p := ⟨w.heap.size, 0, none⟩) (Frame.cell_lt K32.out.1)).trans K32.out.1, (hb4.cell (p := ⟨w.heap.size, 1, none⟩) (Frame.cell_lt K32.out.2.1)).trans K32.out.2.1, (hb4.cell (p := ⟨w.heap.size, 2, none⟩) (Frame.cell_lt K32.out.2.2)).trans K32.out.2.2⟩
    have B49 : Hid (Below w.heap.size w w4) := Frame.next B33.out hb4 B33.out.size
    clear ho hb4
    have O51 : Hid (SLocks.SOwn (w4.alloc (.cells #[.slice ua34 un35 uc36, .slice ua37 un38 uc39, .slice ua40 un41 uc42] 26)) (w3.heap.size) (w4.heap.size) (.slice ua34 un35 uc36) (.slice ua37 un38 uc39) (.slice ua40 un41 uc42) (Lls.lplain r0_0, r1_0, r2_0)) := SLocks.sOwn_below O46.out ((Below.refl w4.heap.size w4).alloc (Nat.le_refl _) (.cells #[.slice ua34 un35 uc36, .slice ua37 un38 uc39, .slice ua40 un41 uc42] 26))
    have K52 : Hid ((w4.alloc (.cells #[.slice ua34 un35 uc36, .slice ua37 un38 uc39, .slice ua40 un41 uc42] 26)).cell? ⟨w.heap.size, 0, none⟩ = some (.slice a0_0 n0_0 c0_0) ∧ (w4.alloc (.cells #[.slice ua34 un35 uc36, .slice ua37 un38 uc39, .slice ua40 un41 uc42] 26)).cell? ⟨w.heap.size, 1, none⟩ = some (.slice a1_0 n1_0 c1_0) ∧ (w4.alloc (.cells #[.slice ua34 un35 uc36, .slice ua37 un38 uc39, .slice ua40 un41 uc42] 26)).cell? ⟨w.heap.size, 2, none⟩ = some (.slice a2_0 n2_0 c2_0)) := ⟨(((Below.refl w4.heap.size w4).alloc (Nat.le_refl _) (.cells #[.slice ua34 un35 uc36, .slice ua37 un38 uc39, .slice ua40 un41 uc42] 26)).cell (p := ⟨w.heap.size, 0, none⟩) (Frame.cell_lt K48.out.1)).trans K48.out.1, (((Below.refl w4.heap.size w4).alloc (Nat.le_refl _) (.cells #[.slice ua34 un35 uc36, .slice ua37 un38 uc39, .slice ua40 un41 uc42] 26)).cell (p := ⟨w.heap.size, 1, none⟩) (Frame.cell_lt K48.out.2.1)).trans K48.out.2.1, (((Below.refl w4.heap.size w4).alloc (Nat.le_refl _) (.cells #[.slice ua34 un35 uc36, .slice ua37 un38 uc39, .slice ua40 un41 uc42] 26)).cell (p := ⟨w.heap.size, 2, none⟩) (Frame.cell_lt K48.out.2.2)).trans K48.out.2.2⟩
    have B53 : Hid (Below w.heap.size w (w4.alloc (.cells #[.slice ua34 un35 uc36, .slice ua37 un38 uc39, .slice ua40 un41 uc42] 26))) := Frame.next B49.out ((Below.refl w4.heap.size w4).alloc (Nat.le_refl _) (.cells #[.slice ua34 un35 uc36, .slice ua37 un38 uc39, .slice ua40 un41 uc42] 26)) B49.out.size
    have K54 : Hid ((w4.alloc (.cells #[.slice ua34 un35 uc36, .slice ua37 un38 uc39, .slice ua40 un41 uc42] 26)).cell? ⟨w4.heap.size, 0, none⟩ = some (.slice ua34 un35 uc36) ∧ (w4.alloc (.cells #[.slice ua34 un35 uc36, .slice ua37 un38 uc39, .slice ua40 un41 uc42] 26)).cell? ⟨w4.heap.size, 1, none⟩ = some (.slice ua37 un38 uc39) ∧ (w4.alloc (.cells #[.slice ua34 un35 uc36, .slice ua37 un38 uc39, .slice ua40 un41 uc42] 26)).cell? ⟨w4.heap.size, 2, none⟩ = some (.slice ua40 un41 uc42)) := by
      show _ ∧ _ ∧ _
      refine ⟨?_, ?_, ?_⟩ <;> rw [World.cell?_alloc_at _ _ _ _ rfl] <;> rfl
    have E55 : Hid ((w4.alloc (.cells #[.slice ua34 un35 uc36, .slice ua37 un38 uc39, .slice ua40 un41 uc42] 26)).heap.size = w4.heap.size + 1) := by show _ = _; simp
    have cc56 : (w4.alloc (.cells #[.slice ua34 un35 uc36, .slice ua37 un38 uc39, .slice ua40 un41 uc42] 26)).cell? ⟨w.heap.size, 0, none⟩ = some (.slice a0_0 n0_0 c0_0) := K52.out.1
    have cc57 : (w4.alloc (.cells #[.slice ua34 un35 uc36, .slice ua37 un38 uc39, .slice ua40 un41 uc42] 26)).cell? ⟨w.heap.size, 1, none⟩ = some (.slice a1_0 n1_0 c1_0) := K52.out.2.1
    have cc58 : (w4.alloc (.cells #[.slice ua34 un35 uc36, .slice ua37 un38 uc39, .slice ua40 un41 uc42] 26)).cell? ⟨w.heap.size, 2, none⟩ = some (.slice a2_0 n2_0 c2_0) := K52.out.2.2
    have cc59 : (w4.alloc (.cells #[.slice ua34 un35 uc36, .slice ua37 un38 uc39, .slice ua40 un41 uc42] 26)).cell? ⟨w4.heap.size, 0, none⟩ = some (.slice ua34 un35 uc36) := K54.out.1
    have cc60 : (w4.alloc (.cells #[.slice ua34 un35 uc36, .slice ua37 un38 uc39, .slice ua40 un41 uc42] 26)).cell? ⟨w4.heap.size, 1, none⟩ = some (.slice ua37 un38 uc39) := K54.out.2.1
    have cc61 : (w4.alloc (.cells #[.slice ua34 un35 uc36, .slice ua37 un38 uc39, .slice ua40 un41 uc42] 26)).cell? ⟨w4.heap.size, 2, none⟩ = some (.slice ua40 un41 uc42) := K54.out.2.2
    go_wp2_with fail
    refine (Lkn.impl_GoodLocks (.slice ua34 un35 uc36) (.slice ua37 un38 uc39) (.slice ua40 un41 uc42) (Lls.lplain r0_0, r1_0, r2_0) _ (SLocks.sOwn_is O51.out)).mono ?_
    rintro e w5 ⟨rfl, hb5⟩
    clear cc56 cc57 cc58 cc59 cc60 cc61
    have Z62 : Hid (w4.heap.size + 1 ≤ w5.heap.size) := (by have hh := hb5.size; rw [E55.out] at hh; exact hh)
    have O63 : Hid (SLocks.SOwn w5 (w3.heap.size) (w4.heap.size) (.slice ua34 un35 uc36) (.slice ua37 un38 uc39) (.slice ua40 un41 uc42) (Lls.lplain r0_0, r1_0, r2_0)) := SLocks.sOwn_below O51.out hb5
    have K64 : Hid (w5.cell? ⟨w.heap.size, 0, none⟩ = some (.slice a0_0 n0_0 c0_0) ∧ w5.cell? ⟨w.heap.size, 1, none⟩ = some (.slice a1_0 n1_0 c1_0) ∧ w5.cell? ⟨w.heap.size, 2, none⟩ = some (.slice a2_0 n2_0 c2_0)) := ⟨(hb5.cell (p := ⟨w.heap.size, 0, none⟩) (Frame.cell_lt K52.out.1)).trans K52.out.1, (hb5.cell (p := ⟨w.heap.size, 1, none⟩) (Frame.cell_lt K52.out.2.1)).trans K52.out.2.1, (hb5.cell (p := ⟨w.heap.size, 2, none⟩) (Frame.cell_lt K52.out.2.2)).trans K52.out.2.2⟩
    have K65 : Hid (w5.cell? ⟨w4.heap.size, 0, none⟩ = some (.slice ua34 un35 uc36) ∧ w5.cell? ⟨w4.heap.size, 1, none⟩ = some (.slice ua37 un38 uc39) ∧ w5.cell? ⟨w4.heap.size, 2, none⟩ = some (.slice ua40 un41 uc42)) := ⟨(hb5.cell (p := ⟨w4.heap.size, 0, none⟩) (Frame.cell_lt K54.out.1)).trans K54.out.1, (hb5.cell (p := ⟨w4.heap.size, 1, none⟩) (Frame.cell_lt K54.out.2.1)).trans K54.out.2.1, (hb5.cell (p := ⟨w4.heap.size, 2, none⟩) (Frame.cell_lt K54.out.2.2)).trans K54.out.2.2⟩
    have B66 : Hid (Below w.heap.size w w5) := Frame.next B53.out hb5 B53.out.size
    clear  hb5
    go_wp2_with fail
    have O67 : Hid (SLocks.SOwn w5.drew (w3.heap.size) (w4.heap.size) (.slice ua34 un35 uc36) (.slice ua37 un38 uc39) (.slice ua40 un41 uc42) (Lls.lplain r0_0, r1_0, r2_0)) := SLocks.sOwn_below O63.out ((Below.refl _ _).drew : Below w5.heap.size w5 w5.drew)
    have K68 : Hid ((w5.drew).cell? ⟨w.heap.size, 0, none⟩ = some (.slice a0_0 n0_0 c0_0) ∧ (w5.drew).cell? ⟨w.heap.size, 1, none⟩ = some (.slice a1_0 n1_0 c1_0) ∧ (w5.drew).cell? ⟨w.heap.size, 2, none⟩ = some (.slice a2_0 n2_0 c2_0)) := ⟨(((Below.refl _ _).drew : Below w5.heap.size w5 w5.drew).cell (p := ⟨w.heap.size, 0, none⟩) (Frame.cell_lt K64.out.1)).trans K64.out.1, (((Below.refl _ _).drew : Below w5.heap.size w5 w5.drew).cell (p := ⟨w.heap.size, 1, none⟩) (Frame.cell_lt K64.out.2.1)).trans K64.out.2.1, (((Below.refl _ _).drew : Below w5.heap.size w5 w5.drew).cell (p := ⟨w.heap.size, 2, none⟩) (Frame.cell_lt K64.out.2.2)).trans K64.out.2.2⟩
    have K69 : Hid ((w5.drew).cell? ⟨w4.heap.size, 0, none⟩ = some (.slice ua34 un35 uc36) ∧ (w5.drew).cell? ⟨w4.heap.size, 1, none⟩ = some (.slice ua37 un38 uc39) ∧ (w5.drew).cell? ⟨w4.heap.size, 2, none⟩ = some (.slice ua40 un41 uc42)) := ⟨(((Below.refl _ _).drew : Below w5.heap.size w5 w5.drew).cell (p := ⟨w4.heap.size, 0, none⟩) (Frame.cell_lt K65.out.1)).trans K65.out.1, (((Below.refl _ _).drew : Below w5.heap.size w5 w5.drew).cell (p := ⟨w4.heap.size, 1, none⟩) (Frame.cell_lt K65.out.2.1)).trans K65.out.2.1, (((Below.refl _ _).drew : Below w5.heap.size w5 w5.drew).cell (p := ⟨w4.heap.size, 2, none⟩) (Frame.cell_lt K65.out.2.2)).trans K65.out.2.2⟩
    have B70 : Hid (Below w.heap.size w w5.drew) := Frame.next B66.out ((Below.refl _ _).drew : Below w5.heap.size w5 w5.drew) B66.out.size
    have E71 : Hid (w5.drew.heap.size = w5.heap.size) := rfl
    have S72 : Hid ((w5.drew).cell? ⟨w.heap.size, 0, none⟩ = some (.slice a0_0 n0_0 c0_0) ∧ (w5.drew).cell? ⟨w.heap.size, 1, none⟩ = some (.slice a1_0 n1_0 c1_0) ∧ (w5.drew).cell? ⟨w.heap.size, 2, none⟩ = some (.slice a2_0 n2_0 c2_0) ∧ (w5.drew).cell? ⟨w4.heap.size, 0, none⟩ = some (.slice ua34 un35 uc36) ∧ (w5.drew).cell? ⟨w4.heap.size, 1, none⟩ = some (.slice ua37 un38 uc39) ∧ (w5.drew).cell? ⟨w4.heap.size, 2, none⟩ = some (.slice ua40 un41 uc42)) := ⟨K68.out.1, K68.out.2.1, K68.out.2.2, K69.out.1, K69.out.2.1, K69.out.2.2⟩
    go_region_held3 (fun w' => (w').cell? ⟨w.heap.size, 0, none⟩ = some (.slice a0_0 n0_0 c0_0) ∧ (w').cell? ⟨w.heap.size, 1, none⟩ = some (.slice a1_0 n1_0 c1_0) ∧ (w').cell? ⟨w.heap.size, 2, none⟩ = some (.slice a2_0 n2_0 c2_0) ∧ (w').cell? ⟨w4.heap.size, 0, none⟩ = some (.slice ua34 un35 uc36) ∧ (w').cell? ⟨w4.heap.size, 1, none⟩ = some (.slice ua37 un38 uc39) ∧ (w').cell? ⟨w4.heap.size, 2, none⟩ = some (.slice ua40 un41 uc42)) (first | exact S72.out | exact S88.out | exact S96.out) (first | (go_at_call_has 30 a0_0; refine (SLocks.s_to9 (.slice a0_0 n0_0 c0_0) (.slice a1_0 n1_0 c1_0) (.slice a2_0 n2_0 c2_0) (Lls.lplain r0_0, r1_0, r2_0) _ (SLocks.sIs_below A0.out B70.out)).mono ?_; rintro e w6 ⟨ua73, un74, uc75, ua76, un77, uc78, ua79, un80, uc81, rfl, ho, hb6⟩; have O82 : Hid (SLocks.SOwn w6 (w5.heap.size) (w6.heap.size) (.slice ua73 un74 uc75) (.slice ua76 un77 uc78) (.slice ua79 un80 uc81) (Lls.lplain r0_0, r1_0, r2_0)) := (by have hh := ho; rw [E71.out] at hh; exact hh); have Z83 : Hid (w5.heap.size ≤ w6.heap.size) := (by have hh := hb6.size; rw [E71.out] at hh; exact hh); have O84 : Hid (SLocks.SOwn w6 (w3.heap.size) (w4.heap.size) (.slice ua34 un35 uc36) (.slice ua37 un38 uc39) (.slice ua40 un41 uc42) (Lls.lplain r0_0, r1_0, r2_0)) := SLocks.sOwn_below O67.out hb6; have K85 : Hid (w6.cell? ⟨w.heap.size, 0, none⟩ = some (.slice a0_0 n0_0 c0_0) ∧ w6.cell? ⟨w.heap.size, 1, none⟩ = some (.slice a1_0 n1_0 c1_0) ∧ w6.cell? ⟨w.heap.size, 2, none⟩ = some (.slice a2_0 n2_0 c2_0)) := ⟨(hb6.cell (p := ⟨w.heap.size, 0, none⟩) (Frame.cell_lt K68.out.1)).trans K68.out.1, (hb6.cell (p := ⟨w.heap.size, 1, none⟩) (Frame.cell_lt K68.out.2.1)).trans K68.out.2.1, (hb6.cell (p := ⟨w.heap.size, 2, none⟩) (Frame.cell_lt K68.out.2.2)).trans K68.out.2.2⟩; have K86 : Hid (w6.cell? ⟨w4.heap.size, 0, none⟩ = some (.slice ua34 un35 uc36) ∧ w6.cell? ⟨w4.heap.size, 1, none⟩ = some (.slice ua37 un38 uc39) ∧ w6.cell? ⟨w4.heap.size, 2, none⟩ = some (.slice ua40 un41 uc42)) := ⟨(hb6.cell (p := ⟨w4.heap.size, 0, none⟩) (Frame.cell_lt K69.out.1)).trans K69.out.1, (hb6.cell (p := ⟨w4.heap.size, 1, none⟩) (Frame.cell_lt K69.out.2.1)).trans K69.out.2.1, (hb6.cell (p := ⟨w4.heap.size, 2, none⟩) (Frame.cell_lt K69.out.2.2)).trans K69.out.2.2⟩; have B87 : Hid (Below w.heap.size w w6) := Frame.next B70.out hb6 B70.out.size; clear ho hb6; have S88 : Hid (w6.cell? ⟨w.heap.size, 0, none⟩ = some (.slice a0_0 n0_0 c0_0) ∧ w6.cell? ⟨w.heap.size, 1, none⟩ = some (.slice a1_0 n1_0 c1_0) ∧ w6.cell? ⟨w.heap.size, 2, none⟩ = some (.slice a2_0 n2_0 c2_0) ∧ w6.cell? ⟨w4.heap.size, 0, none⟩ = some (.slice ua34 un35 uc36) ∧ w6.cell? ⟨w4.heap.size, 1, none⟩ = some (.slice ua37 un38 uc39) ∧ w6.cell? ⟨w4.heap.size, 2, none⟩ = some (.slice ua40 un41 uc42)) := ⟨K85.out.1, K85.out.2.1, K85.out.2.2, K86.out.1, K86.out.2.1, K86.out.2.2⟩) | (go_at_call 25; refine (SLocks.s_eq (.slice ua34 un35 uc36) (.slice ua37 un38 uc39) (.slice ua40 un41 uc42) (.slice ua73 un74 uc75) (.slice ua76 un77 uc78) (.slice ua79 un80 uc81) (Lls.lplain r0_0, r1_0, r2_0) (Lls.lplain r0_0, r1_0, r2_0) _ (SLocks.sOwn_is O84.out) (SLocks.sOwn_is O82.out)).mono ?_; rintro e w7 ⟨rfl, hb7⟩; rw [decide_eq_true (Eq.refl ((Lls.lplain r0_0, r1_0, r2_0)))]; have Z90 : Hid (w6.heap.size ≤ w7.heap.size) := hb7.size; have O91 : Hid (SLocks.SOwn w7 (w3.heap.size) (w4.heap.size) (.slice ua34 un35 uc36) (.slice ua37 un38 uc39) (.slice ua40 un41 uc42) (Lls.lplain r0_0, r1_0, r2_0)) := SLocks.sOwn_below O84.out hb7; have O92 : Hid (SLocks.SOwn w7 (w5.heap.size) (w6.heap.size) (.slice ua73 un74 uc75) (.slice ua76 un77 uc78) (.slice ua79 un80 uc81) (Lls.lplain r0_0, r1_0, r2_0)) := SLocks.sOwn_below O82.out hb7; have K93 : Hid (w7.cell? ⟨w.heap.size, 0, none⟩ = some (.slice a0_0 n0_0 c0_0) ∧ w7.cell? ⟨w.heap.size, 1, none⟩ = some (.slice a1_0 n1_0 c1_0) ∧ w7.cell? ⟨w.heap.size, 2, none⟩ = some (.slice a2_0 n2_0 c2_0)) := ⟨(hb7.cell (p := ⟨w.heap.size, 0, none⟩) (Frame.cell_lt K85.out.1)).trans K85.out.1, (hb7.cell (p := ⟨w.heap.size, 1, none⟩) (Frame.cell_lt K85.out.2.1)).trans K85.out.2.1, (hb7.cell (p := ⟨w.heap.size, 2, none⟩) (Frame.cell_lt K85.out.2.2)).trans K85.out.2.2⟩; have K94 : Hid (w7.cell? ⟨w4.heap.size, 0, none⟩ = some (.slice ua34 un35 uc36) ∧ w7.cell? ⟨w4.heap.size, 1, none⟩ = some (.slice ua37 un38 uc39) ∧ w7.cell? ⟨w4.heap.size, 2, none⟩ = some (.slice ua40 un41 uc42)) := ⟨(hb7.cell (p := ⟨w4.heap.size, 0, none⟩) (Frame.cell_lt K86.out.1)).trans K86.out.1, (hb7.cell (p := ⟨w4.heap.size, 1, none⟩) (Frame.cell_lt K86.out.2.1)).trans K86.out.2.1, (hb7.cell (p := ⟨w4.heap.size, 2, none⟩) (Frame.cell_lt K86.out.2.2)).trans K86.out.2.2⟩; have B95 : Hid (Below w.heap.size w w7) := Frame.next B87.out hb7 B87.out.size; clear hb7; have S96 : Hid (w7.cell? ⟨w.heap.size, 0, none⟩ = some (.slice a0_0 n0_0 c0_0) ∧ w7.cell? ⟨w.heap.size, 1, none⟩ = some (.slice a1_0 n1_0 c1_0) ∧ w7.cell? ⟨w.heap.size, 2, none⟩ = some (.slice a2_0 n2_0 c2_0) ∧ w7.cell? ⟨w4.heap.size, 0, none⟩ = some (.slice ua34 un35 uc36) ∧ w7.cell? ⟨w4.heap.size, 1, none⟩ = some (.slice ua37 un38 uc39) ∧ w7.cell? ⟨w4.heap.size, 2, none⟩ = some (.slice ua40 un41 uc42)) := ⟨K93.out.1, K93.out.2.1, K93.out.2.2, K94.out.1, K94.out.2.1, K94.out.2.2⟩))
    go_wp2
    go_ret
    exact ⟨rfl, B95.out⟩

set_option maxRecDepth 100000 in
theorem contract (H : Type) (enc : TypeId × Value → H) (W : World) (base : Nat) (args : Array Value) (ds gs : List (DataW H)) (before : List MemPlace)
    (hval0 : ∀ (j : Nat) t v, Try.f5.params[j]? = some t → args[j]? = some v → Value.okWide Try.prog W .any base t v)
    (hW : DataW.Whole enc Try.prog Try.f5.params.toList Rows.fnExactGoodLocksSpec.vars false W args.toList ds gs before) :
    Calls Try.prog 5 args W fun e W' => ∃ v, e = .returned v ∧ Rows.fnExactGoodLocksSpec.post enc Try.prog Try.f5 false true false false W args v W' := by
  refine Frame.law_calls (tb := 4) laidOut (by kernel_rfl) (by kernel_rfl) (by kernel_rfl) Try.underlying4 hW (fun ds gs h1 h2 => ?_) ?_
  · rw [Try.params5] at h1
    match ds, gs, h1, h2 with
    | [_], [], _, _ => rfl
  · obtain ⟨p, q, hA0, _, _, _, _⟩ := hW
    have hval : ∀ (j : Nat) t v, Try.f5.params[j]? = some t → args[j]? = some v → Value.okWide Try.prog W .any base t v := hval0
    have hA : DataW.TrodAll enc Try.prog W 0 (fun _ => true) true Try.f5.params.toList args.toList ds p := hA0
    rw [Try.params5] at hA hval
    obtain ⟨v0, vs0, d0, ds0, p0, q0, hargs, rfl, rfl, h0, r0⟩ := trodAll_cons hA
    obtain ⟨rfl, rfl, rfl⟩ := trodAll_nil r0
    obtain rfl : args = #[v0] := by cases args; simp_all
    obtain ⟨a0_0, n0_0, c0_0, r0_0, a1_0, n1_0, c1_0, r1_0, a2_0, n2_0, c2_0, r2_0, rfl, f0_0, f1_0, f2_0⟩ := OLocks.locks_of (hval 0 46 v0 rfl rfl) h0
    exact walk a0_0 n0_0 c0_0 r0_0 a1_0 n1_0 c1_0 r1_0 a2_0 n2_0 c2_0 r2_0 W f0_0 f1_0 f2_0

set_option maxRecDepth 100000 in
theorem lifted (os : Os) (started : os.Started) (H : Type) (enc : TypeId × Value → H) :
    ReturnsInHanded {} Try.checked os 5 .any (Rows.fnExactGoodLocksSpec.pre6 enc Try.prog Try.f5 Rows.fnExactGoodLocksRow.domain false) (Rows.fnExactGoodLocksSpec.post enc Try.prog Try.f5 false true false false) := by
  refine returnsInHanded_of_change (C := Try.checked) own started (by kernel_rfl) Try.func5
    (ChangeSpec.witness6 (enc := enc) (C := Try.checked) false ⟨#[], #[.agg #[.slice none 0 0, .slice none 0 0, .slice none 0 0]], []⟩ 8 (by kernel_rfl) (by kernel_rfl) (by kernel_rfl) (by kernel_rfl)) ?_
  intro W base args ds gs before hval hW _ _
  exact contract H enc W base args ds gs before hval hW

theorem fnamed : Try.prog.funcNamed Rows.fnExactGoodLocksRow.func = some 5 := by kernel_rfl

theorem joined : joinedFacts Try.prog 5 Try.f5 Rows.fnExactGoodLocksSpec Rows.fnExactGoodLocksRow = true := by kernel_rfl

/-- The statement. -/
theorem proved : Rows.FnExactGoodLocksSaid :=
  OpenClaim.holds_of_wide 5 Try.f5 rfl rfl rfl rfl rfl rfl rfl ⟨rfl, rfl, rfl, rfl, rfl⟩ rfl rfl rfl rfl rfl fnamed Try.func5 joined
    (of_decide_eq_true (by kernel_rfl)) (by unfold Func.isWrapper; first | (rw [if_pos (by decide +kernel)]; kernel_rfl) | (rw [if_neg (by decide +kernel)]; exact ⟨rfl, rfl⟩))
    (fun os started H enc _ => lifted os started H enc)
#print axioms proved

end Go.Proofs.Ytlcfdfcfmmhdgaa.fnExactGoodLocks
