/-
  Proved: at every argument the law FnExactHeldBy returns true, and its arguments read afterwards as they did.
-/
import Derived.Test.YtlcfdfcfmmhdgaaFrame
import Derived.Test.YtlcfdfcfmmhdgaaLkn
import Derived.Test.YtlcfdfcfmmhdgaaOLocks
namespace Go.Proofs.Ytlcfdfcfmmhdgaa.fnExactHeldBy
open Go.ChangeShapes Go.WideShapes Go.ChangeAt Go.RowKit

theorem own : ownKnob Try.prog.godebug = none := by kernel_rfl
theorem laidOut : laidOutB Try.prog = true := by kernel_rfl

open Go.Proofs.Ytlcfdfcfmmhdgaa.Kep

set_option maxRecDepth 100000 in
set_option maxHeartbeats 4000000 in
theorem walk (a0_0 : Option Addr) (n0_0 c0_0 : Nat) (r0_0 : List Lls.LV) (a1_0 : Option Addr) (n1_0 c1_0 : Nat) (r1_0 : List Int) (a2_0 : Option Addr) (n2_0 c2_0 : Nat) (r2_0 : List Int) (i1 : Int) (w : World) (f0_0 : Lls.IsLs w a0_0 n0_0 c0_0 r0_0) (f1_0 : Frame.IsRow .i64 w a1_0 n1_0 c1_0 r1_0) (f2_0 : Frame.IsRow .i64 w a2_0 n2_0 c2_0 r2_0) (hf1 : (Lit.int .i64 i1).wf = true) :
    Calls Try.prog 8 #[.agg #[.slice a0_0 n0_0 c0_0, .slice a1_0 n1_0 c1_0, .slice a2_0 n2_0 c2_0], .int .i64 i1] w fun e w' => e = .returned (.bool true) ∧ Below w.heap.size w w' := by
  have F0_0 : Hid (Lls.IsLs w a0_0 n0_0 c0_0 r0_0) := f0_0
  have F1_0 : Hid (Frame.IsRow .i64 w a1_0 n1_0 c1_0 r1_0) := f1_0
  have F2_0 : Hid (Frame.IsRow .i64 w a2_0 n2_0 c2_0 r2_0) := f2_0
  clear f0_0 f1_0 f2_0
  have HWF1 : Hid ((Lit.int .i64 i1).wf = true) := hf1
  clear hf1
  have B0 : Hid (Below w.heap.size w w) := Below.refl _ _
  have B1 : Hid (Below w.heap.size w (w.alloc (.cells #[.slice a0_0 n0_0 c0_0, .slice a1_0 n1_0 c1_0, .slice a2_0 n2_0 c2_0] 46))) := B0.out.alloc (by simp; try omega) _
  have K2 : Hid ((w.alloc (.cells #[.slice a0_0 n0_0 c0_0, .slice a1_0 n1_0 c1_0, .slice a2_0 n2_0 c2_0] 46)).cell? ⟨w.heap.size, 0, none⟩ = some (.slice a0_0 n0_0 c0_0) ∧ (w.alloc (.cells #[.slice a0_0 n0_0 c0_0, .slice a1_0 n1_0 c1_0, .slice a2_0 n2_0 c2_0] 46)).cell? ⟨w.heap.size, 1, none⟩ = some (.slice a1_0 n1_0 c1_0) ∧ (w.alloc (.cells #[.slice a0_0 n0_0 c0_0, .slice a1_0 n1_0 c1_0, .slice a2_0 n2_0 c2_0] 46)).cell? ⟨w.heap.size, 2, none⟩ = some (.slice a2_0 n2_0 c2_0)) := by
    show _ ∧ _ ∧ _
    refine ⟨?_, ?_, ?_⟩ <;> rw [World.cell?_alloc_at _ _ _ _ (by simp)] <;> rfl
  have E3 : Hid ((w.alloc (.cells #[.slice a0_0 n0_0 c0_0, .slice a1_0 n1_0 c1_0, .slice a2_0 n2_0 c2_0] 46)).heap.size = w.heap.size + 1) := by show _ = _; simp
  go_enter Try.func8, Try.ntmps8
  have cc4 : (w.alloc (.cells #[.slice a0_0 n0_0 c0_0, .slice a1_0 n1_0 c1_0, .slice a2_0 n2_0 c2_0] 46)).cell? ⟨w.heap.size, 0, none⟩ = some (.slice a0_0 n0_0 c0_0) := K2.out.1
  have cc5 : (w.alloc (.cells #[.slice a0_0 n0_0 c0_0, .slice a1_0 n1_0 c1_0, .slice a2_0 n2_0 c2_0] 46)).cell? ⟨w.heap.size, 1, none⟩ = some (.slice a1_0 n1_0 c1_0) := K2.out.2.1
  have cc6 : (w.alloc (.cells #[.slice a0_0 n0_0 c0_0, .slice a1_0 n1_0 c1_0, .slice a2_0 n2_0 c2_0] 46)).cell? ⟨w.heap.size, 2, none⟩ = some (.slice a2_0 n2_0 c2_0) := K2.out.2.2
  go_wp2_with fail
  refine (SLocks.s_sz a0_0 n0_0 c0_0 r0_0 a1_0 n1_0 c1_0 a2_0 n2_0 c2_0  1048576 _ (F0_0.out.below B1.out) (Nat.le_trans F1_0.out.fits F1_0.out.max) (Nat.le_trans F2_0.out.fits F2_0.out.max) (by omega) (by omega)).mono ?_
  rintro e w1 ⟨rfl, hb1⟩
  clear cc4 cc5 cc6
  have Z7 : Hid (w.heap.size + 1 ≤ w1.heap.size) := (by have hh := hb1.size; rw [E3.out] at hh; exact hh)
  have K8 : Hid (w1.cell? ⟨w.heap.size, 0, none⟩ = some (.slice a0_0 n0_0 c0_0) ∧ w1.cell? ⟨w.heap.size, 1, none⟩ = some (.slice a1_0 n1_0 c1_0) ∧ w1.cell? ⟨w.heap.size, 2, none⟩ = some (.slice a2_0 n2_0 c2_0)) := ⟨(hb1.cell (p := ⟨w.heap.size, 0, none⟩) (Frame.cell_lt K2.out.1)).trans K2.out.1, (hb1.cell (p := ⟨w.heap.size, 1, none⟩) (Frame.cell_lt K2.out.2.1)).trans K2.out.2.1, (hb1.cell (p := ⟨w.heap.size, 2, none⟩) (Frame.cell_lt K2.out.2.2)).trans K2.out.2.2⟩
  have B9 : Hid (Below w.heap.size w w1) := Frame.next B1.out hb1 B1.out.size
  clear hb1
  by_cases hL1 : Lls.left 1048576 (((Lls.totalL r0_0 + (n1_0 : Int)) + (n2_0 : Int))) < 0
  · go_wp2
    go_ret
    exact ⟨rfl, B9.out⟩
  · have hq0_0 : 0 ≤ Lls.totalL r0_0 := Krl.total_nonneg _
    have hq1_0 : 0 ≤ (n1_0 : Int) := by omega
    have hq2_0 : 0 ≤ (n2_0 : Int) := by omega
    have ht0 : Lls.totalL r0_0 ≤ 1048576 ∧ (n1_0 : Int) ≤ 1048576 ∧ (n2_0 : Int) ≤ 1048576 := by unfold Lls.left at hL1; split at hL1 <;> (first | exact absurd hL1 (by omega) | omega)
    have A0 : Hid (SLocks.SIs w (.slice a0_0 n0_0 c0_0) (.slice a1_0 n1_0 c1_0) (.slice a2_0 n2_0 c2_0) (Lls.lplain r0_0, r1_0, r2_0)) := ⟨⟨_, _, _, _, rfl, F0_0.out, rfl, by omega⟩, ⟨_, _, _, rfl, F1_0.out, by omega⟩, ⟨_, _, _, rfl, F2_0.out, by omega⟩⟩
    have hB1 : Lls.left 1048576 (((Lls.totalL r0_0 + (n1_0 : Int)) + (n2_0 : Int))) ≤ 1048576 := Krl.left_le _ _ (by omega) (by omega)
    clear ht0 hq0_0 hq1_0 hq2_0
    generalize hG1 : Lls.left 1048576 (((Lls.totalL r0_0 + (n1_0 : Int)) + (n2_0 : Int))) = L10 at hL1 hB1 ⊢
    clear hG1
    have cc20 : w1.cell? ⟨w.heap.size, 0, none⟩ = some (.slice a0_0 n0_0 c0_0) := K8.out.1
    have cc21 : w1.cell? ⟨w.heap.size, 1, none⟩ = some (.slice a1_0 n1_0 c1_0) := K8.out.2.1
    have cc22 : w1.cell? ⟨w.heap.size, 2, none⟩ = some (.slice a2_0 n2_0 c2_0) := K8.out.2.2
    go_wp2_with fail
    refine (SLocks.s_to9 (.slice a0_0 n0_0 c0_0) (.slice a1_0 n1_0 c1_0) (.slice a2_0 n2_0 c2_0) (Lls.lplain r0_0, r1_0, r2_0) _ (SLocks.sIs_below A0.out B9.out)).mono ?_
    rintro e w2 ⟨ua11, un12, uc13, ua14, un15, uc16, ua17, un18, uc19, rfl, ho, hb2⟩
    clear cc20 cc21 cc22
    have O23 : Hid (SLocks.SOwn w2 (w1.heap.size) (w2.heap.size) (.slice ua11 un12 uc13) (.slice ua14 un15 uc16) (.slice ua17 un18 uc19) (Lls.lplain r0_0, r1_0, r2_0)) := ho
    have Z24 : Hid (w1.heap.size ≤ w2.heap.size) := hb2.size
    have K25 : Hid (w2.cell? ⟨w.heap.size, 0, none⟩ = some (.slice a0_0 n0_0 c0_0) ∧ w2.cell? ⟨w.heap.size, 1, none⟩ = some (.slice a1_0 n1_0 c1_0) ∧ w2.cell? ⟨w.heap.size, 2, none⟩ = some (.slice a2_0 n2_0 c2_0)) := ⟨(hb2.cell (p := ⟨w.heap.size, 0, none⟩) (Frame.cell_lt K8.out.1)).trans K8.out.1, (hb2.cell (p := ⟨w.heap.size, 1, none⟩) (Frame.cell_lt K8.out.2.1)).trans K8.out.2.1, (hb2.cell (p := ⟨w.heap.size, 2, none⟩) (Frame.cell_lt K8.out.2.2)).trans K8.out.2.2⟩
    have B26 : Hid (Below w.heap.size w w2) := Frame.next B9.out hb2 B9.out.size
    clear ho hb2
    have cc29 : w2.cell? ⟨w.heap.size, 0, none⟩ = some (.slice a0_0 n0_0 c0_0) := K25.out.1
    have cc30 : w2.cell? ⟨w.heap.size, 1, none⟩ = some (.slice a1_0 n1_0 c1_0) := K25.out.2.1
    have cc31 : w2.cell? ⟨w.heap.size, 2, none⟩ = some (.slice a2_0 n2_0 c2_0) := K25.out.2.2
    go_wp2_with fail
    refine (Lkc.spec_HeldBy (.slice ua11 un12 uc13) (.slice ua14 un15 uc16) (.slice ua17 un18 uc19) (Lls.lplain r0_0, r1_0, r2_0) i1 _ (SLocks.sOwn_is O23.out)).mono ?_
    rintro e w3 ⟨u28, rfl, ho0, hb3⟩
    clear cc29 cc30 cc31
    have O32 : Hid (Kep.IOwn w3 (w2.heap.size) (w3.heap.size) u28 (Lkp.heldV (Lls.lplain r0_0, r1_0, r2_0) i1)) := ho0
    have Z33 : Hid (w2.heap.size ≤ w3.heap.size) := hb3.size
    have K34 : Hid (w3.cell? ⟨w.heap.size, 0, none⟩ = some (.slice a0_0 n0_0 c0_0) ∧ w3.cell? ⟨w.heap.size, 1, none⟩ = some (.slice a1_0 n1_0 c1_0) ∧ w3.cell? ⟨w.heap.size, 2, none⟩ = some (.slice a2_0 n2_0 c2_0)) := ⟨(hb3.cell (p := ⟨w.heap.size, 0, none⟩) (Frame.cell_lt K25.out.1)).trans K25.out.1, (hb3.cell (p := ⟨w.heap.size, 1, none⟩) (Frame.cell_lt K25.out.2.1)).trans K25.out.2.1, (hb3.cell (p := ⟨w.heap.size, 2, none⟩) (Frame.cell_lt K25.out.2.2)).trans K25.out.2.2⟩
    have B35 : Hid (Below w.heap.size w w3) := Frame.next B26.out hb3 B26.out.size
    clear ho0 hb3
    have cc45 : w3.cell? ⟨w.heap.size, 0, none⟩ = some (.slice a0_0 n0_0 c0_0) := K34.out.1
    have cc46 : w3.cell? ⟨w.heap.size, 1, none⟩ = some (.slice a1_0 n1_0 c1_0) := K34.out.2.1
    have cc47 : w3.cell? ⟨w.heap.size, 2, none⟩ = some (.slice a2_0 n2_0 c2_0) := K34.out.2.2
    go_wp2_with fail
    refine (SLocks.s_to9 (.slice a0_0 n0_0 c0_0) (.slice a1_0 n1_0 c1_0) (.slice a2_0 n2_0 c2_0) (Lls.lplain r0_0, r1_0, r2_0) _ (SLocks.sIs_below A0.out B35.out)).mono ?_
    rintro e w4 ⟨ua36, un37, uc38, ua39, un40, uc41, ua42, un43, uc44, rfl, ho, hb4⟩
    clear cc45 cc46 cc47
    have O48 : Hid (SLocks.SOwn w4 (w3.heap.size) (w4.heap.size) (.slice ua36 un37 uc38) (.slice ua39 un40 uc41) (.slice ua42 un43 uc44) (Lls.lplain r0_0, r1_0, r2_0)) := ho
    have Z49 : Hid (w3.heap.size ≤ w4.heap.size) := hb4.size
    have O50 : Hid (Kep.IOwn w4 (w2.heap.size) (w3.heap.size) u28 (Lkp.heldV (Lls.lplain r0_0, r1_0, r2_0) i1)) := Kep.iOwn_below O32.out hb4
    have K51 : Hid (w4.cell? ⟨w.heap.size, 0, none⟩ = some (.slice a0_0 n0_0 c0_0) ∧ w4.cell? ⟨w.heap.size, 1, none⟩ = some (.slice a1_0 n1_0 c1_0) ∧ w4.cell? ⟨w.heap.size, 2, none⟩ = some (.slice a2_0 n2_0 c2_0)) := ⟨(hb4.cell (p := ⟨w.heap.size, 0, none⟩) (Frame.cell_lt K34.out.1)).trans K34.out.1, (hb4.cell (p := ⟨w.heap.size, 1, none⟩) (Frame.cell_lt K34.out.2.1)).trans K34.out.2.1, (hb4.cell (p := ⟨w.heap.size, 2, none⟩) (Frame.cell_lt K34.out.2.2)).trans K34.out.2.2⟩
    have B52 : Hid (Below w.heap.size w w4) := Frame.next B35.out hb4 B35.out.size
    clear ho hb4
    have O54 : Hid (Kep.IOwn (w4.alloc (.cells #[.slice ua36 un37 uc38, .slice ua39 un40 uc41, .slice ua42 un43 uc44] 26)) (w2.heap.size) (w3.heap.size) u28 (Lkp.heldV (Lls.lplain r0_0, r1_0, r2_0) i1)) := Kep.iOwn_below O50.out ((Below.refl w4.heap.size w4).alloc (Nat.le_refl _) (.cells #[.slice ua36 un37 uc38, .slice ua39 un40 uc41, .slice ua42 un43 uc44] 26))
    have O55 : Hid (SLocks.SOwn (w4.alloc (.cells #[.slice ua36 un37 uc38, .slice ua39 un40 uc41, .slice ua42 un43 uc44] 26)) (w3.heap.size) (w4.heap.size) (.slice ua36 un37 uc38) (.slice ua39 un40 uc41) (.slice ua42 un43 uc44) (Lls.lplain r0_0, r1_0, r2_0)) := SLocks.sOwn_below O48.out ((Below.refl w4.heap.size w4).alloc (Nat.le_refl _) (.cells #[.slice ua36 un37 uc38, .slice ua39 un40 uc41, .slice ua42 un43 uc44] 26))
    have K56 : Hid ((w4.alloc (.cells #[.slice ua36 un37 uc38, .slice ua39 un40 uc41, .slice ua42 un43 uc44] 26)).cell? ⟨w.heap.size, 0, none⟩ = some (.slice a0_0 n0_0 c0_0) ∧ (w4.alloc (.cells #[.slice ua36 un37 uc38, .slice ua39 un40 uc41, .slice ua42 un43 uc44] 26)).cell? ⟨w.heap.size, 1, none⟩ = some (.slice a1_0 n1_0 c1_0) ∧ (w4.alloc (.cells #[.slice ua36 un37 uc38, .slice ua39 un40 uc41, .slice ua42 un43 uc44] 26)).cell? ⟨w.heap.size, 2, none⟩ = some (.slice a2_0 n2_0 c2_0)) := ⟨(((Below.refl w4.heap.size w4).alloc (Nat.le_refl _) (.cells #[.slice ua36 un37 uc38, .slice ua39 un40 uc41, .slice ua42 un43 uc44] 26)).cell (p := ⟨w.heap.size, 0, none⟩) (Frame.cell_lt K51.out.1)).trans K51.out.1, (((Below.refl w4.heap.size w4).alloc (Nat.le_refl _) (.cells #[.slice ua36 un37 uc38, .slice ua39 un40 uc41, .slice ua42 un43 uc44] 26)).cell (p := ⟨w.heap.size, 1, none⟩) (Frame.cell_lt K51.out.2.1)).trans K51.out.2.1, (((Below.refl w4.heap.size w4).alloc (Nat.le_refl _) (.cells #[.slice ua36 un37 uc38, .slice ua39 un40 uc41, .slice ua42 un43 uc44] 26)).cell (p := ⟨w.heap.size, 2, none⟩) (Frame.cell_lt K51.out.2.2)).trans K51.out.2.2⟩
    have B57 : Hid (Below w.heap.size w (w4.alloc (.cells #[.slice ua36 un37 uc38, .slice ua39 un40 uc41, .slice ua42 un43 uc44] 26))) := Frame.next B52.out ((Below.refl w4.heap.size w4).alloc (Nat.le_refl _) (.cells #[.slice ua36 un37 uc38, .slice ua39 un40 uc41, .slice ua42 un43 uc44] 26)) B52.out.size
    have K58 : Hid ((w4.alloc (.cells #[.slice ua36 un37 uc38, .slice ua39 un40 uc41, .slice ua42 un43 uc44] 26)).cell? ⟨w4.heap.size, 0, none⟩ = some (.slice ua36 un37 uc38) ∧ (w4.alloc (.cells #[.slice ua36 un37 uc38, .slice ua39 un40 uc41, .slice ua42 un43 uc44] 26)).cell? ⟨w4.heap.size, 1, none⟩ = some (.slice ua39 un40 uc41) ∧ (w4.alloc (.cells #[.slice ua36 un37 uc38, .slice ua39 un40 uc41, .slice ua42 un43 uc44] 26)).cell? ⟨w4.heap.size, 2, none⟩ = some (.slice ua42 un43 uc44)) := by
      show _ ∧ _ ∧ _
      refine ⟨?_, ?_, ?_⟩ <;> rw [World.cell?_alloc_at _ _ _ _ rfl] <;> rfl
    have E59 : Hid ((w4.alloc (.cells #[.slice ua36 un37 uc38, .slice ua39 un40 uc41, .slice ua42 un43 uc44] 26)).heap.size = w4.heap.size + 1) := by show _ = _; simp
    have cc61 : (w4.alloc (.cells #[.slice ua36 un37 uc38, .slice ua39 un40 uc41, .slice ua42 un43 uc44] 26)).cell? ⟨w.heap.size, 0, none⟩ = some (.slice a0_0 n0_0 c0_0) := K56.out.1
    have cc62 : (w4.alloc (.cells #[.slice ua36 un37 uc38, .slice ua39 un40 uc41, .slice ua42 un43 uc44] 26)).cell? ⟨w.heap.size, 1, none⟩ = some (.slice a1_0 n1_0 c1_0) := K56.out.2.1
    have cc63 : (w4.alloc (.cells #[.slice ua36 un37 uc38, .slice ua39 un40 uc41, .slice ua42 un43 uc44] 26)).cell? ⟨w.heap.size, 2, none⟩ = some (.slice a2_0 n2_0 c2_0) := K56.out.2.2
    have cc64 : (w4.alloc (.cells #[.slice ua36 un37 uc38, .slice ua39 un40 uc41, .slice ua42 un43 uc44] 26)).cell? ⟨w4.heap.size, 0, none⟩ = some (.slice ua36 un37 uc38) := K58.out.1
    have cc65 : (w4.alloc (.cells #[.slice ua36 un37 uc38, .slice ua39 un40 uc41, .slice ua42 un43 uc44] 26)).cell? ⟨w4.heap.size, 1, none⟩ = some (.slice ua39 un40 uc41) := K58.out.2.1
    have cc66 : (w4.alloc (.cells #[.slice ua36 un37 uc38, .slice ua39 un40 uc41, .slice ua42 un43 uc44] 26)).cell? ⟨w4.heap.size, 2, none⟩ = some (.slice ua42 un43 uc44) := K58.out.2.2
    go_wp2_with fail
    refine (Lkb.impl_HeldBy (.slice ua36 un37 uc38) (.slice ua39 un40 uc41) (.slice ua42 un43 uc44) (Lls.lplain r0_0, r1_0, r2_0) i1 _ (SLocks.sOwn_is O55.out)).mono ?_
    rintro e w5 ⟨u60, rfl, ho0, hb5⟩
    clear cc61 cc62 cc63 cc64 cc65 cc66
    have O67 : Hid (Kep.IOwn w5 (w4.heap.size + 1) (w5.heap.size) u60 (Lkp.heldV (Lls.lplain r0_0, r1_0, r2_0) i1)) := (by have hh := ho0; rw [E59.out] at hh; exact hh)
    have Z68 : Hid (w4.heap.size + 1 ≤ w5.heap.size) := (by have hh := hb5.size; rw [E59.out] at hh; exact hh)
    have O69 : Hid (Kep.IOwn w5 (w2.heap.size) (w3.heap.size) u28 (Lkp.heldV (Lls.lplain r0_0, r1_0, r2_0) i1)) := Kep.iOwn_below O54.out hb5
    have O70 : Hid (SLocks.SOwn w5 (w3.heap.size) (w4.heap.size) (.slice ua36 un37 uc38) (.slice ua39 un40 uc41) (.slice ua42 un43 uc44) (Lls.lplain r0_0, r1_0, r2_0)) := SLocks.sOwn_below O55.out hb5
    have K71 : Hid (w5.cell? ⟨w.heap.size, 0, none⟩ = some (.slice a0_0 n0_0 c0_0) ∧ w5.cell? ⟨w.heap.size, 1, none⟩ = some (.slice a1_0 n1_0 c1_0) ∧ w5.cell? ⟨w.heap.size, 2, none⟩ = some (.slice a2_0 n2_0 c2_0)) := ⟨(hb5.cell (p := ⟨w.heap.size, 0, none⟩) (Frame.cell_lt K56.out.1)).trans K56.out.1, (hb5.cell (p := ⟨w.heap.size, 1, none⟩) (Frame.cell_lt K56.out.2.1)).trans K56.out.2.1, (hb5.cell (p := ⟨w.heap.size, 2, none⟩) (Frame.cell_lt K56.out.2.2)).trans K56.out.2.2⟩
    have K72 : Hid (w5.cell? ⟨w4.heap.size, 0, none⟩ = some (.slice ua36 un37 uc38) ∧ w5.cell? ⟨w4.heap.size, 1, none⟩ = some (.slice ua39 un40 uc41) ∧ w5.cell? ⟨w4.heap.size, 2, none⟩ = some (.slice ua42 un43 uc44)) := ⟨(hb5.cell (p := ⟨w4.heap.size, 0, none⟩) (Frame.cell_lt K58.out.1)).trans K58.out.1, (hb5.cell (p := ⟨w4.heap.size, 1, none⟩) (Frame.cell_lt K58.out.2.1)).trans K58.out.2.1, (hb5.cell (p := ⟨w4.heap.size, 2, none⟩) (Frame.cell_lt K58.out.2.2)).trans K58.out.2.2⟩
    have B73 : Hid (Below w.heap.size w w5) := Frame.next B57.out hb5 B57.out.size
    clear ho0 hb5
    have cc74 : w5.cell? ⟨w.heap.size, 0, none⟩ = some (.slice a0_0 n0_0 c0_0) := K71.out.1
    have cc75 : w5.cell? ⟨w.heap.size, 1, none⟩ = some (.slice a1_0 n1_0 c1_0) := K71.out.2.1
    have cc76 : w5.cell? ⟨w.heap.size, 2, none⟩ = some (.slice a2_0 n2_0 c2_0) := K71.out.2.2
    have cc77 : w5.cell? ⟨w4.heap.size, 0, none⟩ = some (.slice ua36 un37 uc38) := K72.out.1
    have cc78 : w5.cell? ⟨w4.heap.size, 1, none⟩ = some (.slice ua39 un40 uc41) := K72.out.2.1
    have cc79 : w5.cell? ⟨w4.heap.size, 2, none⟩ = some (.slice ua42 un43 uc44) := K72.out.2.2
    go_wp2_with fail
    refine (Kep.i_eq u60 u28 (Lkp.heldV (Lls.lplain r0_0, r1_0, r2_0) i1) (Lkp.heldV (Lls.lplain r0_0, r1_0, r2_0) i1) _ (Kep.iOwn_is O67.out) (Kep.iOwn_is O69.out)).mono ?_
    rintro e w6 ⟨rfl, hb6⟩
    clear cc74 cc75 cc76 cc77 cc78 cc79
    rw [decide_eq_true (Eq.refl ((Lkp.heldV (Lls.lplain r0_0, r1_0, r2_0) i1)))]
    have Z80 : Hid (w5.heap.size ≤ w6.heap.size) := hb6.size
    have O81 : Hid (Kep.IOwn w6 (w2.heap.size) (w3.heap.size) u28 (Lkp.heldV (Lls.lplain r0_0, r1_0, r2_0) i1)) := Kep.iOwn_below O69.out hb6
    have O82 : Hid (SLocks.SOwn w6 (w3.heap.size) (w4.heap.size) (.slice ua36 un37 uc38) (.slice ua39 un40 uc41) (.slice ua42 un43 uc44) (Lls.lplain r0_0, r1_0, r2_0)) := SLocks.sOwn_below O70.out hb6
    have O83 : Hid (Kep.IOwn w6 (w4.heap.size + 1) (w5.heap.size) u60 (Lkp.heldV (Lls.lplain r0_0, r1_0, r2_0) i1)) := Kep.iOwn_below O67.out hb6
    have K84 : Hid (w6.cell? ⟨w.heap.size, 0, none⟩ = some (.slice a0_0 n0_0 c0_0) ∧ w6.cell? ⟨w.heap.size, 1, none⟩ = some (.slice a1_0 n1_0 c1_0) ∧ w6.cell? ⟨w.heap.size, 2, none⟩ = some (.slice a2_0 n2_0 c2_0)) := ⟨(hb6.cell (p := ⟨w.heap.size, 0, none⟩) (Frame.cell_lt K71.out.1)).trans K71.out.1, (hb6.cell (p := ⟨w.heap.size, 1, none⟩) (Frame.cell_lt K71.out.2.1)).trans K71.out.2.1, (hb6.cell (p := ⟨w.heap.size, 2, none⟩) (Frame.cell_lt K71.out.2.2)).trans K71.out.2.2⟩
    have K85 : Hid (w6.cell? ⟨w4.heap.size, 0, none⟩ = some (.slice ua36 un37 uc38) ∧ w6.cell? ⟨w4.heap.size, 1, none⟩ = some (.slice ua39 un40 uc41) ∧ w6.cell? ⟨w4.heap.size, 2, none⟩ = some (.slice ua42 un43 uc44)) := ⟨(hb6.cell (p := ⟨w4.heap.size, 0, none⟩) (Frame.cell_lt K72.out.1)).trans K72.out.1, (hb6.cell (p := ⟨w4.heap.size, 1, none⟩) (Frame.cell_lt K72.out.2.1)).trans K72.out.2.1, (hb6.cell (p := ⟨w4.heap.size, 2, none⟩) (Frame.cell_lt K72.out.2.2)).trans K72.out.2.2⟩
    have B86 : Hid (Below w.heap.size w w6) := Frame.next B73.out hb6 B73.out.size
    clear hb6
    go_wp2_with fail
    have O87 : Hid (Kep.IOwn w6.drew (w2.heap.size) (w3.heap.size) u28 (Lkp.heldV (Lls.lplain r0_0, r1_0, r2_0) i1)) := Kep.iOwn_below O81.out ((Below.refl _ _).drew : Below w6.heap.size w6 w6.drew)
    have O88 : Hid (SLocks.SOwn w6.drew (w3.heap.size) (w4.heap.size) (.slice ua36 un37 uc38) (.slice ua39 un40 uc41) (.slice ua42 un43 uc44) (Lls.lplain r0_0, r1_0, r2_0)) := SLocks.sOwn_below O82.out ((Below.refl _ _).drew : Below w6.heap.size w6 w6.drew)
    have O89 : Hid (Kep.IOwn w6.drew (w4.heap.size + 1) (w5.heap.size) u60 (Lkp.heldV (Lls.lplain r0_0, r1_0, r2_0) i1)) := Kep.iOwn_below O83.out ((Below.refl _ _).drew : Below w6.heap.size w6 w6.drew)
    have K90 : Hid ((w6.drew).cell? ⟨w.heap.size, 0, none⟩ = some (.slice a0_0 n0_0 c0_0) ∧ (w6.drew).cell? ⟨w.heap.size, 1, none⟩ = some (.slice a1_0 n1_0 c1_0) ∧ (w6.drew).cell? ⟨w.heap.size, 2, none⟩ = some (.slice a2_0 n2_0 c2_0)) := ⟨(((Below.refl _ _).drew : Below w6.heap.size w6 w6.drew).cell (p := ⟨w.heap.size, 0, none⟩) (Frame.cell_lt K84.out.1)).trans K84.out.1, (((Below.refl _ _).drew : Below w6.heap.size w6 w6.drew).cell (p := ⟨w.heap.size, 1, none⟩) (Frame.cell_lt K84.out.2.1)).trans K84.out.2.1, (((Below.refl _ _).drew : Below w6.heap.size w6 w6.drew).cell (p := ⟨w.heap.size, 2, none⟩) (Frame.cell_lt K84.out.2.2)).trans K84.out.2.2⟩
    have K91 : Hid ((w6.drew).cell? ⟨w4.heap.size, 0, none⟩ = some (.slice ua36 un37 uc38) ∧ (w6.drew).cell? ⟨w4.heap.size, 1, none⟩ = some (.slice ua39 un40 uc41) ∧ (w6.drew).cell? ⟨w4.heap.size, 2, none⟩ = some (.slice ua42 un43 uc44)) := ⟨(((Below.refl _ _).drew : Below w6.heap.size w6 w6.drew).cell (p := ⟨w4.heap.size, 0, none⟩) (Frame.cell_lt K85.out.1)).trans K85.out.1, (((Below.refl _ _).drew : Below w6.heap.size w6 w6.drew).cell (p := ⟨w4.heap.size, 1, none⟩) (Frame.cell_lt K85.out.2.1)).trans K85.out.2.1, (((Below.refl _ _).drew : Below w6.heap.size w6 w6.drew).cell (p := ⟨w4.heap.size, 2, none⟩) (Frame.cell_lt K85.out.2.2)).trans K85.out.2.2⟩
    have B92 : Hid (Below w.heap.size w w6.drew) := Frame.next B86.out ((Below.refl _ _).drew : Below w6.heap.size w6 w6.drew) B86.out.size
    have E93 : Hid (w6.drew.heap.size = w6.heap.size) := rfl
    have S94 : Hid ((w6.drew).cell? ⟨w.heap.size, 0, none⟩ = some (.slice a0_0 n0_0 c0_0) ∧ (w6.drew).cell? ⟨w.heap.size, 1, none⟩ = some (.slice a1_0 n1_0 c1_0) ∧ (w6.drew).cell? ⟨w.heap.size, 2, none⟩ = some (.slice a2_0 n2_0 c2_0) ∧ (w6.drew).cell? ⟨w4.heap.size, 0, none⟩ = some (.slice ua36 un37 uc38) ∧ (w6.drew).cell? ⟨w4.heap.size, 1, none⟩ = some (.slice ua39 un40 uc41) ∧ (w6.drew).cell? ⟨w4.heap.size, 2, none⟩ = some (.slice ua42 un43 uc44)) := ⟨K90.out.1, K90.out.2.1, K90.out.2.2, K91.out.1, K91.out.2.1, K91.out.2.2⟩
    go_region_held3 (fun w' => (w').cell? ⟨w.heap.size, 0, none⟩ = some (.slice a0_0 n0_0 c0_0) ∧ (w').cell? ⟨w.heap.size, 1, none⟩ = some (.slice a1_0 n1_0 c1_0) ∧ (w').cell? ⟨w.heap.size, 2, none⟩ = some (.slice a2_0 n2_0 c2_0) ∧ (w').cell? ⟨w4.heap.size, 0, none⟩ = some (.slice ua36 un37 uc38) ∧ (w').cell? ⟨w4.heap.size, 1, none⟩ = some (.slice ua39 un40 uc41) ∧ (w').cell? ⟨w4.heap.size, 2, none⟩ = some (.slice ua42 un43 uc44)) (first | exact S94.out | exact S112.out | exact S122.out) (first | (go_at_call_has 30 a0_0; refine (SLocks.s_to9 (.slice a0_0 n0_0 c0_0) (.slice a1_0 n1_0 c1_0) (.slice a2_0 n2_0 c2_0) (Lls.lplain r0_0, r1_0, r2_0) _ (SLocks.sIs_below A0.out B92.out)).mono ?_; rintro e w7 ⟨ua95, un96, uc97, ua98, un99, uc100, ua101, un102, uc103, rfl, ho, hb7⟩; have O104 : Hid (SLocks.SOwn w7 (w6.heap.size) (w7.heap.size) (.slice ua95 un96 uc97) (.slice ua98 un99 uc100) (.slice ua101 un102 uc103) (Lls.lplain r0_0, r1_0, r2_0)) := (by have hh := ho; rw [E93.out] at hh; exact hh); have Z105 : Hid (w6.heap.size ≤ w7.heap.size) := (by have hh := hb7.size; rw [E93.out] at hh; exact hh); have O106 : Hid (Kep.IOwn w7 (w2.heap.size) (w3.heap.size) u28 (Lkp.heldV (Lls.lplain r0_0, r1_0, r2_0) i1)) := Kep.iOwn_below O87.out hb7; have O107 : Hid (SLocks.SOwn w7 (w3.heap.size) (w4.heap.size) (.slice ua36 un37 uc38) (.slice ua39 un40 uc41) (.slice ua42 un43 uc44) (Lls.lplain r0_0, r1_0, r2_0)) := SLocks.sOwn_below O88.out hb7; have O108 : Hid (Kep.IOwn w7 (w4.heap.size + 1) (w5.heap.size) u60 (Lkp.heldV (Lls.lplain r0_0, r1_0, r2_0) i1)) := Kep.iOwn_below O89.out hb7; have K109 : Hid (w7.cell? ⟨w.heap.size, 0, none⟩ = some (.slice a0_0 n0_0 c0_0) ∧ w7.cell? ⟨w.heap.size, 1, none⟩ = some (.slice a1_0 n1_0 c1_0) ∧ w7.cell? ⟨w.heap.size, 2, none⟩ = some (.slice a2_0 n2_0 c2_0)) := ⟨(hb7.cell (p := ⟨w.heap.size, 0, none⟩) (Frame.cell_lt K90.out.1)).trans K90.out.1, (hb7.cell (p := ⟨w.heap.size, 1, none⟩) (Frame.cell_lt K90.out.2.1)).trans K90.out.2.1, (hb7.cell (p := ⟨w.heap.size, 2, none⟩) (Frame.cell_lt K90.out.2.2)).trans K90.out.2.2⟩; have K110 : Hid (w7.cell? ⟨w4.heap.size, 0, none⟩ = some (.slice ua36 un37 uc38) ∧ w7.cell? ⟨w4.heap.size, 1, none⟩ = some (.slice ua39 un40 uc41) ∧ w7.cell? ⟨w4.heap.size, 2, none⟩ = some (.slice ua42 un43 uc44)) := ⟨(hb7.cell (p := ⟨w4.heap.size, 0, none⟩) (Frame.cell_lt K91.out.1)).trans K91.out.1, (hb7.cell (p := ⟨w4.heap.size, 1, none⟩) (Frame.cell_lt K91.out.2.1)).trans K91.out.2.1, (hb7.cell (p := ⟨w4.heap.size, 2, none⟩) (Frame.cell_lt K91.out.2.2)).trans K91.out.2.2⟩; have B111 : Hid (Below w.heap.size w w7) := Frame.next B92.out hb7 B92.out.size; clear ho hb7; have S112 : Hid (w7.cell? ⟨w.heap.size, 0, none⟩ = some (.slice a0_0 n0_0 c0_0) ∧ w7.cell? ⟨w.heap.size, 1, none⟩ = some (.slice a1_0 n1_0 c1_0) ∧ w7.cell? ⟨w.heap.size, 2, none⟩ = some (.slice a2_0 n2_0 c2_0) ∧ w7.cell? ⟨w4.heap.size, 0, none⟩ = some (.slice ua36 un37 uc38) ∧ w7.cell? ⟨w4.heap.size, 1, none⟩ = some (.slice ua39 un40 uc41) ∧ w7.cell? ⟨w4.heap.size, 2, none⟩ = some (.slice ua42 un43 uc44)) := ⟨K109.out.1, K109.out.2.1, K109.out.2.2, K110.out.1, K110.out.2.1, K110.out.2.2⟩) | (go_at_call 25; refine (SLocks.s_eq (.slice ua36 un37 uc38) (.slice ua39 un40 uc41) (.slice ua42 un43 uc44) (.slice ua95 un96 uc97) (.slice ua98 un99 uc100) (.slice ua101 un102 uc103) (Lls.lplain r0_0, r1_0, r2_0) (Lls.lplain r0_0, r1_0, r2_0) _ (SLocks.sOwn_is O107.out) (SLocks.sOwn_is O104.out)).mono ?_; rintro e w8 ⟨rfl, hb8⟩; rw [decide_eq_true (Eq.refl ((Lls.lplain r0_0, r1_0, r2_0)))]; have Z114 : Hid (w7.heap.size ≤ w8.heap.size) := hb8.size; have O115 : Hid (Kep.IOwn w8 (w2.heap.size) (w3.heap.size) u28 (Lkp.heldV (Lls.lplain r0_0, r1_0, r2_0) i1)) := Kep.iOwn_below O106.out hb8; have O116 : Hid (SLocks.SOwn w8 (w3.heap.size) (w4.heap.size) (.slice ua36 un37 uc38) (.slice ua39 un40 uc41) (.slice ua42 un43 uc44) (Lls.lplain r0_0, r1_0, r2_0)) := SLocks.sOwn_below O107.out hb8; have O117 : Hid (Kep.IOwn w8 (w4.heap.size + 1) (w5.heap.size) u60 (Lkp.heldV (Lls.lplain r0_0, r1_0, r2_0) i1)) := Kep.iOwn_below O108.out hb8; have O118 : Hid (SLocks.SOwn w8 (w6.heap.size) (w7.heap.size) (.slice ua95 un96 uc97) (.slice ua98 un99 uc100) (.slice ua101 un102 uc103) (Lls.lplain r0_0, r1_0, r2_0)) := SLocks.sOwn_below O104.out hb8; have K119 : Hid (w8.cell? ⟨w.heap.size, 0, none⟩ = some (.slice a0_0 n0_0 c0_0) ∧ w8.cell? ⟨w.heap.size, 1, none⟩ = some (.slice a1_0 n1_0 c1_0) ∧ w8.cell? ⟨w.heap.size, 2, none⟩ = some (.slice a2_0 n2_0 c2_0)) := ⟨(hb8.cell (p := ⟨w.heap.size, 0, none⟩) (Frame.cell_lt K109.out.1)).trans K109.out.1, (hb8.cell (p := ⟨w.heap.size, 1, none⟩) (Frame.cell_lt K109.out.2.1)).trans K109.out.2.1, (hb8.cell (p := ⟨w.heap.size, 2, none⟩) (Frame.cell_lt K109.out.2.2)).trans K109.out.2.2⟩; have K120 : Hid (w8.cell? ⟨w4.heap.size, 0, none⟩ = some (.slice ua36 un37 uc38) ∧ w8.cell? ⟨w4.heap.size, 1, none⟩ = some (.slice ua39 un40 uc41) ∧ w8.cell? ⟨w4.heap.size, 2, none⟩ = some (.slice ua42 un43 uc44)) := ⟨(hb8.cell (p := ⟨w4.heap.size, 0, none⟩) (Frame.cell_lt K110.out.1)).trans K110.out.1, (hb8.cell (p := ⟨w4.heap.size, 1, none⟩) (Frame.cell_lt K110.out.2.1)).trans K110.out.2.1, (hb8.cell (p := ⟨w4.heap.size, 2, none⟩) (Frame.cell_lt K110.out.2.2)).trans K110.out.2.2⟩; have B121 : Hid (Below w.heap.size w w8) := Frame.next B111.out hb8 B111.out.size; clear hb8; have S122 : Hid (w8.cell? ⟨w.heap.size, 0, none⟩ = some (.slice a0_0 n0_0 c0_0) ∧ w8.cell? ⟨w.heap.size, 1, none⟩ = some (.slice a1_0 n1_0 c1_0) ∧ w8.cell? ⟨w.heap.size, 2, none⟩ = some (.slice a2_0 n2_0 c2_0) ∧ w8.cell? ⟨w4.heap.size, 0, none⟩ = some (.slice ua36 un37 uc38) ∧ w8.cell? ⟨w4.heap.size, 1, none⟩ = some (.slice ua39 un40 uc41) ∧ w8.cell? ⟨w4.heap.size, 2, none⟩ = some (.slice ua42 un43 uc44)) := ⟨K119.out.1, K119.out.2.1, K119.out.2.2, K120.out.1, K120.out.2.1, K120.out.2.2⟩))
    have cc124 : w8.cell? ⟨w.heap.size, 0, none⟩ = some (.slice a0_0 n0_0 c0_0) := K119.out.1
    have cc125 : w8.cell? ⟨w.heap.size, 1, none⟩ = some (.slice a1_0 n1_0 c1_0) := K119.out.2.1
    have cc126 : w8.cell? ⟨w.heap.size, 2, none⟩ = some (.slice a2_0 n2_0 c2_0) := K119.out.2.2
    have cc127 : w8.cell? ⟨w4.heap.size, 0, none⟩ = some (.slice ua36 un37 uc38) := K120.out.1
    have cc128 : w8.cell? ⟨w4.heap.size, 1, none⟩ = some (.slice ua39 un40 uc41) := K120.out.2.1
    have cc129 : w8.cell? ⟨w4.heap.size, 2, none⟩ = some (.slice ua42 un43 uc44) := K120.out.2.2
    go_wp2_with fail
    refine (SLocks.s_mark (.slice ua36 un37 uc38) (.slice ua39 un40 uc41) (.slice ua42 un43 uc44) (Lls.lplain r0_0, r1_0, r2_0) _ _ 1 _ O116.out (by omega) (by omega)).mono ?_
    rintro e w9 ⟨nx123, rfl, hn0nx123, hn1nx123, hm, hb9⟩
    clear cc124 cc125 cc126 cc127 cc128 cc129
    have hznx123 : ¬ nx123 < 0 := by omega
    have O130 : Hid (SLocks.SMarked w9 (w3.heap.size) (w4.heap.size) (.slice ua36 un37 uc38) (.slice ua39 un40 uc41) (.slice ua42 un43 uc44) 1 nx123) := hm
    have Z131 : Hid (w8.heap.size ≤ w9.heap.size) := hb9.size
    have O132 : Hid (Kep.IOwn w9 (w2.heap.size) (w3.heap.size) u28 (Lkp.heldV (Lls.lplain r0_0, r1_0, r2_0) i1)) := Kep.iOwn_keeps O115.out hb9 (by have z0 := Z7.out; have z1 := Z24.out; have z2 := Z33.out; have z3 := Z49.out; have z4 := Z68.out; have z5 := Z80.out; have z6 := Z105.out; have z7 := Z114.out; omega)
    have O133 : Hid (Kep.IOwn w9 (w4.heap.size + 1) (w5.heap.size) u60 (Lkp.heldV (Lls.lplain r0_0, r1_0, r2_0) i1)) := Kep.iOwn_keeps O117.out hb9 (by have z0 := Z7.out; have z1 := Z24.out; have z2 := Z33.out; have z3 := Z49.out; have z4 := Z68.out; have z5 := Z80.out; have z6 := Z105.out; have z7 := Z114.out; omega)
    have K134 : Hid (w9.cell? ⟨w.heap.size, 0, none⟩ = some (.slice a0_0 n0_0 c0_0) ∧ w9.cell? ⟨w.heap.size, 1, none⟩ = some (.slice a1_0 n1_0 c1_0) ∧ w9.cell? ⟨w.heap.size, 2, none⟩ = some (.slice a2_0 n2_0 c2_0)) := ⟨Keeps.cell hb9 K119.out.1 (by have z0 := Z7.out; have z1 := Z24.out; have z2 := Z33.out; have z3 := Z49.out; have z4 := Z68.out; have z5 := Z80.out; have z6 := Z105.out; have z7 := Z114.out; omega), Keeps.cell hb9 K119.out.2.1 (by have z0 := Z7.out; have z1 := Z24.out; have z2 := Z33.out; have z3 := Z49.out; have z4 := Z68.out; have z5 := Z80.out; have z6 := Z105.out; have z7 := Z114.out; omega), Keeps.cell hb9 K119.out.2.2 (by have z0 := Z7.out; have z1 := Z24.out; have z2 := Z33.out; have z3 := Z49.out; have z4 := Z68.out; have z5 := Z80.out; have z6 := Z105.out; have z7 := Z114.out; omega)⟩
    have K135 : Hid (w9.cell? ⟨w4.heap.size, 0, none⟩ = some (.slice ua36 un37 uc38) ∧ w9.cell? ⟨w4.heap.size, 1, none⟩ = some (.slice ua39 un40 uc41) ∧ w9.cell? ⟨w4.heap.size, 2, none⟩ = some (.slice ua42 un43 uc44)) := ⟨Keeps.cell hb9 K120.out.1 (by have z0 := Z7.out; have z1 := Z24.out; have z2 := Z33.out; have z3 := Z49.out; have z4 := Z68.out; have z5 := Z80.out; have z6 := Z105.out; have z7 := Z114.out; omega), Keeps.cell hb9 K120.out.2.1 (by have z0 := Z7.out; have z1 := Z24.out; have z2 := Z33.out; have z3 := Z49.out; have z4 := Z68.out; have z5 := Z80.out; have z6 := Z105.out; have z7 := Z114.out; omega), Keeps.cell hb9 K120.out.2.2 (by have z0 := Z7.out; have z1 := Z24.out; have z2 := Z33.out; have z3 := Z49.out; have z4 := Z68.out; have z5 := Z80.out; have z6 := Z105.out; have z7 := Z114.out; omega)⟩
    have B136 : Hid (Below w.heap.size w w9) := Keeps.below B121.out hb9 (by have z0 := Z7.out; have z1 := Z24.out; have z2 := Z33.out; have z3 := Z49.out; have z4 := Z68.out; have z5 := Z80.out; have z6 := Z105.out; have z7 := Z114.out; omega) B121.out.size
    clear hm hb9
    have cc137 : w9.cell? ⟨w.heap.size, 0, none⟩ = some (.slice a0_0 n0_0 c0_0) := K134.out.1
    have cc138 : w9.cell? ⟨w.heap.size, 1, none⟩ = some (.slice a1_0 n1_0 c1_0) := K134.out.2.1
    have cc139 : w9.cell? ⟨w.heap.size, 2, none⟩ = some (.slice a2_0 n2_0 c2_0) := K134.out.2.2
    have cc140 : w9.cell? ⟨w4.heap.size, 0, none⟩ = some (.slice ua36 un37 uc38) := K135.out.1
    have cc141 : w9.cell? ⟨w4.heap.size, 1, none⟩ = some (.slice ua39 un40 uc41) := K135.out.2.1
    have cc142 : w9.cell? ⟨w4.heap.size, 2, none⟩ = some (.slice ua42 un43 uc44) := K135.out.2.2
    go_wp2_with fail
    refine (Kep.i_eq u60 u28 (Lkp.heldV (Lls.lplain r0_0, r1_0, r2_0) i1) (Lkp.heldV (Lls.lplain r0_0, r1_0, r2_0) i1) _ (Kep.iOwn_is O133.out) (Kep.iOwn_is O132.out)).mono ?_
    rintro e w10 ⟨rfl, hb10⟩
    clear cc137 cc138 cc139 cc140 cc141 cc142
    rw [decide_eq_true (Eq.refl ((Lkp.heldV (Lls.lplain r0_0, r1_0, r2_0) i1)))]
    have Z143 : Hid (w9.heap.size ≤ w10.heap.size) := hb10.size
    have O144 : Hid (Kep.IOwn w10 (w2.heap.size) (w3.heap.size) u28 (Lkp.heldV (Lls.lplain r0_0, r1_0, r2_0) i1)) := Kep.iOwn_below O132.out hb10
    have O145 : Hid (SLocks.SMarked w10 (w3.heap.size) (w4.heap.size) (.slice ua36 un37 uc38) (.slice ua39 un40 uc41) (.slice ua42 un43 uc44) 1 nx123) := SLocks.sMarked_below O130.out hb10
    have O146 : Hid (Kep.IOwn w10 (w4.heap.size + 1) (w5.heap.size) u60 (Lkp.heldV (Lls.lplain r0_0, r1_0, r2_0) i1)) := Kep.iOwn_below O133.out hb10
    have K147 : Hid (w10.cell? ⟨w.heap.size, 0, none⟩ = some (.slice a0_0 n0_0 c0_0) ∧ w10.cell? ⟨w.heap.size, 1, none⟩ = some (.slice a1_0 n1_0 c1_0) ∧ w10.cell? ⟨w.heap.size, 2, none⟩ = some (.slice a2_0 n2_0 c2_0)) := ⟨(hb10.cell (p := ⟨w.heap.size, 0, none⟩) (Frame.cell_lt K134.out.1)).trans K134.out.1, (hb10.cell (p := ⟨w.heap.size, 1, none⟩) (Frame.cell_lt K134.out.2.1)).trans K134.out.2.1, (hb10.cell (p := ⟨w.heap.size, 2, none⟩) (Frame.cell_lt K134.out.2.2)).trans K134.out.2.2⟩
    have K148 : Hid (w10.cell? ⟨w4.heap.size, 0, none⟩ = some (.slice ua36 un37 uc38) ∧ w10.cell? ⟨w4.heap.size, 1, none⟩ = some (.slice ua39 un40 uc41) ∧ w10.cell? ⟨w4.heap.size, 2, none⟩ = some (.slice ua42 un43 uc44)) := ⟨(hb10.cell (p := ⟨w4.heap.size, 0, none⟩) (Frame.cell_lt K135.out.1)).trans K135.out.1, (hb10.cell (p := ⟨w4.heap.size, 1, none⟩) (Frame.cell_lt K135.out.2.1)).trans K135.out.2.1, (hb10.cell (p := ⟨w4.heap.size, 2, none⟩) (Frame.cell_lt K135.out.2.2)).trans K135.out.2.2⟩
    have B149 : Hid (Below w.heap.size w w10) := Frame.next B136.out hb10 B136.out.size
    clear hb10
    have cc151 : w10.cell? ⟨w.heap.size, 0, none⟩ = some (.slice a0_0 n0_0 c0_0) := K147.out.1
    have cc152 : w10.cell? ⟨w.heap.size, 1, none⟩ = some (.slice a1_0 n1_0 c1_0) := K147.out.2.1
    have cc153 : w10.cell? ⟨w.heap.size, 2, none⟩ = some (.slice a2_0 n2_0 c2_0) := K147.out.2.2
    have cc154 : w10.cell? ⟨w4.heap.size, 0, none⟩ = some (.slice ua36 un37 uc38) := K148.out.1
    have cc155 : w10.cell? ⟨w4.heap.size, 1, none⟩ = some (.slice ua39 un40 uc41) := K148.out.2.1
    have cc156 : w10.cell? ⟨w4.heap.size, 2, none⟩ = some (.slice ua42 un43 uc44) := K148.out.2.2
    go_wp2_with fail
    refine (Kep.i_mark u60 (Lkp.heldV (Lls.lplain r0_0, r1_0, r2_0) i1) _ _ 1 _ O146.out (by omega) (by omega)).mono ?_
    rintro e w11 ⟨nx150, rfl, hn0nx150, hn1nx150, hm, hb11⟩
    clear cc151 cc152 cc153 cc154 cc155 cc156
    have hznx150 : ¬ nx150 < 0 := by omega
    have O157 : Hid (Kep.IMarked w11 (w4.heap.size + 1) (w5.heap.size) u60 1 nx150) := hm
    have Z158 : Hid (w10.heap.size ≤ w11.heap.size) := hb11.size
    have O159 : Hid (Kep.IOwn w11 (w2.heap.size) (w3.heap.size) u28 (Lkp.heldV (Lls.lplain r0_0, r1_0, r2_0) i1)) := Kep.iOwn_keeps O144.out hb11 (by have z0 := Z7.out; have z1 := Z24.out; have z2 := Z33.out; have z3 := Z49.out; have z4 := Z68.out; have z5 := Z80.out; have z6 := Z105.out; have z7 := Z114.out; have z8 := Z131.out; have z9 := Z143.out; omega)
    have K160 : Hid (w11.cell? ⟨w.heap.size, 0, none⟩ = some (.slice a0_0 n0_0 c0_0) ∧ w11.cell? ⟨w.heap.size, 1, none⟩ = some (.slice a1_0 n1_0 c1_0) ∧ w11.cell? ⟨w.heap.size, 2, none⟩ = some (.slice a2_0 n2_0 c2_0)) := ⟨Keeps.cell hb11 K147.out.1 (by have z0 := Z7.out; have z1 := Z24.out; have z2 := Z33.out; have z3 := Z49.out; have z4 := Z68.out; have z5 := Z80.out; have z6 := Z105.out; have z7 := Z114.out; have z8 := Z131.out; have z9 := Z143.out; omega), Keeps.cell hb11 K147.out.2.1 (by have z0 := Z7.out; have z1 := Z24.out; have z2 := Z33.out; have z3 := Z49.out; have z4 := Z68.out; have z5 := Z80.out; have z6 := Z105.out; have z7 := Z114.out; have z8 := Z131.out; have z9 := Z143.out; omega), Keeps.cell hb11 K147.out.2.2 (by have z0 := Z7.out; have z1 := Z24.out; have z2 := Z33.out; have z3 := Z49.out; have z4 := Z68.out; have z5 := Z80.out; have z6 := Z105.out; have z7 := Z114.out; have z8 := Z131.out; have z9 := Z143.out; omega)⟩
    have K161 : Hid (w11.cell? ⟨w4.heap.size, 0, none⟩ = some (.slice ua36 un37 uc38) ∧ w11.cell? ⟨w4.heap.size, 1, none⟩ = some (.slice ua39 un40 uc41) ∧ w11.cell? ⟨w4.heap.size, 2, none⟩ = some (.slice ua42 un43 uc44)) := ⟨Keeps.cell hb11 K148.out.1 (by have z0 := Z7.out; have z1 := Z24.out; have z2 := Z33.out; have z3 := Z49.out; have z4 := Z68.out; have z5 := Z80.out; have z6 := Z105.out; have z7 := Z114.out; have z8 := Z131.out; have z9 := Z143.out; omega), Keeps.cell hb11 K148.out.2.1 (by have z0 := Z7.out; have z1 := Z24.out; have z2 := Z33.out; have z3 := Z49.out; have z4 := Z68.out; have z5 := Z80.out; have z6 := Z105.out; have z7 := Z114.out; have z8 := Z131.out; have z9 := Z143.out; omega), Keeps.cell hb11 K148.out.2.2 (by have z0 := Z7.out; have z1 := Z24.out; have z2 := Z33.out; have z3 := Z49.out; have z4 := Z68.out; have z5 := Z80.out; have z6 := Z105.out; have z7 := Z114.out; have z8 := Z131.out; have z9 := Z143.out; omega)⟩
    have B162 : Hid (Below w.heap.size w w11) := Keeps.below B149.out hb11 (by have z0 := Z7.out; have z1 := Z24.out; have z2 := Z33.out; have z3 := Z49.out; have z4 := Z68.out; have z5 := Z80.out; have z6 := Z105.out; have z7 := Z114.out; have z8 := Z131.out; have z9 := Z143.out; omega) B149.out.size
    clear hm hb11
    have cc163 : w11.cell? ⟨w.heap.size, 0, none⟩ = some (.slice a0_0 n0_0 c0_0) := K160.out.1
    have cc164 : w11.cell? ⟨w.heap.size, 1, none⟩ = some (.slice a1_0 n1_0 c1_0) := K160.out.2.1
    have cc165 : w11.cell? ⟨w.heap.size, 2, none⟩ = some (.slice a2_0 n2_0 c2_0) := K160.out.2.2
    have cc166 : w11.cell? ⟨w4.heap.size, 0, none⟩ = some (.slice ua36 un37 uc38) := K161.out.1
    have cc167 : w11.cell? ⟨w4.heap.size, 1, none⟩ = some (.slice ua39 un40 uc41) := K161.out.2.1
    have cc168 : w11.cell? ⟨w4.heap.size, 2, none⟩ = some (.slice ua42 un43 uc44) := K161.out.2.2
    go_wp2_with fail
    refine (Kep.i_held u60 _ _ 1 nx150 _ O157.out).mono ?_
    rintro e w12 ⟨rfl, hb12⟩
    clear cc163 cc164 cc165 cc166 cc167 cc168
    have Z169 : Hid (w11.heap.size ≤ w12.heap.size) := hb12.size
    have O170 : Hid (Kep.IOwn w12 (w2.heap.size) (w3.heap.size) u28 (Lkp.heldV (Lls.lplain r0_0, r1_0, r2_0) i1)) := Kep.iOwn_below O159.out hb12
    have O171 : Hid (Kep.IMarked w12 (w4.heap.size + 1) (w5.heap.size) u60 1 nx150) := Kep.iMarked_below O157.out hb12
    have K172 : Hid (w12.cell? ⟨w.heap.size, 0, none⟩ = some (.slice a0_0 n0_0 c0_0) ∧ w12.cell? ⟨w.heap.size, 1, none⟩ = some (.slice a1_0 n1_0 c1_0) ∧ w12.cell? ⟨w.heap.size, 2, none⟩ = some (.slice a2_0 n2_0 c2_0)) := ⟨(hb12.cell (p := ⟨w.heap.size, 0, none⟩) (Frame.cell_lt K160.out.1)).trans K160.out.1, (hb12.cell (p := ⟨w.heap.size, 1, none⟩) (Frame.cell_lt K160.out.2.1)).trans K160.out.2.1, (hb12.cell (p := ⟨w.heap.size, 2, none⟩) (Frame.cell_lt K160.out.2.2)).trans K160.out.2.2⟩
    have K173 : Hid (w12.cell? ⟨w4.heap.size, 0, none⟩ = some (.slice ua36 un37 uc38) ∧ w12.cell? ⟨w4.heap.size, 1, none⟩ = some (.slice ua39 un40 uc41) ∧ w12.cell? ⟨w4.heap.size, 2, none⟩ = some (.slice ua42 un43 uc44)) := ⟨(hb12.cell (p := ⟨w4.heap.size, 0, none⟩) (Frame.cell_lt K161.out.1)).trans K161.out.1, (hb12.cell (p := ⟨w4.heap.size, 1, none⟩) (Frame.cell_lt K161.out.2.1)).trans K161.out.2.1, (hb12.cell (p := ⟨w4.heap.size, 2, none⟩) (Frame.cell_lt K161.out.2.2)).trans K161.out.2.2⟩
    have B174 : Hid (Below w.heap.size w w12) := Frame.next B162.out hb12 B162.out.size
    clear hb12
    have cc184 : w12.cell? ⟨w.heap.size, 0, none⟩ = some (.slice a0_0 n0_0 c0_0) := K172.out.1
    have cc185 : w12.cell? ⟨w.heap.size, 1, none⟩ = some (.slice a1_0 n1_0 c1_0) := K172.out.2.1
    have cc186 : w12.cell? ⟨w.heap.size, 2, none⟩ = some (.slice a2_0 n2_0 c2_0) := K172.out.2.2
    have cc187 : w12.cell? ⟨w4.heap.size, 0, none⟩ = some (.slice ua36 un37 uc38) := K173.out.1
    have cc188 : w12.cell? ⟨w4.heap.size, 1, none⟩ = some (.slice ua39 un40 uc41) := K173.out.2.1
    have cc189 : w12.cell? ⟨w4.heap.size, 2, none⟩ = some (.slice ua42 un43 uc44) := K173.out.2.2
    go_wp2_with fail
    refine (SLocks.s_to9 (.slice a0_0 n0_0 c0_0) (.slice a1_0 n1_0 c1_0) (.slice a2_0 n2_0 c2_0) (Lls.lplain r0_0, r1_0, r2_0) _ (SLocks.sIs_below A0.out B174.out)).mono ?_
    rintro e w13 ⟨ua175, un176, uc177, ua178, un179, uc180, ua181, un182, uc183, rfl, ho, hb13⟩
    clear cc184 cc185 cc186 cc187 cc188 cc189
    have O190 : Hid (SLocks.SOwn w13 (w12.heap.size) (w13.heap.size) (.slice ua175 un176 uc177) (.slice ua178 un179 uc180) (.slice ua181 un182 uc183) (Lls.lplain r0_0, r1_0, r2_0)) := ho
    have Z191 : Hid (w12.heap.size ≤ w13.heap.size) := hb13.size
    have O192 : Hid (Kep.IOwn w13 (w2.heap.size) (w3.heap.size) u28 (Lkp.heldV (Lls.lplain r0_0, r1_0, r2_0) i1)) := Kep.iOwn_below O170.out hb13
    have O193 : Hid (Kep.IMarked w13 (w4.heap.size + 1) (w5.heap.size) u60 1 nx150) := Kep.iMarked_below O171.out hb13
    have K194 : Hid (w13.cell? ⟨w.heap.size, 0, none⟩ = some (.slice a0_0 n0_0 c0_0) ∧ w13.cell? ⟨w.heap.size, 1, none⟩ = some (.slice a1_0 n1_0 c1_0) ∧ w13.cell? ⟨w.heap.size, 2, none⟩ = some (.slice a2_0 n2_0 c2_0)) := ⟨(hb13.cell (p := ⟨w.heap.size, 0, none⟩) (Frame.cell_lt K172.out.1)).trans K172.out.1, (hb13.cell (p := ⟨w.heap.size, 1, none⟩) (Frame.cell_lt K172.out.2.1)).trans K172.out.2.1, (hb13.cell (p := ⟨w.heap.size, 2, none⟩) (Frame.cell_lt K172.out.2.2)).trans K172.out.2.2⟩
    have K195 : Hid (w13.cell? ⟨w4.heap.size, 0, none⟩ = some (.slice ua36 un37 uc38) ∧ w13.cell? ⟨w4.heap.size, 1, none⟩ = some (.slice ua39 un40 uc41) ∧ w13.cell? ⟨w4.heap.size, 2, none⟩ = some (.slice ua42 un43 uc44)) := ⟨(hb13.cell (p := ⟨w4.heap.size, 0, none⟩) (Frame.cell_lt K173.out.1)).trans K173.out.1, (hb13.cell (p := ⟨w4.heap.size, 1, none⟩) (Frame.cell_lt K173.out.2.1)).trans K173.out.2.1, (hb13.cell (p := ⟨w4.heap.size, 2, none⟩) (Frame.cell_lt K173.out.2.2)).trans K173.out.2.2⟩
    have B196 : Hid (Below w.heap.size w w13) := Frame.next B174.out hb13 B174.out.size
    clear ho hb13
    have cc199 : w13.cell? ⟨w.heap.size, 0, none⟩ = some (.slice a0_0 n0_0 c0_0) := K194.out.1
    have cc200 : w13.cell? ⟨w.heap.size, 1, none⟩ = some (.slice a1_0 n1_0 c1_0) := K194.out.2.1
    have cc201 : w13.cell? ⟨w.heap.size, 2, none⟩ = some (.slice a2_0 n2_0 c2_0) := K194.out.2.2
    have cc202 : w13.cell? ⟨w4.heap.size, 0, none⟩ = some (.slice ua36 un37 uc38) := K195.out.1
    have cc203 : w13.cell? ⟨w4.heap.size, 1, none⟩ = some (.slice ua39 un40 uc41) := K195.out.2.1
    have cc204 : w13.cell? ⟨w4.heap.size, 2, none⟩ = some (.slice ua42 un43 uc44) := K195.out.2.2
    go_wp2_with fail
    refine (Lkb.impl_HeldBy (.slice ua175 un176 uc177) (.slice ua178 un179 uc180) (.slice ua181 un182 uc183) (Lls.lplain r0_0, r1_0, r2_0) i1 _ (SLocks.sOwn_is O190.out)).mono ?_
    rintro e w14 ⟨u198, rfl, ho0, hb14⟩
    clear cc199 cc200 cc201 cc202 cc203 cc204
    have O205 : Hid (Kep.IOwn w14 (w13.heap.size) (w14.heap.size) u198 (Lkp.heldV (Lls.lplain r0_0, r1_0, r2_0) i1)) := ho0
    have Z206 : Hid (w13.heap.size ≤ w14.heap.size) := hb14.size
    have O207 : Hid (Kep.IOwn w14 (w2.heap.size) (w3.heap.size) u28 (Lkp.heldV (Lls.lplain r0_0, r1_0, r2_0) i1)) := Kep.iOwn_below O192.out hb14
    have O208 : Hid (Kep.IMarked w14 (w4.heap.size + 1) (w5.heap.size) u60 1 nx150) := Kep.iMarked_below O193.out hb14
    have K209 : Hid (w14.cell? ⟨w.heap.size, 0, none⟩ = some (.slice a0_0 n0_0 c0_0) ∧ w14.cell? ⟨w.heap.size, 1, none⟩ = some (.slice a1_0 n1_0 c1_0) ∧ w14.cell? ⟨w.heap.size, 2, none⟩ = some (.slice a2_0 n2_0 c2_0)) := ⟨(hb14.cell (p := ⟨w.heap.size, 0, none⟩) (Frame.cell_lt K194.out.1)).trans K194.out.1, (hb14.cell (p := ⟨w.heap.size, 1, none⟩) (Frame.cell_lt K194.out.2.1)).trans K194.out.2.1, (hb14.cell (p := ⟨w.heap.size, 2, none⟩) (Frame.cell_lt K194.out.2.2)).trans K194.out.2.2⟩
    have K210 : Hid (w14.cell? ⟨w4.heap.size, 0, none⟩ = some (.slice ua36 un37 uc38) ∧ w14.cell? ⟨w4.heap.size, 1, none⟩ = some (.slice ua39 un40 uc41) ∧ w14.cell? ⟨w4.heap.size, 2, none⟩ = some (.slice ua42 un43 uc44)) := ⟨(hb14.cell (p := ⟨w4.heap.size, 0, none⟩) (Frame.cell_lt K195.out.1)).trans K195.out.1, (hb14.cell (p := ⟨w4.heap.size, 1, none⟩) (Frame.cell_lt K195.out.2.1)).trans K195.out.2.1, (hb14.cell (p := ⟨w4.heap.size, 2, none⟩) (Frame.cell_lt K195.out.2.2)).trans K195.out.2.2⟩
    have B211 : Hid (Below w.heap.size w w14) := Frame.next B196.out hb14 B196.out.size
    clear ho0 hb14
    have cc212 : w14.cell? ⟨w.heap.size, 0, none⟩ = some (.slice a0_0 n0_0 c0_0) := K209.out.1
    have cc213 : w14.cell? ⟨w.heap.size, 1, none⟩ = some (.slice a1_0 n1_0 c1_0) := K209.out.2.1
    have cc214 : w14.cell? ⟨w.heap.size, 2, none⟩ = some (.slice a2_0 n2_0 c2_0) := K209.out.2.2
    have cc215 : w14.cell? ⟨w4.heap.size, 0, none⟩ = some (.slice ua36 un37 uc38) := K210.out.1
    have cc216 : w14.cell? ⟨w4.heap.size, 1, none⟩ = some (.slice ua39 un40 uc41) := K210.out.2.1
    have cc217 : w14.cell? ⟨w4.heap.size, 2, none⟩ = some (.slice ua42 un43 uc44) := K210.out.2.2
    go_wp2_with fail
    refine (Kep.i_eq u198 u28 (Lkp.heldV (Lls.lplain r0_0, r1_0, r2_0) i1) (Lkp.heldV (Lls.lplain r0_0, r1_0, r2_0) i1) _ (Kep.iOwn_is O205.out) (Kep.iOwn_is O207.out)).mono ?_
    rintro e w15 ⟨rfl, hb15⟩
    clear cc212 cc213 cc214 cc215 cc216 cc217
    rw [decide_eq_true (Eq.refl ((Lkp.heldV (Lls.lplain r0_0, r1_0, r2_0) i1)))]
    have Z218 : Hid (w14.heap.size ≤ w15.heap.size) := hb15.size
    have O219 : Hid (Kep.IOwn w15 (w2.heap.size) (w3.heap.size) u28 (Lkp.heldV (Lls.lplain r0_0, r1_0, r2_0) i1)) := Kep.iOwn_below O207.out hb15
    have O220 : Hid (Kep.IMarked w15 (w4.heap.size + 1) (w5.heap.size) u60 1 nx150) := Kep.iMarked_below O208.out hb15
    have O221 : Hid (Kep.IOwn w15 (w13.heap.size) (w14.heap.size) u198 (Lkp.heldV (Lls.lplain r0_0, r1_0, r2_0) i1)) := Kep.iOwn_below O205.out hb15
    have K222 : Hid (w15.cell? ⟨w.heap.size, 0, none⟩ = some (.slice a0_0 n0_0 c0_0) ∧ w15.cell? ⟨w.heap.size, 1, none⟩ = some (.slice a1_0 n1_0 c1_0) ∧ w15.cell? ⟨w.heap.size, 2, none⟩ = some (.slice a2_0 n2_0 c2_0)) := ⟨(hb15.cell (p := ⟨w.heap.size, 0, none⟩) (Frame.cell_lt K209.out.1)).trans K209.out.1, (hb15.cell (p := ⟨w.heap.size, 1, none⟩) (Frame.cell_lt K209.out.2.1)).trans K209.out.2.1, (hb15.cell (p := ⟨w.heap.size, 2, none⟩) (Frame.cell_lt K209.out.2.2)).trans K209.out.2.2⟩
    have K223 : Hid (w15.cell? ⟨w4.heap.size, 0, none⟩ = some (.slice ua36 un37 uc38) ∧ w15.cell? ⟨w4.heap.size, 1, none⟩ = some (.slice ua39 un40 uc41) ∧ w15.cell? ⟨w4.heap.size, 2, none⟩ = some (.slice ua42 un43 uc44)) := ⟨(hb15.cell (p := ⟨w4.heap.size, 0, none⟩) (Frame.cell_lt K210.out.1)).trans K210.out.1, (hb15.cell (p := ⟨w4.heap.size, 1, none⟩) (Frame.cell_lt K210.out.2.1)).trans K210.out.2.1, (hb15.cell (p := ⟨w4.heap.size, 2, none⟩) (Frame.cell_lt K210.out.2.2)).trans K210.out.2.2⟩
    have B224 : Hid (Below w.heap.size w w15) := Frame.next B211.out hb15 B211.out.size
    clear hb15
    have cc225 : w15.cell? ⟨w.heap.size, 0, none⟩ = some (.slice a0_0 n0_0 c0_0) := K222.out.1
    have cc226 : w15.cell? ⟨w.heap.size, 1, none⟩ = some (.slice a1_0 n1_0 c1_0) := K222.out.2.1
    have cc227 : w15.cell? ⟨w.heap.size, 2, none⟩ = some (.slice a2_0 n2_0 c2_0) := K222.out.2.2
    have cc228 : w15.cell? ⟨w4.heap.size, 0, none⟩ = some (.slice ua36 un37 uc38) := K223.out.1
    have cc229 : w15.cell? ⟨w4.heap.size, 1, none⟩ = some (.slice ua39 un40 uc41) := K223.out.2.1
    have cc230 : w15.cell? ⟨w4.heap.size, 2, none⟩ = some (.slice ua42 un43 uc44) := K223.out.2.2
    go_wp2_with fail
    refine (Kep.i_held u60 _ _ 1 nx150 _ O220.out).mono ?_
    rintro e w16 ⟨rfl, hb16⟩
    clear cc225 cc226 cc227 cc228 cc229 cc230
    have Z231 : Hid (w15.heap.size ≤ w16.heap.size) := hb16.size
    have O232 : Hid (Kep.IOwn w16 (w2.heap.size) (w3.heap.size) u28 (Lkp.heldV (Lls.lplain r0_0, r1_0, r2_0) i1)) := Kep.iOwn_below O219.out hb16
    have O233 : Hid (Kep.IMarked w16 (w4.heap.size + 1) (w5.heap.size) u60 1 nx150) := Kep.iMarked_below O220.out hb16
    have O234 : Hid (Kep.IOwn w16 (w13.heap.size) (w14.heap.size) u198 (Lkp.heldV (Lls.lplain r0_0, r1_0, r2_0) i1)) := Kep.iOwn_below O221.out hb16
    have K235 : Hid (w16.cell? ⟨w.heap.size, 0, none⟩ = some (.slice a0_0 n0_0 c0_0) ∧ w16.cell? ⟨w.heap.size, 1, none⟩ = some (.slice a1_0 n1_0 c1_0) ∧ w16.cell? ⟨w.heap.size, 2, none⟩ = some (.slice a2_0 n2_0 c2_0)) := ⟨(hb16.cell (p := ⟨w.heap.size, 0, none⟩) (Frame.cell_lt K222.out.1)).trans K222.out.1, (hb16.cell (p := ⟨w.heap.size, 1, none⟩) (Frame.cell_lt K222.out.2.1)).trans K222.out.2.1, (hb16.cell (p := ⟨w.heap.size, 2, none⟩) (Frame.cell_lt K222.out.2.2)).trans K222.out.2.2⟩
    have K236 : Hid (w16.cell? ⟨w4.heap.size, 0, none⟩ = some (.slice ua36 un37 uc38) ∧ w16.cell? ⟨w4.heap.size, 1, none⟩ = some (.slice ua39 un40 uc41) ∧ w16.cell? ⟨w4.heap.size, 2, none⟩ = some (.slice ua42 un43 uc44)) := ⟨(hb16.cell (p := ⟨w4.heap.size, 0, none⟩) (Frame.cell_lt K223.out.1)).trans K223.out.1, (hb16.cell (p := ⟨w4.heap.size, 1, none⟩) (Frame.cell_lt K223.out.2.1)).trans K223.out.2.1, (hb16.cell (p := ⟨w4.heap.size, 2, none⟩) (Frame.cell_lt K223.out.2.2)).trans K223.out.2.2⟩
    have B237 : Hid (Below w.heap.size w w16) := Frame.next B224.out hb16 B224.out.size
    clear hb16
    go_wp2
    go_ret
    exact ⟨rfl, B237.out⟩

set_option maxRecDepth 100000 in
theorem contract (H : Type) (enc : TypeId × Value → H) (W : World) (base : Nat) (args : Array Value) (ds gs : List (DataW H)) (before : List MemPlace)
    (hval0 : ∀ (j : Nat) t v, Try.f8.params[j]? = some t → args[j]? = some v → Value.okWide Try.prog W .any base t v)
    (hW : DataW.Whole enc Try.prog Try.f8.params.toList Rows.fnExactHeldBySpec.vars false W args.toList ds gs before) :
    Calls Try.prog 8 args W fun e W' => ∃ v, e = .returned v ∧ Rows.fnExactHeldBySpec.post enc Try.prog Try.f8 false true false false W args v W' := by
  refine Frame.law_calls (tb := 4) laidOut (by kernel_rfl) (by kernel_rfl) (by kernel_rfl) Try.underlying4 hW (fun ds gs h1 h2 => ?_) ?_
  · rw [Try.params8] at h1
    match ds, gs, h1, h2 with
    | [_, _], [], _, _ => rfl
  · obtain ⟨p, q, hA0, _, _, _, _⟩ := hW
    have hval : ∀ (j : Nat) t v, Try.f8.params[j]? = some t → args[j]? = some v → Value.okWide Try.prog W .any base t v := hval0
    have hA : DataW.TrodAll enc Try.prog W 0 (fun _ => true) true Try.f8.params.toList args.toList ds p := hA0
    rw [Try.params8] at hA hval
    obtain ⟨v0, vs0, d0, ds0, p0, q0, hargs, rfl, rfl, h0, r0⟩ := trodAll_cons hA
    obtain ⟨v1, vs1, d1, ds1, p1, q1, rfl, rfl, rfl, h1, r1⟩ := trodAll_cons r0
    obtain ⟨rfl, rfl, rfl⟩ := trodAll_nil r1
    obtain rfl : args = #[v0, v1] := by cases args; simp_all
    obtain ⟨a0_0, n0_0, c0_0, r0_0, a1_0, n1_0, c1_0, r1_0, a2_0, n2_0, c2_0, r2_0, rfl, f0_0, f1_0, f2_0⟩ := OLocks.locks_of (hval 0 46 v0 rfl rfl) h0
    obtain ⟨a1, rfl, rfl, rfl, w1⟩ := open_int Try.underlying3 (hval 1 3 v1 rfl rfl) h1
    exact walk a0_0 n0_0 c0_0 r0_0 a1_0 n1_0 c1_0 r1_0 a2_0 n2_0 c2_0 r2_0 a1 W f0_0 f1_0 f2_0 w1

set_option maxRecDepth 100000 in
theorem lifted (os : Os) (started : os.Started) (H : Type) (enc : TypeId × Value → H) :
    ReturnsInHanded {} Try.checked os 8 .any (Rows.fnExactHeldBySpec.pre6 enc Try.prog Try.f8 Rows.fnExactHeldByRow.domain false) (Rows.fnExactHeldBySpec.post enc Try.prog Try.f8 false true false false) := by
  refine returnsInHanded_of_change (C := Try.checked) own started (by kernel_rfl) Try.func8
    (ChangeSpec.witness6 (enc := enc) (C := Try.checked) false ⟨#[], #[.agg #[.slice none 0 0, .slice none 0 0, .slice none 0 0], .int .i64 0], []⟩ 8 (by kernel_rfl) (by kernel_rfl) (by kernel_rfl) (by kernel_rfl)) ?_
  intro W base args ds gs before hval hW _ _
  exact contract H enc W base args ds gs before hval hW

theorem fnamed : Try.prog.funcNamed Rows.fnExactHeldByRow.func = some 8 := by kernel_rfl

theorem joined : joinedFacts Try.prog 8 Try.f8 Rows.fnExactHeldBySpec Rows.fnExactHeldByRow = true := by kernel_rfl

/-- The statement. -/
theorem proved : Rows.FnExactHeldBySaid :=
  OpenClaim.holds_of_wide 8 Try.f8 rfl rfl rfl rfl rfl rfl rfl ⟨rfl, rfl, rfl, rfl, rfl⟩ rfl rfl rfl rfl rfl fnamed Try.func8 joined
    (of_decide_eq_true (by kernel_rfl)) (by unfold Func.isWrapper; first | (rw [if_pos (by decide +kernel)]; kernel_rfl) | (rw [if_neg (by decide +kernel)]; exact ⟨rfl, rfl⟩))
    (fun os started H enc _ => lifted os started H enc)
#print axioms proved

end Go.Proofs.Ytlcfdfcfmmhdgaa.fnExactHeldBy
