/-
  Proved: at every argument the law FnExactNewLocks returns true, and its arguments read afterwards as they did.
-/
import Derived.Test.YtlcfdfcfmmhdgaaFrame
import Derived.Test.YtlcfdfcfmmhdgaaLkf
namespace Go.Proofs.Ytlcfdfcfmmhdgaa.fnExactNewLocks
open Go.ChangeShapes Go.WideShapes Go.ChangeAt Go.RowKit

theorem own : ownKnob Try.prog.godebug = none := by kernel_rfl
theorem laidOut : laidOutB Try.prog = true := by kernel_rfl

open Go.Proofs.Ytlcfdfcfmmhdgaa.Kep

set_option maxRecDepth 100000 in
set_option maxHeartbeats 4000000 in
theorem walk  (w : World)  :
    Calls Try.prog 4 #[] w fun e w' => e = .returned (.bool true) ∧ Below w.heap.size w w' := by
  have B0 : Hid (Below w.heap.size w w) := Below.refl _ _
  go_enter Try.func4, Try.ntmps4
  go_wp2_with fail
  refine (Lkf.spec_NewLocks _).mono ?_
  rintro e w1 ⟨ua1, un2, uc3, ua4, un5, uc6, ua7, un8, uc9, rfl, ho0, hb1⟩
  have O10 : Hid (SLocks.SOwn w1 (w.heap.size) (w1.heap.size) (.slice ua1 un2 uc3) (.slice ua4 un5 uc6) (.slice ua7 un8 uc9) Lkf.newD) := ho0
  have Z11 : Hid (w.heap.size ≤ w1.heap.size) := hb1.size
  have B12 : Hid (Below w.heap.size w w1) := Frame.next B0.out hb1 B0.out.size
  clear ho0 hb1
  have O13 : Hid (SLocks.SOwn (w1.alloc (.cells #[.slice ua1 un2 uc3, .slice ua4 un5 uc6, .slice ua7 un8 uc9] 26)) (w.heap.size) (w1.heap.size) (.slice ua1 un2 uc3) (.slice ua4 un5 uc6) (.slice ua7 un8 uc9) Lkf.newD) := SLocks.sOwn_below O10.out ((Below.refl w1.heap.size w1).alloc (Nat.le_refl _) (.cells #[.slice ua1 un2 uc3, .slice ua4 un5 uc6, .slice ua7 un8 uc9] 26))
  have B14 : Hid (Below w.heap.size w (w1.alloc (.cells #[.slice ua1 un2 uc3, .slice ua4 un5 uc6, .slice ua7 un8 uc9] 26))) := Frame.next B12.out ((Below.refl w1.heap.size w1).alloc (Nat.le_refl _) (.cells #[.slice ua1 un2 uc3, .slice ua4 un5 uc6, .slice ua7 un8 uc9] 26)) B12.out.size
  have K15 : Hid ((w1.alloc (.cells #[.slice ua1 un2 uc3, .slice ua4 un5 uc6, .slice ua7 un8 uc9] 26)).cell? ⟨w1.heap.size, 0, none⟩ = some (.slice ua1 un2 uc3) ∧ (w1.alloc (.cells #[.slice ua1 un2 uc3, .slice ua4 un5 uc6, .slice ua7 un8 uc9] 26)).cell? ⟨w1.heap.size, 1, none⟩ = some (.slice ua4 un5 uc6) ∧ (w1.alloc (.cells #[.slice ua1 un2 uc3, .slice ua4 un5 uc6, .slice ua7 un8 uc9] 26)).cell? ⟨w1.heap.size, 2, none⟩ = some (.slice ua7 un8 uc9)) := by
    show _ ∧ _ ∧ _
    refine ⟨?_, ?_, ?_⟩ <;> rw [World.cell?_alloc_at _ _ _ _ rfl] <;> rfl
  have E16 : Hid ((w1.alloc (.cells #[.slice ua1 un2 uc3, .slice ua4 un5 uc6, .slice ua7 un8 uc9] 26)).heap.size = w1.heap.size + 1) := by show _ = _; simp
  have cc26 : (w1.alloc (.cells #[.slice ua1 un2 uc3, .slice ua4 un5 uc6, .slice ua7 un8 uc9] 26)).cell? ⟨w1.heap.size, 0, none⟩ = some (.slice ua1 un2 uc3) := K15.out.1
  have cc27 : (w1.alloc (.cells #[.slice ua1 un2 uc3, .slice ua4 un5 uc6, .slice ua7 un8 uc9] 26)).cell? ⟨w1.heap.size, 1, none⟩ = some (.slice ua4 un5 uc6) := K15.out.2.1
  have cc28 : (w1.alloc (.cells #[.slice ua1 un2 uc3, .slice ua4 un5 uc6, .slice ua7 un8 uc9] 26)).cell? ⟨w1.heap.size, 2, none⟩ = some (.slice ua7 un8 uc9) := K15.out.2.2
  go_wp2_with fail
  refine (Lkf.impl_NewLocks _).mono ?_
  rintro e w2 ⟨ua17, un18, uc19, ua20, un21, uc22, ua23, un24, uc25, rfl, ho0, hb2⟩
  clear cc26 cc27 cc28
  have O29 : Hid (SLocks.SOwn w2 (w1.heap.size + 1) (w2.heap.size) (.slice ua17 un18 uc19) (.slice ua20 un21 uc22) (.slice ua23 un24 uc25) Lkf.newD) := (by have hh := ho0; rw [E16.out] at hh; exact hh)
  have Z30 : Hid (w1.heap.size + 1 ≤ w2.heap.size) := (by have hh := hb2.size; rw [E16.out] at hh; exact hh)
  have O31 : Hid (SLocks.SOwn w2 (w.heap.size) (w1.heap.size) (.slice ua1 un2 uc3) (.slice ua4 un5 uc6) (.slice ua7 un8 uc9) Lkf.newD) := SLocks.sOwn_below O13.out hb2
  have K32 : Hid (w2.cell? ⟨w1.heap.size, 0, none⟩ = some (.slice ua1 un2 uc3) ∧ w2.cell? ⟨w1.heap.size, 1, none⟩ = some (.slice ua4 un5 uc6) ∧ w2.cell? ⟨w1.heap.size, 2, none⟩ = some (.slice ua7 un8 uc9)) := ⟨(hb2.cell (p := ⟨w1.heap.size, 0, none⟩) (Frame.cell_lt K15.out.1)).trans K15.out.1, (hb2.cell (p := ⟨w1.heap.size, 1, none⟩) (Frame.cell_lt K15.out.2.1)).trans K15.out.2.1, (hb2.cell (p := ⟨w1.heap.size, 2, none⟩) (Frame.cell_lt K15.out.2.2)).trans K15.out.2.2⟩
  have B33 : Hid (Below w.heap.size w w2) := Frame.next B14.out hb2 B14.out.size
  clear ho0 hb2
  have O34 : Hid (SLocks.SOwn (w2.alloc (.cells #[.slice ua17 un18 uc19, .slice ua20 un21 uc22, .slice ua23 un24 uc25] 26)) (w.heap.size) (w1.heap.size) (.slice ua1 un2 uc3) (.slice ua4 un5 uc6) (.slice ua7 un8 uc9) Lkf.newD) := SLocks.sOwn_below O31.out ((Below.refl w2.heap.size w2).alloc (Nat.le_refl _) (.cells #[.slice ua17 un18 uc19, .slice ua20 un21 uc22, .slice ua23 un24 uc25] 26))
  have O35 : Hid (SLocks.SOwn (w2.alloc (.cells #[.slice ua17 un18 uc19, .slice ua20 un21 uc22, .slice ua23 un24 uc25] 26)) (w1.heap.size + 1) (w2.heap.size) (.slice ua17 un18 uc19) (.slice ua20 un21 uc22) (.slice ua23 un24 uc25) Lkf.newD) := SLocks.sOwn_below O29.out ((Below.refl w2.heap.size w2).alloc (Nat.le_refl _) (.cells #[.slice ua17 un18 uc19, .slice ua20 un21 uc22, .slice ua23 un24 uc25] 26))
  have K36 : Hid ((w2.alloc (.cells #[.slice ua17 un18 uc19, .slice ua20 un21 uc22, .slice ua23 un24 uc25] 26)).cell? ⟨w1.heap.size, 0, none⟩ = some (.slice ua1 un2 uc3) ∧ (w2.alloc (.cells #[.slice ua17 un18 uc19, .slice ua20 un21 uc22, .slice ua23 un24 uc25] 26)).cell? ⟨w1.heap.size, 1, none⟩ = some (.slice ua4 un5 uc6) ∧ (w2.alloc (.cells #[.slice ua17 un18 uc19, .slice ua20 un21 uc22, .slice ua23 un24 uc25] 26)).cell? ⟨w1.heap.size, 2, none⟩ = some (.slice ua7 un8 uc9)) := ⟨(((Below.refl w2.heap.size w2).alloc (Nat.le_refl _) (.cells #[.slice ua17 un18 uc19, .slice ua20 un21 uc22, .slice ua23 un24 uc25] 26)).cell (p := ⟨w1.heap.size, 0, none⟩) (Frame.cell_lt K32.out.1)).trans K32.out.1, (((Below.refl w2.heap.size w2).alloc (Nat.le_refl _) (.cells #[.slice ua17 un18 uc19, .slice ua20 un21 uc22, .slice ua23 un24 uc25] 26)).cell (p := ⟨w1.heap.size, 1, none⟩) (Frame.cell_lt K32.out.2.1)).trans K32.out.2.1, (((Below.refl w2.heap.size w2).alloc (Nat.le_refl _) (.cells #[.slice ua17 un18 uc19, .slice ua20 un21 uc22, .slice ua23 un24 uc25] 26)).cell (p := ⟨w1.heap.size, 2, none⟩) (Frame.cell_lt K32.out.2.2)).trans K32.out.2.2⟩
  have B37 : Hid (Below w.heap.size w (w2.alloc (.cells #[.slice ua17 un18 uc19, .slice ua20 un21 uc22, .slice ua23 un24 uc25] 26))) := Frame.next B33.out ((Below.refl w2.heap.size w2).alloc (Nat.le_refl _) (.cells #[.slice ua17 un18 uc19, .slice ua20 un21 uc22, .slice ua23 un24 uc25] 26)) B33.out.size
  have K38 : Hid ((w2.alloc (.cells #[.slice ua17 un18 uc19, .slice ua20 un21 uc22, .slice ua23 un24 uc25] 26)).cell? ⟨w2.heap.size, 0, none⟩ = some (.slice ua17 un18 uc19) ∧ (w2.alloc (.cells #[.slice ua17 un18 uc19, .slice ua20 un21 uc22, .slice ua23 un24 uc25] 26)).cell? ⟨w2.heap.size, 1, none⟩ = some (.slice ua20 un21 uc22) ∧ (w2.alloc (.cells #[.slice ua17 un18 uc19, .slice ua20 un21 uc22, .slice ua23 un24 uc25] 26)).cell? ⟨w2.heap.size, 2, none⟩ = some (.slice ua23 un24 uc25)) := by
    show _ ∧ _ ∧ _
    refine ⟨?_, ?_, ?_⟩ <;> rw [World.cell?_alloc_at _ _ _ _ rfl] <;> rfl
  have E39 : Hid ((w2.alloc (.cells #[.slice ua17 un18 uc19, .slice ua20 un21 uc22, .slice ua23 un24 uc25] 26)).heap.size = w2.heap.size + 1) := by show _ = _; simp
  have cc40 : (w2.alloc (.cells #[.slice ua17 un18 uc19, .slice ua20 un21 uc22, .slice ua23 un24 uc25] 26)).cell? ⟨w1.heap.size, 0, none⟩ = some (.slice ua1 un2 uc3) := K36.out.1
  have cc41 : (w2.alloc (.cells #[.slice ua17 un18 uc19, .slice ua20 un21 uc22, .slice ua23 un24 uc25] 26)).cell? ⟨w1.heap.size, 1, none⟩ = some (.slice ua4 un5 uc6) := K36.out.2.1
  have cc42 : (w2.alloc (.cells #[.slice ua17 un18 uc19, .slice ua20 un21 uc22, .slice ua23 un24 uc25] 26)).cell? ⟨w1.heap.size, 2, none⟩ = some (.slice ua7 un8 uc9) := K36.out.2.2
  have cc43 : (w2.alloc (.cells #[.slice ua17 un18 uc19, .slice ua20 un21 uc22, .slice ua23 un24 uc25] 26)).cell? ⟨w2.heap.size, 0, none⟩ = some (.slice ua17 un18 uc19) := K38.out.1
  have cc44 : (w2.alloc (.cells #[.slice ua17 un18 uc19, .slice ua20 un21 uc22, .slice ua23 un24 uc25] 26)).cell? ⟨w2.heap.size, 1, none⟩ = some (.slice ua20 un21 uc22) := K38.out.2.1
  have cc45 : (w2.alloc (.cells #[.slice ua17 un18 uc19, .slice ua20 un21 uc22, .slice ua23 un24 uc25] 26)).cell? ⟨w2.heap.size, 2, none⟩ = some (.slice ua23 un24 uc25) := K38.out.2.2
  go_wp2_with fail
  refine (SLocks.s_eq (.slice ua17 un18 uc19) (.slice ua20 un21 uc22) (.slice ua23 un24 uc25) (.slice ua1 un2 uc3) (.slice ua4 un5 uc6) (.slice ua7 un8 uc9) Lkf.newD Lkf.newD _ (SLocks.sOwn_is O35.out) (SLocks.sOwn_is O34.out)).mono ?_
  rintro e w3 ⟨rfl, hb3⟩
  clear cc40 cc41 cc42 cc43 cc44 cc45
  rw [decide_eq_true (Eq.refl (Lkf.newD))]
  have Z46 : Hid (w2.heap.size + 1 ≤ w3.heap.size) := (by have hh := hb3.size; rw [E39.out] at hh; exact hh)
  have O47 : Hid (SLocks.SOwn w3 (w.heap.size) (w1.heap.size) (.slice ua1 un2 uc3) (.slice ua4 un5 uc6) (.slice ua7 un8 uc9) Lkf.newD) := SLocks.sOwn_below O34.out hb3
  have O48 : Hid (SLocks.SOwn w3 (w1.heap.size + 1) (w2.heap.size) (.slice ua17 un18 uc19) (.slice ua20 un21 uc22) (.slice ua23 un24 uc25) Lkf.newD) := SLocks.sOwn_below O35.out hb3
  have K49 : Hid (w3.cell? ⟨w1.heap.size, 0, none⟩ = some (.slice ua1 un2 uc3) ∧ w3.cell? ⟨w1.heap.size, 1, none⟩ = some (.slice ua4 un5 uc6) ∧ w3.cell? ⟨w1.heap.size, 2, none⟩ = some (.slice ua7 un8 uc9)) := ⟨(hb3.cell (p := ⟨w1.heap.size, 0, none⟩) (Frame.cell_lt K36.out.1)).trans K36.out.1, (hb3.cell (p := ⟨w1.heap.size, 1, none⟩) (Frame.cell_lt K36.out.2.1)).trans K36.out.2.1, (hb3.cell (p := ⟨w1.heap.size, 2, none⟩) (Frame.cell_lt K36.out.2.2)).trans K36.out.2.2⟩
  have K50 : Hid (w3.cell? ⟨w2.heap.size, 0, none⟩ = some (.slice ua17 un18 uc19) ∧ w3.cell? ⟨w2.heap.size, 1, none⟩ = some (.slice ua20 un21 uc22) ∧ w3.cell? ⟨w2.heap.size, 2, none⟩ = some (.slice ua23 un24 uc25)) := ⟨(hb3.cell (p := ⟨w2.heap.size, 0, none⟩) (Frame.cell_lt K38.out.1)).trans K38.out.1, (hb3.cell (p := ⟨w2.heap.size, 1, none⟩) (Frame.cell_lt K38.out.2.1)).trans K38.out.2.1, (hb3.cell (p := ⟨w2.heap.size, 2, none⟩) (Frame.cell_lt K38.out.2.2)).trans K38.out.2.2⟩
  have B51 : Hid (Below w.heap.size w w3) := Frame.next B37.out hb3 B37.out.size
  clear hb3
  have cc53 : w3.cell? ⟨w1.heap.size, 0, none⟩ = some (.slice ua1 un2 uc3) := K49.out.1
  have cc54 : w3.cell? ⟨w1.heap.size, 1, none⟩ = some (.slice ua4 un5 uc6) := K49.out.2.1
  have cc55 : w3.cell? ⟨w1.heap.size, 2, none⟩ = some (.slice ua7 un8 uc9) := K49.out.2.2
  have cc56 : w3.cell? ⟨w2.heap.size, 0, none⟩ = some (.slice ua17 un18 uc19) := K50.out.1
  have cc57 : w3.cell? ⟨w2.heap.size, 1, none⟩ = some (.slice ua20 un21 uc22) := K50.out.2.1
  have cc58 : w3.cell? ⟨w2.heap.size, 2, none⟩ = some (.slice ua23 un24 uc25) := K50.out.2.2
  go_wp2_with fail
  refine (SLocks.s_mark (.slice ua17 un18 uc19) (.slice ua20 un21 uc22) (.slice ua23 un24 uc25) Lkf.newD _ _ 1 _ O48.out (by omega) (by omega)).mono ?_
  rintro e w4 ⟨nx52, rfl, hn0nx52, hn1nx52, hm, hb4⟩
  clear cc53 cc54 cc55 cc56 cc57 cc58
  have hznx52 : ¬ nx52 < 0 := by omega
  have O59 : Hid (SLocks.SMarked w4 (w1.heap.size + 1) (w2.heap.size) (.slice ua17 un18 uc19) (.slice ua20 un21 uc22) (.slice ua23 un24 uc25) 1 nx52) := hm
  have Z60 : Hid (w3.heap.size ≤ w4.heap.size) := hb4.size
  have O61 : Hid (SLocks.SOwn w4 (w.heap.size) (w1.heap.size) (.slice ua1 un2 uc3) (.slice ua4 un5 uc6) (.slice ua7 un8 uc9) Lkf.newD) := SLocks.sOwn_keeps O47.out hb4 (by have z0 := Z11.out; have z1 := Z30.out; have z2 := Z46.out; omega)
  have K62 : Hid (w4.cell? ⟨w1.heap.size, 0, none⟩ = some (.slice ua1 un2 uc3) ∧ w4.cell? ⟨w1.heap.size, 1, none⟩ = some (.slice ua4 un5 uc6) ∧ w4.cell? ⟨w1.heap.size, 2, none⟩ = some (.slice ua7 un8 uc9)) := ⟨Keeps.cell hb4 K49.out.1 (by have z0 := Z11.out; have z1 := Z30.out; have z2 := Z46.out; omega), Keeps.cell hb4 K49.out.2.1 (by have z0 := Z11.out; have z1 := Z30.out; have z2 := Z46.out; omega), Keeps.cell hb4 K49.out.2.2 (by have z0 := Z11.out; have z1 := Z30.out; have z2 := Z46.out; omega)⟩
  have K63 : Hid (w4.cell? ⟨w2.heap.size, 0, none⟩ = some (.slice ua17 un18 uc19) ∧ w4.cell? ⟨w2.heap.size, 1, none⟩ = some (.slice ua20 un21 uc22) ∧ w4.cell? ⟨w2.heap.size, 2, none⟩ = some (.slice ua23 un24 uc25)) := ⟨Keeps.cell hb4 K50.out.1 (by have z0 := Z11.out; have z1 := Z30.out; have z2 := Z46.out; omega), Keeps.cell hb4 K50.out.2.1 (by have z0 := Z11.out; have z1 := Z30.out; have z2 := Z46.out; omega), Keeps.cell hb4 K50.out.2.2 (by have z0 := Z11.out; have z1 := Z30.out; have z2 := Z46.out; omega)⟩
  have B64 : Hid (Below w.heap.size w w4) := Keeps.below B51.out hb4 (by have z0 := Z11.out; have z1 := Z30.out; have z2 := Z46.out; omega) B51.out.size
  clear hm hb4
  have cc65 : w4.cell? ⟨w1.heap.size, 0, none⟩ = some (.slice ua1 un2 uc3) := K62.out.1
  have cc66 : w4.cell? ⟨w1.heap.size, 1, none⟩ = some (.slice ua4 un5 uc6) := K62.out.2.1
  have cc67 : w4.cell? ⟨w1.heap.size, 2, none⟩ = some (.slice ua7 un8 uc9) := K62.out.2.2
  have cc68 : w4.cell? ⟨w2.heap.size, 0, none⟩ = some (.slice ua17 un18 uc19) := K63.out.1
  have cc69 : w4.cell? ⟨w2.heap.size, 1, none⟩ = some (.slice ua20 un21 uc22) := K63.out.2.1
  have cc70 : w4.cell? ⟨w2.heap.size, 2, none⟩ = some (.slice ua23 un24 uc25) := K63.out.2.2
  go_wp2_with fail
  refine (SLocks.s_held (.slice ua17 un18 uc19) (.slice ua20 un21 uc22) (.slice ua23 un24 uc25)  _ _ 1 nx52 _ O59.out).mono ?_
  rintro e w5 ⟨rfl, hb5⟩
  clear cc65 cc66 cc67 cc68 cc69 cc70
  have Z71 : Hid (w4.heap.size ≤ w5.heap.size) := hb5.size
  have O72 : Hid (SLocks.SOwn w5 (w.heap.size) (w1.heap.size) (.slice ua1 un2 uc3) (.slice ua4 un5 uc6) (.slice ua7 un8 uc9) Lkf.newD) := SLocks.sOwn_below O61.out hb5
  have O73 : Hid (SLocks.SMarked w5 (w1.heap.size + 1) (w2.heap.size) (.slice ua17 un18 uc19) (.slice ua20 un21 uc22) (.slice ua23 un24 uc25) 1 nx52) := SLocks.sMarked_below O59.out hb5
  have K74 : Hid (w5.cell? ⟨w1.heap.size, 0, none⟩ = some (.slice ua1 un2 uc3) ∧ w5.cell? ⟨w1.heap.size, 1, none⟩ = some (.slice ua4 un5 uc6) ∧ w5.cell? ⟨w1.heap.size, 2, none⟩ = some (.slice ua7 un8 uc9)) := ⟨(hb5.cell (p := ⟨w1.heap.size, 0, none⟩) (Frame.cell_lt K62.out.1)).trans K62.out.1, (hb5.cell (p := ⟨w1.heap.size, 1, none⟩) (Frame.cell_lt K62.out.2.1)).trans K62.out.2.1, (hb5.cell (p := ⟨w1.heap.size, 2, none⟩) (Frame.cell_lt K62.out.2.2)).trans K62.out.2.2⟩
  have K75 : Hid (w5.cell? ⟨w2.heap.size, 0, none⟩ = some (.slice ua17 un18 uc19) ∧ w5.cell? ⟨w2.heap.size, 1, none⟩ = some (.slice ua20 un21 uc22) ∧ w5.cell? ⟨w2.heap.size, 2, none⟩ = some (.slice ua23 un24 uc25)) := ⟨(hb5.cell (p := ⟨w2.heap.size, 0, none⟩) (Frame.cell_lt K63.out.1)).trans K63.out.1, (hb5.cell (p := ⟨w2.heap.size, 1, none⟩) (Frame.cell_lt K63.out.2.1)).trans K63.out.2.1, (hb5.cell (p := ⟨w2.heap.size, 2, none⟩) (Frame.cell_lt K63.out.2.2)).trans K63.out.2.2⟩
  have B76 : Hid (Below w.heap.size w w5) := Frame.next B64.out hb5 B64.out.size
  clear hb5
  have cc86 : w5.cell? ⟨w1.heap.size, 0, none⟩ = some (.slice ua1 un2 uc3) := K74.out.1
  have cc87 : w5.cell? ⟨w1.heap.size, 1, none⟩ = some (.slice ua4 un5 uc6) := K74.out.2.1
  have cc88 : w5.cell? ⟨w1.heap.size, 2, none⟩ = some (.slice ua7 un8 uc9) := K74.out.2.2
  have cc89 : w5.cell? ⟨w2.heap.size, 0, none⟩ = some (.slice ua17 un18 uc19) := K75.out.1
  have cc90 : w5.cell? ⟨w2.heap.size, 1, none⟩ = some (.slice ua20 un21 uc22) := K75.out.2.1
  have cc91 : w5.cell? ⟨w2.heap.size, 2, none⟩ = some (.slice ua23 un24 uc25) := K75.out.2.2
  go_wp2_with fail
  refine (Lkf.impl_NewLocks _).mono ?_
  rintro e w6 ⟨ua77, un78, uc79, ua80, un81, uc82, ua83, un84, uc85, rfl, ho0, hb6⟩
  clear cc86 cc87 cc88 cc89 cc90 cc91
  have O92 : Hid (SLocks.SOwn w6 (w5.heap.size) (w6.heap.size) (.slice ua77 un78 uc79) (.slice ua80 un81 uc82) (.slice ua83 un84 uc85) Lkf.newD) := ho0
  have Z93 : Hid (w5.heap.size ≤ w6.heap.size) := hb6.size
  have O94 : Hid (SLocks.SOwn w6 (w.heap.size) (w1.heap.size) (.slice ua1 un2 uc3) (.slice ua4 un5 uc6) (.slice ua7 un8 uc9) Lkf.newD) := SLocks.sOwn_below O72.out hb6
  have O95 : Hid (SLocks.SMarked w6 (w1.heap.size + 1) (w2.heap.size) (.slice ua17 un18 uc19) (.slice ua20 un21 uc22) (.slice ua23 un24 uc25) 1 nx52) := SLocks.sMarked_below O73.out hb6
  have K96 : Hid (w6.cell? ⟨w1.heap.size, 0, none⟩ = some (.slice ua1 un2 uc3) ∧ w6.cell? ⟨w1.heap.size, 1, none⟩ = some (.slice ua4 un5 uc6) ∧ w6.cell? ⟨w1.heap.size, 2, none⟩ = some (.slice ua7 un8 uc9)) := ⟨(hb6.cell (p := ⟨w1.heap.size, 0, none⟩) (Frame.cell_lt K74.out.1)).trans K74.out.1, (hb6.cell (p := ⟨w1.heap.size, 1, none⟩) (Frame.cell_lt K74.out.2.1)).trans K74.out.2.1, (hb6.cell (p := ⟨w1.heap.size, 2, none⟩) (Frame.cell_lt K74.out.2.2)).trans K74.out.2.2⟩
  have K97 : Hid (w6.cell? ⟨w2.heap.size, 0, none⟩ = some (.slice ua17 un18 uc19) ∧ w6.cell? ⟨w2.heap.size, 1, none⟩ = some (.slice ua20 un21 uc22) ∧ w6.cell? ⟨w2.heap.size, 2, none⟩ = some (.slice ua23 un24 uc25)) := ⟨(hb6.cell (p := ⟨w2.heap.size, 0, none⟩) (Frame.cell_lt K75.out.1)).trans K75.out.1, (hb6.cell (p := ⟨w2.heap.size, 1, none⟩) (Frame.cell_lt K75.out.2.1)).trans K75.out.2.1, (hb6.cell (p := ⟨w2.heap.size, 2, none⟩) (Frame.cell_lt K75.out.2.2)).trans K75.out.2.2⟩
  have B98 : Hid (Below w.heap.size w w6) := Frame.next B76.out hb6 B76.out.size
  clear ho0 hb6
  have O99 : Hid (SLocks.SOwn (w6.alloc (.cells #[.slice ua77 un78 uc79, .slice ua80 un81 uc82, .slice ua83 un84 uc85] 26)) (w.heap.size) (w1.heap.size) (.slice ua1 un2 uc3) (.slice ua4 un5 uc6) (.slice ua7 un8 uc9) Lkf.newD) := SLocks.sOwn_below O94.out ((Below.refl w6.heap.size w6).alloc (Nat.le_refl _) (.cells #[.slice ua77 un78 uc79, .slice ua80 un81 uc82, .slice ua83 un84 uc85] 26))
  have O100 : Hid (SLocks.SMarked (w6.alloc (.cells #[.slice ua77 un78 uc79, .slice ua80 un81 uc82, .slice ua83 un84 uc85] 26)) (w1.heap.size + 1) (w2.heap.size) (.slice ua17 un18 uc19) (.slice ua20 un21 uc22) (.slice ua23 un24 uc25) 1 nx52) := SLocks.sMarked_below O95.out ((Below.refl w6.heap.size w6).alloc (Nat.le_refl _) (.cells #[.slice ua77 un78 uc79, .slice ua80 un81 uc82, .slice ua83 un84 uc85] 26))
  have O101 : Hid (SLocks.SOwn (w6.alloc (.cells #[.slice ua77 un78 uc79, .slice ua80 un81 uc82, .slice ua83 un84 uc85] 26)) (w5.heap.size) (w6.heap.size) (.slice ua77 un78 uc79) (.slice ua80 un81 uc82) (.slice ua83 un84 uc85) Lkf.newD) := SLocks.sOwn_below O92.out ((Below.refl w6.heap.size w6).alloc (Nat.le_refl _) (.cells #[.slice ua77 un78 uc79, .slice ua80 un81 uc82, .slice ua83 un84 uc85] 26))
  have K102 : Hid ((w6.alloc (.cells #[.slice ua77 un78 uc79, .slice ua80 un81 uc82, .slice ua83 un84 uc85] 26)).cell? ⟨w1.heap.size, 0, none⟩ = some (.slice ua1 un2 uc3) ∧ (w6.alloc (.cells #[.slice ua77 un78 uc79, .slice ua80 un81 uc82, .slice ua83 un84 uc85] 26)).cell? ⟨w1.heap.size, 1, none⟩ = some (.slice ua4 un5 uc6) ∧ (w6.alloc (.cells #[.slice ua77 un78 uc79, .slice ua80 un81 uc82, .slice ua83 un84 uc85] 26)).cell? ⟨w1.heap.size, 2, none⟩ = some (.slice ua7 un8 uc9)) := ⟨(((Below.refl w6.heap.size w6).alloc (Nat.le_refl _) (.cells #[.slice ua77 un78 uc79, .slice ua80 un81 uc82, .slice ua83 un84 uc85] 26)).cell (p := ⟨w1.heap.size, 0, none⟩) (Frame.cell_lt K96.out.1)).trans K96.out.1, (((Below.refl w6.heap.size w6).alloc (Nat.le_refl _) (.cells #[.slice ua77 un78 uc79, .slice ua80 un81 uc82, .slice ua83 un84 uc85] 26)).cell (p := ⟨w1.heap.size, 1, none⟩) (Frame.cell_lt K96.out.2.1)).trans K96.out.2.1, (((Below.refl w6.heap.size w6).alloc (Nat.le_refl _) (.cells #[.slice ua77 un78 uc79, .slice ua80 un81 uc82, .slice ua83 un84 uc85] 26)).cell (p := ⟨w1.heap.size, 2, none⟩) (Frame.cell_lt K96.out.2.2)).trans K96.out.2.2⟩
  have K103 : Hid ((w6.alloc (.cells #[.slice ua77 un78 uc79, .slice ua80 un81 uc82, .slice ua83 un84 uc85] 26)).cell? ⟨w2.heap.size, 0, none⟩ = some (.slice ua17 un18 uc19) ∧ (w6.alloc (.cells #[.slice ua77 un78 uc79, .slice ua80 un81 uc82, .slice ua83 un84 uc85] 26)).cell? ⟨w2.heap.size, 1, none⟩ = some (.slice ua20 un21 uc22) ∧ (w6.alloc (.cells #[.slice ua77 un78 uc79, .slice ua80 un81 uc82, .slice ua83 un84 uc85] 26)).cell? ⟨w2.heap.size, 2, none⟩ = some (.slice ua23 un24 uc25)) := ⟨(((Below.refl w6.heap.size w6).alloc (Nat.le_refl _) (.cells #[.slice ua77 un78 uc79, .slice ua80 un81 uc82, .slice ua83 un84 uc85] 26)).cell (p := ⟨w2.heap.size, 0, none⟩) (Frame.cell_lt K97.out.1)).trans K97.out.1, (((Below.refl w6.heap.size w6).alloc (Nat.le_refl _) (.cells #[.slice ua77 un78 uc79, .slice ua80 un81 uc82, .slice ua83 un84 uc85] 26)).cell (p := ⟨w2.heap.size, 1, none⟩) (Frame.cell_lt K97.out.2.1)).trans K97.out.2.1, (((Below.refl w6.heap.size w6).alloc (Nat.le_refl _) (.cells #[.slice ua77 un78 uc79, .slice ua80 un81 uc82, .slice ua83 un84 uc85] 26)).cell (p := ⟨w2.heap.size, 2, none⟩) (Frame.cell_lt K97.out.2.2)).trans K97.out.2.2⟩
  have B104 : Hid (Below w.heap.size w (w6.alloc (.cells #[.slice ua77 un78 uc79, .slice ua80 un81 uc82, .slice ua83 un84 uc85] 26))) := Frame.next B98.out ((Below.refl w6.heap.size w6).alloc (Nat.le_refl _) (.cells #[.slice ua77 un78 uc79, .slice ua80 un81 uc82, .slice ua83 un84 uc85] 26)) B98.out.size
  have K105 : Hid ((w6.alloc (.cells #[.slice ua77 un78 uc79, .slice ua80 un81 uc82, .slice ua83 un84 uc85] 26)).cell? ⟨w6.heap.size, 0, none⟩ = some (.slice ua77 un78 uc79) ∧ (w6.alloc (.cells #[.slice ua77 un78 uc79, .slice ua80 un81 uc82, .slice ua83 un84 uc85] 26)).cell? ⟨w6.heap.size, 1, none⟩ = some (.slice ua80 un81 uc82) ∧ (w6.alloc (.cells #[.slice ua77 un78 uc79, .slice ua80 un81 uc82, .slice ua83 un84 uc85] 26)).cell? ⟨w6.heap.size, 2, none⟩ = some (.slice ua83 un84 uc85)) := by
    show _ ∧ _ ∧ _
    refine ⟨?_, ?_, ?_⟩ <;> rw [World.cell?_alloc_at _ _ _ _ rfl] <;> rfl
  have E106 : Hid ((w6.alloc (.cells #[.slice ua77 un78 uc79, .slice ua80 un81 uc82, .slice ua83 un84 uc85] 26)).heap.size = w6.heap.size + 1) := by show _ = _; simp
  have cc107 : (w6.alloc (.cells #[.slice ua77 un78 uc79, .slice ua80 un81 uc82, .slice ua83 un84 uc85] 26)).cell? ⟨w1.heap.size, 0, none⟩ = some (.slice ua1 un2 uc3) := K102.out.1
  have cc108 : (w6.alloc (.cells #[.slice ua77 un78 uc79, .slice ua80 un81 uc82, .slice ua83 un84 uc85] 26)).cell? ⟨w1.heap.size, 1, none⟩ = some (.slice ua4 un5 uc6) := K102.out.2.1
  have cc109 : (w6.alloc (.cells #[.slice ua77 un78 uc79, .slice ua80 un81 uc82, .slice ua83 un84 uc85] 26)).cell? ⟨w1.heap.size, 2, none⟩ = some (.slice ua7 un8 uc9) := K102.out.2.2
  have cc110 : (w6.alloc (.cells #[.slice ua77 un78 uc79, .slice ua80 un81 uc82, .slice ua83 un84 uc85] 26)).cell? ⟨w2.heap.size, 0, none⟩ = some (.slice ua17 un18 uc19) := K103.out.1
  have cc111 : (w6.alloc (.cells #[.slice ua77 un78 uc79, .slice ua80 un81 uc82, .slice ua83 un84 uc85] 26)).cell? ⟨w2.heap.size, 1, none⟩ = some (.slice ua20 un21 uc22) := K103.out.2.1
  have cc112 : (w6.alloc (.cells #[.slice ua77 un78 uc79, .slice ua80 un81 uc82, .slice ua83 un84 uc85] 26)).cell? ⟨w2.heap.size, 2, none⟩ = some (.slice ua23 un24 uc25) := K103.out.2.2
  have cc113 : (w6.alloc (.cells #[.slice ua77 un78 uc79, .slice ua80 un81 uc82, .slice ua83 un84 uc85] 26)).cell? ⟨w6.heap.size, 0, none⟩ = some (.slice ua77 un78 uc79) := K105.out.1
  have cc114 : (w6.alloc (.cells #[.slice ua77 un78 uc79, .slice ua80 un81 uc82, .slice ua83 un84 uc85] 26)).cell? ⟨w6.heap.size, 1, none⟩ = some (.slice ua80 un81 uc82) := K105.out.2.1
  have cc115 : (w6.alloc (.cells #[.slice ua77 un78 uc79, .slice ua80 un81 uc82, .slice ua83 un84 uc85] 26)).cell? ⟨w6.heap.size, 2, none⟩ = some (.slice ua83 un84 uc85) := K105.out.2.2
  go_wp2_with fail
  refine (SLocks.s_eq (.slice ua77 un78 uc79) (.slice ua80 un81 uc82) (.slice ua83 un84 uc85) (.slice ua1 un2 uc3) (.slice ua4 un5 uc6) (.slice ua7 un8 uc9) Lkf.newD Lkf.newD _ (SLocks.sOwn_is O101.out) (SLocks.sOwn_is O99.out)).mono ?_
  rintro e w7 ⟨rfl, hb7⟩
  clear cc107 cc108 cc109 cc110 cc111 cc112 cc113 cc114 cc115
  rw [decide_eq_true (Eq.refl (Lkf.newD))]
  have Z116 : Hid (w6.heap.size + 1 ≤ w7.heap.size) := (by have hh := hb7.size; rw [E106.out] at hh; exact hh)
  have O117 : Hid (SLocks.SOwn w7 (w.heap.size) (w1.heap.size) (.slice ua1 un2 uc3) (.slice ua4 un5 uc6) (.slice ua7 un8 uc9) Lkf.newD) := SLocks.sOwn_below O99.out hb7
  have O118 : Hid (SLocks.SMarked w7 (w1.heap.size + 1) (w2.heap.size) (.slice ua17 un18 uc19) (.slice ua20 un21 uc22) (.slice ua23 un24 uc25) 1 nx52) := SLocks.sMarked_below O100.out hb7
  have O119 : Hid (SLocks.SOwn w7 (w5.heap.size) (w6.heap.size) (.slice ua77 un78 uc79) (.slice ua80 un81 uc82) (.slice ua83 un84 uc85) Lkf.newD) := SLocks.sOwn_below O101.out hb7
  have K120 : Hid (w7.cell? ⟨w1.heap.size, 0, none⟩ = some (.slice ua1 un2 uc3) ∧ w7.cell? ⟨w1.heap.size, 1, none⟩ = some (.slice ua4 un5 uc6) ∧ w7.cell? ⟨w1.heap.size, 2, none⟩ = some (.slice ua7 un8 uc9)) := ⟨(hb7.cell (p := ⟨w1.heap.size, 0, none⟩) (Frame.cell_lt K102.out.1)).trans K102.out.1, (hb7.cell (p := ⟨w1.heap.size, 1, none⟩) (Frame.cell_lt K102.out.2.1)).trans K102.out.2.1, (hb7.cell (p := ⟨w1.heap.size, 2, none⟩) (Frame.cell_lt K102.out.2.2)).trans K102.out.2.2⟩
  have K121 : Hid (w7.cell? ⟨w2.heap.size, 0, none⟩ = some (.slice ua17 un18 uc19) ∧ w7.cell? ⟨w2.heap.size, 1, none⟩ = some (.slice ua20 un21 uc22) ∧ w7.cell? ⟨w2.heap.size, 2, none⟩ = some (.slice ua23 un24 uc25)) := ⟨(hb7.cell (p := ⟨w2.heap.size, 0, none⟩) (Frame.cell_lt K103.out.1)).trans K103.out.1, (hb7.cell (p := ⟨w2.heap.size, 1, none⟩) (Frame.cell_lt K103.out.2.1)).trans K103.out.2.1, (hb7.cell (p := ⟨w2.heap.size, 2, none⟩) (Frame.cell_lt K103.out.2.2)).trans K103.out.2.2⟩
  have K122 : Hid (w7.cell? ⟨w6.heap.size, 0, none⟩ = some (.slice ua77 un78 uc79) ∧ w7.cell? ⟨w6.heap.size, 1, none⟩ = some (.slice ua80 un81 uc82) ∧ w7.cell? ⟨w6.heap.size, 2, none⟩ = some (.slice ua83 un84 uc85)) := ⟨(hb7.cell (p := ⟨w6.heap.size, 0, none⟩) (Frame.cell_lt K105.out.1)).trans K105.out.1, (hb7.cell (p := ⟨w6.heap.size, 1, none⟩) (Frame.cell_lt K105.out.2.1)).trans K105.out.2.1, (hb7.cell (p := ⟨w6.heap.size, 2, none⟩) (Frame.cell_lt K105.out.2.2)).trans K105.out.2.2⟩
  have B123 : Hid (Below w.heap.size w w7) := Frame.next B104.out hb7 B104.out.size
  clear hb7
  have cc124 : w7.cell? ⟨w1.heap.size, 0, none⟩ = some (.slice ua1 un2 uc3) := K120.out.1
  have cc125 : w7.cell? ⟨w1.heap.size, 1, none⟩ = some (.slice ua4 un5 uc6) := K120.out.2.1
  have cc126 : w7.cell? ⟨w1.heap.size, 2, none⟩ = some (.slice ua7 un8 uc9) := K120.out.2.2
  have cc127 : w7.cell? ⟨w2.heap.size, 0, none⟩ = some (.slice ua17 un18 uc19) := K121.out.1
  have cc128 : w7.cell? ⟨w2.heap.size, 1, none⟩ = some (.slice ua20 un21 uc22) := K121.out.2.1
  have cc129 : w7.cell? ⟨w2.heap.size, 2, none⟩ = some (.slice ua23 un24 uc25) := K121.out.2.2
  have cc130 : w7.cell? ⟨w6.heap.size, 0, none⟩ = some (.slice ua77 un78 uc79) := K122.out.1
  have cc131 : w7.cell? ⟨w6.heap.size, 1, none⟩ = some (.slice ua80 un81 uc82) := K122.out.2.1
  have cc132 : w7.cell? ⟨w6.heap.size, 2, none⟩ = some (.slice ua83 un84 uc85) := K122.out.2.2
  go_wp2_with fail
  refine (SLocks.s_held (.slice ua17 un18 uc19) (.slice ua20 un21 uc22) (.slice ua23 un24 uc25)  _ _ 1 nx52 _ O118.out).mono ?_
  rintro e w8 ⟨rfl, hb8⟩
  clear cc124 cc125 cc126 cc127 cc128 cc129 cc130 cc131 cc132
  have Z133 : Hid (w7.heap.size ≤ w8.heap.size) := hb8.size
  have O134 : Hid (SLocks.SOwn w8 (w.heap.size) (w1.heap.size) (.slice ua1 un2 uc3) (.slice ua4 un5 uc6) (.slice ua7 un8 uc9) Lkf.newD) := SLocks.sOwn_below O117.out hb8
  have O135 : Hid (SLocks.SMarked w8 (w1.heap.size + 1) (w2.heap.size) (.slice ua17 un18 uc19) (.slice ua20 un21 uc22) (.slice ua23 un24 uc25) 1 nx52) := SLocks.sMarked_below O118.out hb8
  have O136 : Hid (SLocks.SOwn w8 (w5.heap.size) (w6.heap.size) (.slice ua77 un78 uc79) (.slice ua80 un81 uc82) (.slice ua83 un84 uc85) Lkf.newD) := SLocks.sOwn_below O119.out hb8
  have K137 : Hid (w8.cell? ⟨w1.heap.size, 0, none⟩ = some (.slice ua1 un2 uc3) ∧ w8.cell? ⟨w1.heap.size, 1, none⟩ = some (.slice ua4 un5 uc6) ∧ w8.cell? ⟨w1.heap.size, 2, none⟩ = some (.slice ua7 un8 uc9)) := ⟨(hb8.cell (p := ⟨w1.heap.size, 0, none⟩) (Frame.cell_lt K120.out.1)).trans K120.out.1, (hb8.cell (p := ⟨w1.heap.size, 1, none⟩) (Frame.cell_lt K120.out.2.1)).trans K120.out.2.1, (hb8.cell (p := ⟨w1.heap.size, 2, none⟩) (Frame.cell_lt K120.out.2.2)).trans K120.out.2.2⟩
  have K138 : Hid (w8.cell? ⟨w2.heap.size, 0, none⟩ = some (.slice ua17 un18 uc19) ∧ w8.cell? ⟨w2.heap.size, 1, none⟩ = some (.slice ua20 un21 uc22) ∧ w8.cell? ⟨w2.heap.size, 2, none⟩ = some (.slice ua23 un24 uc25)) := ⟨(hb8.cell (p := ⟨w2.heap.size, 0, none⟩) (Frame.cell_lt K121.out.1)).trans K121.out.1, (hb8.cell (p := ⟨w2.heap.size, 1, none⟩) (Frame.cell_lt K121.out.2.1)).trans K121.out.2.1, (hb8.cell (p := ⟨w2.heap.size, 2, none⟩) (Frame.cell_lt K121.out.2.2)).trans K121.out.2.2⟩
  have K139 : Hid (w8.cell? ⟨w6.heap.size, 0, none⟩ = some (.slice ua77 un78 uc79) ∧ w8.cell? ⟨w6.heap.size, 1, none⟩ = some (.slice ua80 un81 uc82) ∧ w8.cell? ⟨w6.heap.size, 2, none⟩ = some (.slice ua83 un84 uc85)) := ⟨(hb8.cell (p := ⟨w6.heap.size, 0, none⟩) (Frame.cell_lt K122.out.1)).trans K122.out.1, (hb8.cell (p := ⟨w6.heap.size, 1, none⟩) (Frame.cell_lt K122.out.2.1)).trans K122.out.2.1, (hb8.cell (p := ⟨w6.heap.size, 2, none⟩) (Frame.cell_lt K122.out.2.2)).trans K122.out.2.2⟩
  have B140 : Hid (Below w.heap.size w w8) := Frame.next B123.out hb8 B123.out.size
  clear hb8
  go_wp2
  go_ret
  exact ⟨rfl, B140.out⟩

set_option maxRecDepth 100000 in
theorem contract (H : Type) (enc : TypeId × Value → H) (W : World) (base : Nat) (args : Array Value) (ds gs : List (DataW H)) (before : List MemPlace)
    (hval0 : ∀ (j : Nat) t v, Try.f4.params[j]? = some t → args[j]? = some v → Value.okWide Try.prog W .any base t v)
    (hW : DataW.Whole enc Try.prog Try.f4.params.toList Rows.fnExactNewLocksSpec.vars false W args.toList ds gs before) :
    Calls Try.prog 4 args W fun e W' => ∃ v, e = .returned v ∧ Rows.fnExactNewLocksSpec.post enc Try.prog Try.f4 false true false false W args v W' := by
  refine Frame.law_calls (tb := 4) laidOut (by kernel_rfl) (by kernel_rfl) (by kernel_rfl) Try.underlying4 hW (fun ds gs h1 h2 => ?_) ?_
  · rw [Try.params4] at h1
    match ds, gs, h1, h2 with
    | [], [], _, _ => rfl
  · obtain ⟨p, q, hA0, _, _, _, _⟩ := hW
    have hval : ∀ (j : Nat) t v, Try.f4.params[j]? = some t → args[j]? = some v → Value.okWide Try.prog W .any base t v := hval0
    have hA : DataW.TrodAll enc Try.prog W 0 (fun _ => true) true Try.f4.params.toList args.toList ds p := hA0
    rw [Try.params4] at hA hval
    obtain ⟨hargs, rfl, rfl⟩ := trodAll_nil hA
    obtain rfl : args = #[] := by cases args; simp_all
    exact walk  W 

set_option maxRecDepth 100000 in
theorem lifted (os : Os) (started : os.Started) (H : Type) (enc : TypeId × Value → H) :
    ReturnsInHanded {} Try.checked os 4 .any (Rows.fnExactNewLocksSpec.pre6 enc Try.prog Try.f4 Rows.fnExactNewLocksRow.domain false) (Rows.fnExactNewLocksSpec.post enc Try.prog Try.f4 false true false false) := by
  refine returnsInHanded_of_change (C := Try.checked) own started (by kernel_rfl) Try.func4
    (ChangeSpec.witness6 (enc := enc) (C := Try.checked) false ⟨#[], #[], []⟩ 8 (by kernel_rfl) (by kernel_rfl) (by kernel_rfl) (by kernel_rfl)) ?_
  intro W base args ds gs before hval hW _ _
  exact contract H enc W base args ds gs before hval hW

theorem fnamed : Try.prog.funcNamed Rows.fnExactNewLocksRow.func = some 4 := by kernel_rfl

theorem joined : joinedFacts Try.prog 4 Try.f4 Rows.fnExactNewLocksSpec Rows.fnExactNewLocksRow = true := by kernel_rfl

/-- The statement. -/
theorem proved : Rows.FnExactNewLocksSaid :=
  OpenClaim.holds_of_wide 4 Try.f4 rfl rfl rfl rfl rfl rfl rfl ⟨rfl, rfl, rfl, rfl, rfl⟩ rfl rfl rfl rfl rfl fnamed Try.func4 joined
    (of_decide_eq_true (by kernel_rfl)) (by unfold Func.isWrapper; first | (rw [if_pos (by decide +kernel)]; kernel_rfl) | (rw [if_neg (by decide +kernel)]; exact ⟨rfl, rfl⟩))
    (fun os started H enc _ => lifted os started H enc)
#print axioms proved

end Go.Proofs.Ytlcfdfcfmmhdgaa.fnExactNewLocks
