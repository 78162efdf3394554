/-
  Proved: at every argument the law FnExactSplitBy returns true, and its arguments read afterwards as they did.
-/
import Derived.Test.YtfekaladfifgoaaFrame
import Derived.Test.YtfekaladfifgoaaLsd
import Derived.Test.YtfekaladfifgoaaLse
import Derived.Test.YtfekaladfifgoaaOpd
namespace Go.Proofs.Ytfekaladfifgoaa.fnExactSplitBy
open Go.ChangeShapes Go.WideShapes Go.ChangeAt Go.RowKit

theorem own : ownKnob Try.prog.godebug = none := by kernel_rfl
theorem laidOut : laidOutB Try.prog = true := by kernel_rfl

open Go.Proofs.Ytfekaladfifgoaa.Kep

set_option maxRecDepth 100000 in
set_option maxHeartbeats 4000000 in
theorem walk (i0 : Int) (a1 : Option Addr) (n1 c1 : Nat) (zs1 : List Int) (ua2 : Option Addr) (un2 uc2 : Nat) (ns2 : List Int) (ta2 : Option Addr) (tn2 tc2 : Nat) (ms2 : List Int) (w : World) (hf0 : (Lit.int .i64 i0).wf = true) (h1 : Frame.IsRow .i64 w a1 n1 c1 zs1) (hu2 : Frame.IsRow .i64 w ua2 un2 uc2 ns2) (ht2 : Frame.IsRow .i64 w ta2 tn2 tc2 ms2) :
    Calls Try.prog 12 #[.int .i64 i0, .slice a1 n1 c1, .agg #[.slice ua2 un2 uc2, .slice ta2 tn2 tc2]] w fun e w' => e = .returned (.bool true) ∧ Below w.heap.size w w' := by
  have HWF0 : Hid ((Lit.int .i64 i0).wf = true) := hf0
  clear hf0
  have HR1 : Hid (Frame.IsRow .i64 w a1 n1 c1 zs1) := h1
  have hmx1 : n1 ≤ 9223372036854775807 := by have := h1.fits; have := h1.max; unfold maxLen at *; omega
  clear h1
  have HU2 : Hid (Frame.IsRow .i64 w ua2 un2 uc2 ns2) := hu2
  have HT2 : Hid (Frame.IsRow .i64 w ta2 tn2 tc2 ms2) := ht2
  clear hu2 ht2
  have B0 : Hid (Below w.heap.size w w) := Below.refl _ _
  have B1 : Hid (Below w.heap.size w (w.alloc (.cells #[.slice ua2 un2 uc2, .slice ta2 tn2 tc2] 80))) := B0.out.alloc (by simp; try omega) _
  have K2 : Hid ((w.alloc (.cells #[.slice ua2 un2 uc2, .slice ta2 tn2 tc2] 80)).cell? ⟨w.heap.size, 0, none⟩ = some (.slice ua2 un2 uc2) ∧ (w.alloc (.cells #[.slice ua2 un2 uc2, .slice ta2 tn2 tc2] 80)).cell? ⟨w.heap.size, 1, none⟩ = some (.slice ta2 tn2 tc2)) := by
    show _ ∧ _
    refine ⟨?_, ?_⟩ <;> rw [World.cell?_alloc_at _ _ _ _ (by simp)] <;> rfl
  have E3 : Hid ((w.alloc (.cells #[.slice ua2 un2 uc2, .slice ta2 tn2 tc2] 80)).heap.size = w.heap.size + 1) := by show _ = _; simp
  go_enter Try.func12, Try.ntmps12
  by_cases hN1 : 1048576 < n1
  · have hNI1 : (1048576 : Int) < (n1 : Int) := by omega
    go_wp2
    go_ret
    exact ⟨rfl, B1.out⟩
  · have A1 : Hid (Kep.IIs w (.slice a1 n1 c1) zs1) := ⟨_, _, _, rfl, HR1.out, by omega⟩
    have hNJ1 : ¬ (1048576 : Int) < (n1 : Int) := by omega
    have cc4 : (w.alloc (.cells #[.slice ua2 un2 uc2, .slice ta2 tn2 tc2] 80)).cell? ⟨w.heap.size, 0, none⟩ = some (.slice ua2 un2 uc2) := K2.out.1
    have cc5 : (w.alloc (.cells #[.slice ua2 un2 uc2, .slice ta2 tn2 tc2] 80)).cell? ⟨w.heap.size, 1, none⟩ = some (.slice ta2 tn2 tc2) := K2.out.2
    go_wp2_with fail
    refine (Dls.e_sz ua2 ta2 un2 uc2 tn2 tc2 1048576 _ (Nat.le_trans HU2.out.fits HU2.out.max) (Nat.le_trans HT2.out.fits HT2.out.max) (by omega) (by omega)).mono ?_
    rintro e w1 ⟨rfl, hb1⟩
    clear cc4 cc5
    have Z6 : Hid (w.heap.size + 1 ≤ w1.heap.size) := (by have hh := hb1.size; rw [E3.out] at hh; exact hh)
    have K7 : Hid (w1.cell? ⟨w.heap.size, 0, none⟩ = some (.slice ua2 un2 uc2) ∧ w1.cell? ⟨w.heap.size, 1, none⟩ = some (.slice ta2 tn2 tc2)) := ⟨(hb1.cell (p := ⟨w.heap.size, 0, none⟩) (Frame.cell_lt K2.out.1)).trans K2.out.1, (hb1.cell (p := ⟨w.heap.size, 1, none⟩) (Frame.cell_lt K2.out.2)).trans K2.out.2⟩
    have B8 : Hid (Below w.heap.size w w1) := Frame.next B1.out hb1 B1.out.size
    clear hb1
    by_cases hL1 : Lls.left 1048576 ((un2 : Int) + (tn2 : Int)) < 0
    · go_wp2
      go_ret
      exact ⟨rfl, B8.out⟩
    · have ht2 : un2 ≤ 1048576 ∧ tn2 ≤ 1048576 := by unfold Lls.left at hL1; split at hL1 <;> omega
      have A2 : Hid (Dls.EIs w (.slice ua2 un2 uc2) (.slice ta2 tn2 tc2) (ns2, ms2)) := ⟨⟨_, _, _, rfl, HU2.out, ht2.1⟩, ⟨_, _, _, rfl, HT2.out, ht2.2⟩⟩
      have hB1 : Lls.left 1048576 ((un2 : Int) + (tn2 : Int)) ≤ 1048576 := Krl.left_le _ _ (by omega) (by omega)
      clear ht2
      generalize hG1 : Lls.left 1048576 ((un2 : Int) + (tn2 : Int)) = L9 at hL1 hB1 ⊢
      clear hG1
      go_wp2_with fail
      have K10 : Hid ((w1.drew).cell? ⟨w.heap.size, 0, none⟩ = some (.slice ua2 un2 uc2) ∧ (w1.drew).cell? ⟨w.heap.size, 1, none⟩ = some (.slice ta2 tn2 tc2)) := ⟨(((Below.refl _ _).drew : Below w1.heap.size w1 w1.drew).cell (p := ⟨w.heap.size, 0, none⟩) (Frame.cell_lt K7.out.1)).trans K7.out.1, (((Below.refl _ _).drew : Below w1.heap.size w1 w1.drew).cell (p := ⟨w.heap.size, 1, none⟩) (Frame.cell_lt K7.out.2)).trans K7.out.2⟩
      have B11 : Hid (Below w.heap.size w w1.drew) := Frame.next B8.out ((Below.refl _ _).drew : Below w1.heap.size w1 w1.drew) B8.out.size
      have E12 : Hid (w1.drew.heap.size = w1.heap.size) := rfl
      have S13 : Hid ((w1.drew).cell? ⟨w.heap.size, 0, none⟩ = some (.slice ua2 un2 uc2) ∧ (w1.drew).cell? ⟨w.heap.size, 1, none⟩ = some (.slice ta2 tn2 tc2)) := ⟨K10.out.1, K10.out.2⟩
      go_region_held3 (fun w' => (w').cell? ⟨w.heap.size, 0, none⟩ = some (.slice ua2 un2 uc2) ∧ (w').cell? ⟨w.heap.size, 1, none⟩ = some (.slice ta2 tn2 tc2)) (first | exact S13.out | exact S19.out | exact S32.out | exact S44.out) (first | (go_at_call 73; refine (Kep.i_to (.slice a1 n1 c1) zs1 _ (Kep.iIs_below A1.out B11.out)).mono ?_; rintro e w2 ⟨u14, rfl, ho, hb2⟩; have O15 : Hid (Kep.IOwn w2 (w1.heap.size) (w2.heap.size) u14 zs1) := (by have hh := ho; rw [E12.out] at hh; exact hh); have Z16 : Hid (w1.heap.size ≤ w2.heap.size) := (by have hh := hb2.size; rw [E12.out] at hh; exact hh); have K17 : Hid (w2.cell? ⟨w.heap.size, 0, none⟩ = some (.slice ua2 un2 uc2) ∧ w2.cell? ⟨w.heap.size, 1, none⟩ = some (.slice ta2 tn2 tc2)) := ⟨(hb2.cell (p := ⟨w.heap.size, 0, none⟩) (Frame.cell_lt K10.out.1)).trans K10.out.1, (hb2.cell (p := ⟨w.heap.size, 1, none⟩) (Frame.cell_lt K10.out.2)).trans K10.out.2⟩; have B18 : Hid (Below w.heap.size w w2) := Frame.next B11.out hb2 B11.out.size; clear ho hb2; have S19 : Hid (w2.cell? ⟨w.heap.size, 0, none⟩ = some (.slice ua2 un2 uc2) ∧ w2.cell? ⟨w.heap.size, 1, none⟩ = some (.slice ta2 tn2 tc2)) := ⟨K17.out.1, K17.out.2⟩) | (go_at_call 65; refine (Dls.e_to (.slice ua2 un2 uc2) (.slice ta2 tn2 tc2) (ns2, ms2) _ (Dls.eIs_below A2.out B18.out)).mono ?_; rintro e w3 ⟨ua21, un22, uc23, ta24, tn25, tc26, rfl, ho, hb3⟩; have O27 : Hid (Dls.EOwn w3 (w2.heap.size) (w3.heap.size) (.slice ua21 un22 uc23) (.slice ta24 tn25 tc26) (ns2, ms2)) := ho; have Z28 : Hid (w2.heap.size ≤ w3.heap.size) := hb3.size; have O29 : Hid (Kep.IOwn w3 (w1.heap.size) (w2.heap.size) u14 zs1) := Kep.iOwn_below O15.out hb3; have K30 : Hid (w3.cell? ⟨w.heap.size, 0, none⟩ = some (.slice ua2 un2 uc2) ∧ w3.cell? ⟨w.heap.size, 1, none⟩ = some (.slice ta2 tn2 tc2)) := ⟨(hb3.cell (p := ⟨w.heap.size, 0, none⟩) (Frame.cell_lt K17.out.1)).trans K17.out.1, (hb3.cell (p := ⟨w.heap.size, 1, none⟩) (Frame.cell_lt K17.out.2)).trans K17.out.2⟩; have B31 : Hid (Below w.heap.size w w3) := Frame.next B18.out hb3 B18.out.size; clear ho hb3; have S32 : Hid (w3.cell? ⟨w.heap.size, 0, none⟩ = some (.slice ua2 un2 uc2) ∧ w3.cell? ⟨w.heap.size, 1, none⟩ = some (.slice ta2 tn2 tc2)) := ⟨K30.out.1, K30.out.2⟩) | (go_at_call 47; refine (Lsd.spec_SplitBy i0 u14 (.slice ua21 un22 uc23) (.slice ta24 tn25 tc26) zs1 (ns2, ms2) _ (Kep.iOwn_is O29.out) (Dls.eOwn_is O27.out)).mono ?_; rintro e w4 ⟨u34, u35, md36, rfl, hm0, hm1, ho0, ho1, hb4⟩; have O37 : Hid (Kep.IOwn w4 (w3.heap.size) (md36) u34 (Spx.splA i0 zs1 (ns2, ms2))) := ho0; have O38 : Hid (Kep.IOwn w4 (md36) (w4.heap.size) u35 (Spx.splB i0 zs1 (ns2, ms2))) := ho1; have Z39 : Hid (w3.heap.size ≤ md36) := hm0; have Z40 : Hid (md36 ≤ w4.heap.size) := hm1; clear hm0 hm1; have Z41 : Hid (w3.heap.size ≤ w4.heap.size) := hb4.size; have K42 : Hid (w4.cell? ⟨w.heap.size, 0, none⟩ = some (.slice ua2 un2 uc2) ∧ w4.cell? ⟨w.heap.size, 1, none⟩ = some (.slice ta2 tn2 tc2)) := ⟨(hb4.cell (p := ⟨w.heap.size, 0, none⟩) (Frame.cell_lt K30.out.1)).trans K30.out.1, (hb4.cell (p := ⟨w.heap.size, 1, none⟩) (Frame.cell_lt K30.out.2)).trans K30.out.2⟩; have B43 : Hid (Below w.heap.size w w4) := Frame.next B31.out hb4 B31.out.size; clear ho0 ho1 hb4; have S44 : Hid (w4.cell? ⟨w.heap.size, 0, none⟩ = some (.slice ua2 un2 uc2) ∧ w4.cell? ⟨w.heap.size, 1, none⟩ = some (.slice ta2 tn2 tc2)) := ⟨K42.out.1, K42.out.2⟩))
      have cc46 : w4.cell? ⟨w.heap.size, 0, none⟩ = some (.slice ua2 un2 uc2) := K42.out.1
      have cc47 : w4.cell? ⟨w.heap.size, 1, none⟩ = some (.slice ta2 tn2 tc2) := K42.out.2
      go_wp2_with fail
      refine (Kep.i_to (.slice a1 n1 c1) zs1 _ (Kep.iIs_below A1.out B43.out)).mono ?_
      rintro e w5 ⟨u45, rfl, ho, hb5⟩
      clear cc46 cc47
      have O48 : Hid (Kep.IOwn w5 (w4.heap.size) (w5.heap.size) u45 zs1) := ho
      have Z49 : Hid (w4.heap.size ≤ w5.heap.size) := hb5.size
      have O50 : Hid (Kep.IOwn w5 (w3.heap.size) (md36) u34 (Spx.splA i0 zs1 (ns2, ms2))) := Kep.iOwn_below O37.out hb5
      have O51 : Hid (Kep.IOwn w5 (md36) (w4.heap.size) u35 (Spx.splB i0 zs1 (ns2, ms2))) := Kep.iOwn_below O38.out hb5
      have K52 : Hid (w5.cell? ⟨w.heap.size, 0, none⟩ = some (.slice ua2 un2 uc2) ∧ w5.cell? ⟨w.heap.size, 1, none⟩ = some (.slice ta2 tn2 tc2)) := ⟨(hb5.cell (p := ⟨w.heap.size, 0, none⟩) (Frame.cell_lt K42.out.1)).trans K42.out.1, (hb5.cell (p := ⟨w.heap.size, 1, none⟩) (Frame.cell_lt K42.out.2)).trans K42.out.2⟩
      have B53 : Hid (Below w.heap.size w w5) := Frame.next B43.out hb5 B43.out.size
      clear ho hb5
      have cc61 : w5.cell? ⟨w.heap.size, 0, none⟩ = some (.slice ua2 un2 uc2) := K52.out.1
      have cc62 : w5.cell? ⟨w.heap.size, 1, none⟩ = some (.slice ta2 tn2 tc2) := K52.out.2
      go_wp2_with fail
      refine (Dls.e_to (.slice ua2 un2 uc2) (.slice ta2 tn2 tc2) (ns2, ms2) _ (Dls.eIs_below A2.out B53.out)).mono ?_
      rintro e w6 ⟨ua55, un56, uc57, ta58, tn59, tc60, rfl, ho, hb6⟩
      clear cc61 cc62
      have O63 : Hid (Dls.EOwn w6 (w5.heap.size) (w6.heap.size) (.slice ua55 un56 uc57) (.slice ta58 tn59 tc60) (ns2, ms2)) := ho
      have Z64 : Hid (w5.heap.size ≤ w6.heap.size) := hb6.size
      have O65 : Hid (Kep.IOwn w6 (w3.heap.size) (md36) u34 (Spx.splA i0 zs1 (ns2, ms2))) := Kep.iOwn_below O50.out hb6
      have O66 : Hid (Kep.IOwn w6 (md36) (w4.heap.size) u35 (Spx.splB i0 zs1 (ns2, ms2))) := Kep.iOwn_below O51.out hb6
      have O67 : Hid (Kep.IOwn w6 (w4.heap.size) (w5.heap.size) u45 zs1) := Kep.iOwn_below O48.out hb6
      have K68 : Hid (w6.cell? ⟨w.heap.size, 0, none⟩ = some (.slice ua2 un2 uc2) ∧ w6.cell? ⟨w.heap.size, 1, none⟩ = some (.slice ta2 tn2 tc2)) := ⟨(hb6.cell (p := ⟨w.heap.size, 0, none⟩) (Frame.cell_lt K52.out.1)).trans K52.out.1, (hb6.cell (p := ⟨w.heap.size, 1, none⟩) (Frame.cell_lt K52.out.2)).trans K52.out.2⟩
      have B69 : Hid (Below w.heap.size w w6) := Frame.next B53.out hb6 B53.out.size
      clear ho hb6
      have O71 : Hid (Kep.IOwn (w6.alloc (.cells #[.slice ua55 un56 uc57, .slice ta58 tn59 tc60] 26)) (w3.heap.size) (md36) u34 (Spx.splA i0 zs1 (ns2, ms2))) := Kep.iOwn_below O65.out ((Below.refl w6.heap.size w6).alloc (Nat.le_refl _) (.cells #[.slice ua55 un56 uc57, .slice ta58 tn59 tc60] 26))
      have O72 : Hid (Kep.IOwn (w6.alloc (.cells #[.slice ua55 un56 uc57, .slice ta58 tn59 tc60] 26)) (md36) (w4.heap.size) u35 (Spx.splB i0 zs1 (ns2, ms2))) := Kep.iOwn_below O66.out ((Below.refl w6.heap.size w6).alloc (Nat.le_refl _) (.cells #[.slice ua55 un56 uc57, .slice ta58 tn59 tc60] 26))
      have O73 : Hid (Kep.IOwn (w6.alloc (.cells #[.slice ua55 un56 uc57, .slice ta58 tn59 tc60] 26)) (w4.heap.size) (w5.heap.size) u45 zs1) := Kep.iOwn_below O67.out ((Below.refl w6.heap.size w6).alloc (Nat.le_refl _) (.cells #[.slice ua55 un56 uc57, .slice ta58 tn59 tc60] 26))
      have O74 : Hid (Dls.EOwn (w6.alloc (.cells #[.slice ua55 un56 uc57, .slice ta58 tn59 tc60] 26)) (w5.heap.size) (w6.heap.size) (.slice ua55 un56 uc57) (.slice ta58 tn59 tc60) (ns2, ms2)) := Dls.eOwn_below O63.out ((Below.refl w6.heap.size w6).alloc (Nat.le_refl _) (.cells #[.slice ua55 un56 uc57, .slice ta58 tn59 tc60] 26))
      have K75 : Hid ((w6.alloc (.cells #[.slice ua55 un56 uc57, .slice ta58 tn59 tc60] 26)).cell? ⟨w.heap.size, 0, none⟩ = some (.slice ua2 un2 uc2) ∧ (w6.alloc (.cells #[.slice ua55 un56 uc57, .slice ta58 tn59 tc60] 26)).cell? ⟨w.heap.size, 1, none⟩ = some (.slice ta2 tn2 tc2)) := ⟨(((Below.refl w6.heap.size w6).alloc (Nat.le_refl _) (.cells #[.slice ua55 un56 uc57, .slice ta58 tn59 tc60] 26)).cell (p := ⟨w.heap.size, 0, none⟩) (Frame.cell_lt K68.out.1)).trans K68.out.1, (((Below.refl w6.heap.size w6).alloc (Nat.le_refl _) (.cells #[.slice ua55 un56 uc57, .slice ta58 tn59 tc60] 26)).cell (p := ⟨w.heap.size, 1, none⟩) (Frame.cell_lt K68.out.2)).trans K68.out.2⟩
      have B76 : Hid (Below w.heap.size w (w6.alloc (.cells #[.slice ua55 un56 uc57, .slice ta58 tn59 tc60] 26))) := Frame.next B69.out ((Below.refl w6.heap.size w6).alloc (Nat.le_refl _) (.cells #[.slice ua55 un56 uc57, .slice ta58 tn59 tc60] 26)) B69.out.size
      have K77 : Hid ((w6.alloc (.cells #[.slice ua55 un56 uc57, .slice ta58 tn59 tc60] 26)).cell? ⟨w6.heap.size, 0, none⟩ = some (.slice ua55 un56 uc57) ∧ (w6.alloc (.cells #[.slice ua55 un56 uc57, .slice ta58 tn59 tc60] 26)).cell? ⟨w6.heap.size, 1, none⟩ = some (.slice ta58 tn59 tc60)) := by
        show _ ∧ _
        refine ⟨?_, ?_⟩ <;> rw [World.cell?_alloc_at _ _ _ _ rfl] <;> rfl
      have E78 : Hid ((w6.alloc (.cells #[.slice ua55 un56 uc57, .slice ta58 tn59 tc60] 26)).heap.size = w6.heap.size + 1) := by show _ = _; simp
      have cc82 : (w6.alloc (.cells #[.slice ua55 un56 uc57, .slice ta58 tn59 tc60] 26)).cell? ⟨w.heap.size, 0, none⟩ = some (.slice ua2 un2 uc2) := K75.out.1
      have cc83 : (w6.alloc (.cells #[.slice ua55 un56 uc57, .slice ta58 tn59 tc60] 26)).cell? ⟨w.heap.size, 1, none⟩ = some (.slice ta2 tn2 tc2) := K75.out.2
      have cc84 : (w6.alloc (.cells #[.slice ua55 un56 uc57, .slice ta58 tn59 tc60] 26)).cell? ⟨w6.heap.size, 0, none⟩ = some (.slice ua55 un56 uc57) := K77.out.1
      have cc85 : (w6.alloc (.cells #[.slice ua55 un56 uc57, .slice ta58 tn59 tc60] 26)).cell? ⟨w6.heap.size, 1, none⟩ = some (.slice ta58 tn59 tc60) := K77.out.2
      go_wp2_with fail
      refine (Lse.impl_SplitBy i0 u45 (.slice ua55 un56 uc57) (.slice ta58 tn59 tc60) zs1 (ns2, ms2) _ (Kep.iOwn_is O73.out) (Dls.eOwn_is O74.out)).mono ?_
      rintro e w7 ⟨u79, u80, md81, rfl, hm0, hm1, ho0, ho1, hb7⟩
      clear cc82 cc83 cc84 cc85
      have O86 : Hid (Kep.IOwn w7 (w6.heap.size + 1) (md81) u79 (Spx.splA i0 zs1 (ns2, ms2))) := (by have hh := ho0; rw [E78.out] at hh; exact hh)
      have O87 : Hid (Kep.IOwn w7 (md81) (w7.heap.size) u80 (Spx.splB i0 zs1 (ns2, ms2))) := ho1
      have Z88 : Hid (w6.heap.size + 1 ≤ md81) := (by have hh := hm0; rw [E78.out] at hh; exact hh)
      have Z89 : Hid (md81 ≤ w7.heap.size) := hm1
      clear hm0 hm1
      have Z90 : Hid (w6.heap.size + 1 ≤ w7.heap.size) := (by have hh := hb7.size; rw [E78.out] at hh; exact hh)
      have O91 : Hid (Kep.IOwn w7 (w3.heap.size) (md36) u34 (Spx.splA i0 zs1 (ns2, ms2))) := Kep.iOwn_below O71.out hb7
      have O92 : Hid (Kep.IOwn w7 (md36) (w4.heap.size) u35 (Spx.splB i0 zs1 (ns2, ms2))) := Kep.iOwn_below O72.out hb7
      have O93 : Hid (Kep.IOwn w7 (w4.heap.size) (w5.heap.size) u45 zs1) := Kep.iOwn_below O73.out hb7
      have O94 : Hid (Dls.EOwn w7 (w5.heap.size) (w6.heap.size) (.slice ua55 un56 uc57) (.slice ta58 tn59 tc60) (ns2, ms2)) := Dls.eOwn_below O74.out hb7
      have K95 : Hid (w7.cell? ⟨w.heap.size, 0, none⟩ = some (.slice ua2 un2 uc2) ∧ w7.cell? ⟨w.heap.size, 1, none⟩ = some (.slice ta2 tn2 tc2)) := ⟨(hb7.cell (p := ⟨w.heap.size, 0, none⟩) (Frame.cell_lt K75.out.1)).trans K75.out.1, (hb7.cell (p := ⟨w.heap.size, 1, none⟩) (Frame.cell_lt K75.out.2)).trans K75.out.2⟩
      have K96 : Hid (w7.cell? ⟨w6.heap.size, 0, none⟩ = some (.slice ua55 un56 uc57) ∧ w7.cell? ⟨w6.heap.size, 1, none⟩ = some (.slice ta58 tn59 tc60)) := ⟨(hb7.cell (p := ⟨w6.heap.size, 0, none⟩) (Frame.cell_lt K77.out.1)).trans K77.out.1, (hb7.cell (p := ⟨w6.heap.size, 1, none⟩) (Frame.cell_lt K77.out.2)).trans K77.out.2⟩
      have B97 : Hid (Below w.heap.size w w7) := Frame.next B76.out hb7 B76.out.size
      clear ho0 ho1 hb7
      have cc98 : w7.cell? ⟨w.heap.size, 0, none⟩ = some (.slice ua2 un2 uc2) := K95.out.1
      have cc99 : w7.cell? ⟨w.heap.size, 1, none⟩ = some (.slice ta2 tn2 tc2) := K95.out.2
      have cc100 : w7.cell? ⟨w6.heap.size, 0, none⟩ = some (.slice ua55 un56 uc57) := K96.out.1
      have cc101 : w7.cell? ⟨w6.heap.size, 1, none⟩ = some (.slice ta58 tn59 tc60) := K96.out.2
      go_wp2_with fail
      refine (Kep.i_eq u79 u34 (Spx.splA i0 zs1 (ns2, ms2)) (Spx.splA i0 zs1 (ns2, ms2)) _ (Kep.iOwn_is O86.out) (Kep.iOwn_is O91.out)).mono ?_
      rintro e w8 ⟨rfl, hb8⟩
      clear cc98 cc99 cc100 cc101
      rw [decide_eq_true (Eq.refl ((Spx.splA i0 zs1 (ns2, ms2))))]
      have Z102 : Hid (w7.heap.size ≤ w8.heap.size) := hb8.size
      have O103 : Hid (Kep.IOwn w8 (w3.heap.size) (md36) u34 (Spx.splA i0 zs1 (ns2, ms2))) := Kep.iOwn_below O91.out hb8
      have O104 : Hid (Kep.IOwn w8 (md36) (w4.heap.size) u35 (Spx.splB i0 zs1 (ns2, ms2))) := Kep.iOwn_below O92.out hb8
      have O105 : Hid (Kep.IOwn w8 (w4.heap.size) (w5.heap.size) u45 zs1) := Kep.iOwn_below O93.out hb8
      have O106 : Hid (Dls.EOwn w8 (w5.heap.size) (w6.heap.size) (.slice ua55 un56 uc57) (.slice ta58 tn59 tc60) (ns2, ms2)) := Dls.eOwn_below O94.out hb8
      have O107 : Hid (Kep.IOwn w8 (w6.heap.size + 1) (md81) u79 (Spx.splA i0 zs1 (ns2, ms2))) := Kep.iOwn_below O86.out hb8
      have O108 : Hid (Kep.IOwn w8 (md81) (w7.heap.size) u80 (Spx.splB i0 zs1 (ns2, ms2))) := Kep.iOwn_below O87.out hb8
      have K109 : Hid (w8.cell? ⟨w.heap.size, 0, none⟩ = some (.slice ua2 un2 uc2) ∧ w8.cell? ⟨w.heap.size, 1, none⟩ = some (.slice ta2 tn2 tc2)) := ⟨(hb8.cell (p := ⟨w.heap.size, 0, none⟩) (Frame.cell_lt K95.out.1)).trans K95.out.1, (hb8.cell (p := ⟨w.heap.size, 1, none⟩) (Frame.cell_lt K95.out.2)).trans K95.out.2⟩
      have K110 : Hid (w8.cell? ⟨w6.heap.size, 0, none⟩ = some (.slice ua55 un56 uc57) ∧ w8.cell? ⟨w6.heap.size, 1, none⟩ = some (.slice ta58 tn59 tc60)) := ⟨(hb8.cell (p := ⟨w6.heap.size, 0, none⟩) (Frame.cell_lt K96.out.1)).trans K96.out.1, (hb8.cell (p := ⟨w6.heap.size, 1, none⟩) (Frame.cell_lt K96.out.2)).trans K96.out.2⟩
      have B111 : Hid (Below w.heap.size w w8) := Frame.next B97.out hb8 B97.out.size
      clear hb8
      have cc112 : w8.cell? ⟨w.heap.size, 0, none⟩ = some (.slice ua2 un2 uc2) := K109.out.1
      have cc113 : w8.cell? ⟨w.heap.size, 1, none⟩ = some (.slice ta2 tn2 tc2) := K109.out.2
      have cc114 : w8.cell? ⟨w6.heap.size, 0, none⟩ = some (.slice ua55 un56 uc57) := K110.out.1
      have cc115 : w8.cell? ⟨w6.heap.size, 1, none⟩ = some (.slice ta58 tn59 tc60) := K110.out.2
      go_wp2_with fail
      refine (Kep.i_eq u80 u35 (Spx.splB i0 zs1 (ns2, ms2)) (Spx.splB i0 zs1 (ns2, ms2)) _ (Kep.iOwn_is O108.out) (Kep.iOwn_is O104.out)).mono ?_
      rintro e w9 ⟨rfl, hb9⟩
      clear cc112 cc113 cc114 cc115
      rw [decide_eq_true (Eq.refl ((Spx.splB i0 zs1 (ns2, ms2))))]
      have Z116 : Hid (w8.heap.size ≤ w9.heap.size) := hb9.size
      have O117 : Hid (Kep.IOwn w9 (w3.heap.size) (md36) u34 (Spx.splA i0 zs1 (ns2, ms2))) := Kep.iOwn_below O103.out hb9
      have O118 : Hid (Kep.IOwn w9 (md36) (w4.heap.size) u35 (Spx.splB i0 zs1 (ns2, ms2))) := Kep.iOwn_below O104.out hb9
      have O119 : Hid (Kep.IOwn w9 (w4.heap.size) (w5.heap.size) u45 zs1) := Kep.iOwn_below O105.out hb9
      have O120 : Hid (Dls.EOwn w9 (w5.heap.size) (w6.heap.size) (.slice ua55 un56 uc57) (.slice ta58 tn59 tc60) (ns2, ms2)) := Dls.eOwn_below O106.out hb9
      have O121 : Hid (Kep.IOwn w9 (w6.heap.size + 1) (md81) u79 (Spx.splA i0 zs1 (ns2, ms2))) := Kep.iOwn_below O107.out hb9
      have O122 : Hid (Kep.IOwn w9 (md81) (w7.heap.size) u80 (Spx.splB i0 zs1 (ns2, ms2))) := Kep.iOwn_below O108.out hb9
      have K123 : Hid (w9.cell? ⟨w.heap.size, 0, none⟩ = some (.slice ua2 un2 uc2) ∧ w9.cell? ⟨w.heap.size, 1, none⟩ = some (.slice ta2 tn2 tc2)) := ⟨(hb9.cell (p := ⟨w.heap.size, 0, none⟩) (Frame.cell_lt K109.out.1)).trans K109.out.1, (hb9.cell (p := ⟨w.heap.size, 1, none⟩) (Frame.cell_lt K109.out.2)).trans K109.out.2⟩
      have K124 : Hid (w9.cell? ⟨w6.heap.size, 0, none⟩ = some (.slice ua55 un56 uc57) ∧ w9.cell? ⟨w6.heap.size, 1, none⟩ = some (.slice ta58 tn59 tc60)) := ⟨(hb9.cell (p := ⟨w6.heap.size, 0, none⟩) (Frame.cell_lt K110.out.1)).trans K110.out.1, (hb9.cell (p := ⟨w6.heap.size, 1, none⟩) (Frame.cell_lt K110.out.2)).trans K110.out.2⟩
      have B125 : Hid (Below w.heap.size w w9) := Frame.next B111.out hb9 B111.out.size
      clear hb9
      have cc127 : w9.cell? ⟨w.heap.size, 0, none⟩ = some (.slice ua2 un2 uc2) := K123.out.1
      have cc128 : w9.cell? ⟨w.heap.size, 1, none⟩ = some (.slice ta2 tn2 tc2) := K123.out.2
      have cc129 : w9.cell? ⟨w6.heap.size, 0, none⟩ = some (.slice ua55 un56 uc57) := K124.out.1
      have cc130 : w9.cell? ⟨w6.heap.size, 1, none⟩ = some (.slice ta58 tn59 tc60) := K124.out.2
      go_wp2_with fail
      refine (Kep.i_to (.slice a1 n1 c1) zs1 _ (Kep.iIs_below A1.out B125.out)).mono ?_
      rintro e w10 ⟨u126, rfl, ho, hb10⟩
      clear cc127 cc128 cc129 cc130
      have O131 : Hid (Kep.IOwn w10 (w9.heap.size) (w10.heap.size) u126 zs1) := ho
      have Z132 : Hid (w9.heap.size ≤ w10.heap.size) := hb10.size
      have O133 : Hid (Kep.IOwn w10 (w3.heap.size) (md36) u34 (Spx.splA i0 zs1 (ns2, ms2))) := Kep.iOwn_below O117.out hb10
      have O134 : Hid (Kep.IOwn w10 (md36) (w4.heap.size) u35 (Spx.splB i0 zs1 (ns2, ms2))) := Kep.iOwn_below O118.out hb10
      have O135 : Hid (Kep.IOwn w10 (w4.heap.size) (w5.heap.size) u45 zs1) := Kep.iOwn_below O119.out hb10
      have O136 : Hid (Dls.EOwn w10 (w5.heap.size) (w6.heap.size) (.slice ua55 un56 uc57) (.slice ta58 tn59 tc60) (ns2, ms2)) := Dls.eOwn_below O120.out hb10
      have O137 : Hid (Kep.IOwn w10 (w6.heap.size + 1) (md81) u79 (Spx.splA i0 zs1 (ns2, ms2))) := Kep.iOwn_below O121.out hb10
      have O138 : Hid (Kep.IOwn w10 (md81) (w7.heap.size) u80 (Spx.splB i0 zs1 (ns2, ms2))) := Kep.iOwn_below O122.out hb10
      have K139 : Hid (w10.cell? ⟨w.heap.size, 0, none⟩ = some (.slice ua2 un2 uc2) ∧ w10.cell? ⟨w.heap.size, 1, none⟩ = some (.slice ta2 tn2 tc2)) := ⟨(hb10.cell (p := ⟨w.heap.size, 0, none⟩) (Frame.cell_lt K123.out.1)).trans K123.out.1, (hb10.cell (p := ⟨w.heap.size, 1, none⟩) (Frame.cell_lt K123.out.2)).trans K123.out.2⟩
      have K140 : Hid (w10.cell? ⟨w6.heap.size, 0, none⟩ = some (.slice ua55 un56 uc57) ∧ w10.cell? ⟨w6.heap.size, 1, none⟩ = some (.slice ta58 tn59 tc60)) := ⟨(hb10.cell (p := ⟨w6.heap.size, 0, none⟩) (Frame.cell_lt K124.out.1)).trans K124.out.1, (hb10.cell (p := ⟨w6.heap.size, 1, none⟩) (Frame.cell_lt K124.out.2)).trans K124.out.2⟩
      have B141 : Hid (Below w.heap.size w w10) := Frame.next B125.out hb10 B125.out.size
      clear ho hb10
      have cc143 : w10.cell? ⟨w.heap.size, 0, none⟩ = some (.slice ua2 un2 uc2) := K139.out.1
      have cc144 : w10.cell? ⟨w.heap.size, 1, none⟩ = some (.slice ta2 tn2 tc2) := K139.out.2
      have cc145 : w10.cell? ⟨w6.heap.size, 0, none⟩ = some (.slice ua55 un56 uc57) := K140.out.1
      have cc146 : w10.cell? ⟨w6.heap.size, 1, none⟩ = some (.slice ta58 tn59 tc60) := K140.out.2
      go_wp2_with fail
      refine (Kep.i_eq u45 u126 zs1 zs1 _ (Kep.iOwn_is O135.out) (Kep.iOwn_is O131.out)).mono ?_
      rintro e w11 ⟨rfl, hb11⟩
      clear cc143 cc144 cc145 cc146
      rw [decide_eq_true (Eq.refl (zs1))]
      have Z147 : Hid (w10.heap.size ≤ w11.heap.size) := hb11.size
      have O148 : Hid (Kep.IOwn w11 (w3.heap.size) (md36) u34 (Spx.splA i0 zs1 (ns2, ms2))) := Kep.iOwn_below O133.out hb11
      have O149 : Hid (Kep.IOwn w11 (md36) (w4.heap.size) u35 (Spx.splB i0 zs1 (ns2, ms2))) := Kep.iOwn_below O134.out hb11
      have O150 : Hid (Kep.IOwn w11 (w4.heap.size) (w5.heap.size) u45 zs1) := Kep.iOwn_below O135.out hb11
      have O151 : Hid (Dls.EOwn w11 (w5.heap.size) (w6.heap.size) (.slice ua55 un56 uc57) (.slice ta58 tn59 tc60) (ns2, ms2)) := Dls.eOwn_below O136.out hb11
      have O152 : Hid (Kep.IOwn w11 (w6.heap.size + 1) (md81) u79 (Spx.splA i0 zs1 (ns2, ms2))) := Kep.iOwn_below O137.out hb11
      have O153 : Hid (Kep.IOwn w11 (md81) (w7.heap.size) u80 (Spx.splB i0 zs1 (ns2, ms2))) := Kep.iOwn_below O138.out hb11
      have O154 : Hid (Kep.IOwn w11 (w9.heap.size) (w10.heap.size) u126 zs1) := Kep.iOwn_below O131.out hb11
      have K155 : Hid (w11.cell? ⟨w.heap.size, 0, none⟩ = some (.slice ua2 un2 uc2) ∧ w11.cell? ⟨w.heap.size, 1, none⟩ = some (.slice ta2 tn2 tc2)) := ⟨(hb11.cell (p := ⟨w.heap.size, 0, none⟩) (Frame.cell_lt K139.out.1)).trans K139.out.1, (hb11.cell (p := ⟨w.heap.size, 1, none⟩) (Frame.cell_lt K139.out.2)).trans K139.out.2⟩
      have K156 : Hid (w11.cell? ⟨w6.heap.size, 0, none⟩ = some (.slice ua55 un56 uc57) ∧ w11.cell? ⟨w6.heap.size, 1, none⟩ = some (.slice ta58 tn59 tc60)) := ⟨(hb11.cell (p := ⟨w6.heap.size, 0, none⟩) (Frame.cell_lt K140.out.1)).trans K140.out.1, (hb11.cell (p := ⟨w6.heap.size, 1, none⟩) (Frame.cell_lt K140.out.2)).trans K140.out.2⟩
      have B157 : Hid (Below w.heap.size w w11) := Frame.next B141.out hb11 B141.out.size
      clear hb11
      go_wp2_with fail
      have O158 : Hid (Kep.IOwn w11.drew (w3.heap.size) (md36) u34 (Spx.splA i0 zs1 (ns2, ms2))) := Kep.iOwn_below O148.out ((Below.refl _ _).drew : Below w11.heap.size w11 w11.drew)
      have O159 : Hid (Kep.IOwn w11.drew (md36) (w4.heap.size) u35 (Spx.splB i0 zs1 (ns2, ms2))) := Kep.iOwn_below O149.out ((Below.refl _ _).drew : Below w11.heap.size w11 w11.drew)
      have O160 : Hid (Kep.IOwn w11.drew (w4.heap.size) (w5.heap.size) u45 zs1) := Kep.iOwn_below O150.out ((Below.refl _ _).drew : Below w11.heap.size w11 w11.drew)
      have O161 : Hid (Dls.EOwn w11.drew (w5.heap.size) (w6.heap.size) (.slice ua55 un56 uc57) (.slice ta58 tn59 tc60) (ns2, ms2)) := Dls.eOwn_below O151.out ((Below.refl _ _).drew : Below w11.heap.size w11 w11.drew)
      have O162 : Hid (Kep.IOwn w11.drew (w6.heap.size + 1) (md81) u79 (Spx.splA i0 zs1 (ns2, ms2))) := Kep.iOwn_below O152.out ((Below.refl _ _).drew : Below w11.heap.size w11 w11.drew)
      have O163 : Hid (Kep.IOwn w11.drew (md81) (w7.heap.size) u80 (Spx.splB i0 zs1 (ns2, ms2))) := Kep.iOwn_below O153.out ((Below.refl _ _).drew : Below w11.heap.size w11 w11.drew)
      have K164 : Hid ((w11.drew).cell? ⟨w.heap.size, 0, none⟩ = some (.slice ua2 un2 uc2) ∧ (w11.drew).cell? ⟨w.heap.size, 1, none⟩ = some (.slice ta2 tn2 tc2)) := ⟨(((Below.refl _ _).drew : Below w11.heap.size w11 w11.drew).cell (p := ⟨w.heap.size, 0, none⟩) (Frame.cell_lt K155.out.1)).trans K155.out.1, (((Below.refl _ _).drew : Below w11.heap.size w11 w11.drew).cell (p := ⟨w.heap.size, 1, none⟩) (Frame.cell_lt K155.out.2)).trans K155.out.2⟩
      have K165 : Hid ((w11.drew).cell? ⟨w6.heap.size, 0, none⟩ = some (.slice ua55 un56 uc57) ∧ (w11.drew).cell? ⟨w6.heap.size, 1, none⟩ = some (.slice ta58 tn59 tc60)) := ⟨(((Below.refl _ _).drew : Below w11.heap.size w11 w11.drew).cell (p := ⟨w6.heap.size, 0, none⟩) (Frame.cell_lt K156.out.1)).trans K156.out.1, (((Below.refl _ _).drew : Below w11.heap.size w11 w11.drew).cell (p := ⟨w6.heap.size, 1, none⟩) (Frame.cell_lt K156.out.2)).trans K156.out.2⟩
      have B166 : Hid (Below w.heap.size w w11.drew) := Frame.next B157.out ((Below.refl _ _).drew : Below w11.heap.size w11 w11.drew) B157.out.size
      have E167 : Hid (w11.drew.heap.size = w11.heap.size) := rfl
      have S168 : Hid ((w11.drew).cell? ⟨w.heap.size, 0, none⟩ = some (.slice ua2 un2 uc2) ∧ (w11.drew).cell? ⟨w.heap.size, 1, none⟩ = some (.slice ta2 tn2 tc2) ∧ (w11.drew).cell? ⟨w6.heap.size, 0, none⟩ = some (.slice ua55 un56 uc57) ∧ (w11.drew).cell? ⟨w6.heap.size, 1, none⟩ = some (.slice ta58 tn59 tc60)) := ⟨K164.out.1, K164.out.2, K165.out.1, K165.out.2⟩
      go_region_held3 (fun w' => (w').cell? ⟨w.heap.size, 0, none⟩ = some (.slice ua2 un2 uc2) ∧ (w').cell? ⟨w.heap.size, 1, none⟩ = some (.slice ta2 tn2 tc2) ∧ (w').cell? ⟨w6.heap.size, 0, none⟩ = some (.slice ua55 un56 uc57) ∧ (w').cell? ⟨w6.heap.size, 1, none⟩ = some (.slice ta58 tn59 tc60)) (first | exact S168.out | exact S186.out | exact S199.out) (first | (go_at_call 65; refine (Dls.e_to (.slice ua2 un2 uc2) (.slice ta2 tn2 tc2) (ns2, ms2) _ (Dls.eIs_below A2.out B166.out)).mono ?_; rintro e w12 ⟨ua169, un170, uc171, ta172, tn173, tc174, rfl, ho, hb12⟩; have O175 : Hid (Dls.EOwn w12 (w11.heap.size) (w12.heap.size) (.slice ua169 un170 uc171) (.slice ta172 tn173 tc174) (ns2, ms2)) := (by have hh := ho; rw [E167.out] at hh; exact hh); have Z176 : Hid (w11.heap.size ≤ w12.heap.size) := (by have hh := hb12.size; rw [E167.out] at hh; exact hh); have O177 : Hid (Kep.IOwn w12 (w3.heap.size) (md36) u34 (Spx.splA i0 zs1 (ns2, ms2))) := Kep.iOwn_below O158.out hb12; have O178 : Hid (Kep.IOwn w12 (md36) (w4.heap.size) u35 (Spx.splB i0 zs1 (ns2, ms2))) := Kep.iOwn_below O159.out hb12; have O179 : Hid (Kep.IOwn w12 (w4.heap.size) (w5.heap.size) u45 zs1) := Kep.iOwn_below O160.out hb12; have O180 : Hid (Dls.EOwn w12 (w5.heap.size) (w6.heap.size) (.slice ua55 un56 uc57) (.slice ta58 tn59 tc60) (ns2, ms2)) := Dls.eOwn_below O161.out hb12; have O181 : Hid (Kep.IOwn w12 (w6.heap.size + 1) (md81) u79 (Spx.splA i0 zs1 (ns2, ms2))) := Kep.iOwn_below O162.out hb12; have O182 : Hid (Kep.IOwn w12 (md81) (w7.heap.size) u80 (Spx.splB i0 zs1 (ns2, ms2))) := Kep.iOwn_below O163.out hb12; have K183 : Hid (w12.cell? ⟨w.heap.size, 0, none⟩ = some (.slice ua2 un2 uc2) ∧ w12.cell? ⟨w.heap.size, 1, none⟩ = some (.slice ta2 tn2 tc2)) := ⟨(hb12.cell (p := ⟨w.heap.size, 0, none⟩) (Frame.cell_lt K164.out.1)).trans K164.out.1, (hb12.cell (p := ⟨w.heap.size, 1, none⟩) (Frame.cell_lt K164.out.2)).trans K164.out.2⟩; have K184 : Hid (w12.cell? ⟨w6.heap.size, 0, none⟩ = some (.slice ua55 un56 uc57) ∧ w12.cell? ⟨w6.heap.size, 1, none⟩ = some (.slice ta58 tn59 tc60)) := ⟨(hb12.cell (p := ⟨w6.heap.size, 0, none⟩) (Frame.cell_lt K165.out.1)).trans K165.out.1, (hb12.cell (p := ⟨w6.heap.size, 1, none⟩) (Frame.cell_lt K165.out.2)).trans K165.out.2⟩; have B185 : Hid (Below w.heap.size w w12) := Frame.next B166.out hb12 B166.out.size; clear ho hb12; have S186 : Hid (w12.cell? ⟨w.heap.size, 0, none⟩ = some (.slice ua2 un2 uc2) ∧ w12.cell? ⟨w.heap.size, 1, none⟩ = some (.slice ta2 tn2 tc2) ∧ w12.cell? ⟨w6.heap.size, 0, none⟩ = some (.slice ua55 un56 uc57) ∧ w12.cell? ⟨w6.heap.size, 1, none⟩ = some (.slice ta58 tn59 tc60)) := ⟨K183.out.1, K183.out.2, K184.out.1, K184.out.2⟩) | (go_at_call 67; refine (Dls.e_eq (.slice ua55 un56 uc57) (.slice ta58 tn59 tc60) (.slice ua169 un170 uc171) (.slice ta172 tn173 tc174) (ns2, ms2) (ns2, ms2) _ (Dls.eOwn_is O180.out) (Dls.eOwn_is O175.out)).mono ?_; rintro e w13 ⟨rfl, hb13⟩; rw [decide_eq_true (Eq.refl ((ns2, ms2)))]; have Z188 : Hid (w12.heap.size ≤ w13.heap.size) := hb13.size; have O189 : Hid (Kep.IOwn w13 (w3.heap.size) (md36) u34 (Spx.splA i0 zs1 (ns2, ms2))) := Kep.iOwn_below O177.out hb13; have O190 : Hid (Kep.IOwn w13 (md36) (w4.heap.size) u35 (Spx.splB i0 zs1 (ns2, ms2))) := Kep.iOwn_below O178.out hb13; have O191 : Hid (Kep.IOwn w13 (w4.heap.size) (w5.heap.size) u45 zs1) := Kep.iOwn_below O179.out hb13; have O192 : Hid (Dls.EOwn w13 (w5.heap.size) (w6.heap.size) (.slice ua55 un56 uc57) (.slice ta58 tn59 tc60) (ns2, ms2)) := Dls.eOwn_below O180.out hb13; have O193 : Hid (Kep.IOwn w13 (w6.heap.size + 1) (md81) u79 (Spx.splA i0 zs1 (ns2, ms2))) := Kep.iOwn_below O181.out hb13; have O194 : Hid (Kep.IOwn w13 (md81) (w7.heap.size) u80 (Spx.splB i0 zs1 (ns2, ms2))) := Kep.iOwn_below O182.out hb13; have O195 : Hid (Dls.EOwn w13 (w11.heap.size) (w12.heap.size) (.slice ua169 un170 uc171) (.slice ta172 tn173 tc174) (ns2, ms2)) := Dls.eOwn_below O175.out hb13; have K196 : Hid (w13.cell? ⟨w.heap.size, 0, none⟩ = some (.slice ua2 un2 uc2) ∧ w13.cell? ⟨w.heap.size, 1, none⟩ = some (.slice ta2 tn2 tc2)) := ⟨(hb13.cell (p := ⟨w.heap.size, 0, none⟩) (Frame.cell_lt K183.out.1)).trans K183.out.1, (hb13.cell (p := ⟨w.heap.size, 1, none⟩) (Frame.cell_lt K183.out.2)).trans K183.out.2⟩; have K197 : Hid (w13.cell? ⟨w6.heap.size, 0, none⟩ = some (.slice ua55 un56 uc57) ∧ w13.cell? ⟨w6.heap.size, 1, none⟩ = some (.slice ta58 tn59 tc60)) := ⟨(hb13.cell (p := ⟨w6.heap.size, 0, none⟩) (Frame.cell_lt K184.out.1)).trans K184.out.1, (hb13.cell (p := ⟨w6.heap.size, 1, none⟩) (Frame.cell_lt K184.out.2)).trans K184.out.2⟩; have B198 : Hid (Below w.heap.size w w13) := Frame.next B185.out hb13 B185.out.size; clear hb13; have S199 : Hid (w13.cell? ⟨w.heap.size, 0, none⟩ = some (.slice ua2 un2 uc2) ∧ w13.cell? ⟨w.heap.size, 1, none⟩ = some (.slice ta2 tn2 tc2) ∧ w13.cell? ⟨w6.heap.size, 0, none⟩ = some (.slice ua55 un56 uc57) ∧ w13.cell? ⟨w6.heap.size, 1, none⟩ = some (.slice ta58 tn59 tc60)) := ⟨K196.out.1, K196.out.2, K197.out.1, K197.out.2⟩))
      have cc201 : w13.cell? ⟨w.heap.size, 0, none⟩ = some (.slice ua2 un2 uc2) := K196.out.1
      have cc202 : w13.cell? ⟨w.heap.size, 1, none⟩ = some (.slice ta2 tn2 tc2) := K196.out.2
      have cc203 : w13.cell? ⟨w6.heap.size, 0, none⟩ = some (.slice ua55 un56 uc57) := K197.out.1
      have cc204 : w13.cell? ⟨w6.heap.size, 1, none⟩ = some (.slice ta58 tn59 tc60) := K197.out.2
      go_wp2_with fail
      refine (Kep.i_mark u45 zs1 _ _ 1 _ O191.out (by omega) (by omega)).mono ?_
      rintro e w14 ⟨nx200, rfl, hn0nx200, hn1nx200, hm, hb14⟩
      clear cc201 cc202 cc203 cc204
      have hznx200 : ¬ nx200 < 0 := by omega
      have O205 : Hid (Kep.IMarked w14 (w4.heap.size) (w5.heap.size) u45 1 nx200) := hm
      have Z206 : Hid (w13.heap.size ≤ w14.heap.size) := hb14.size
      have O207 : Hid (Kep.IOwn w14 (w3.heap.size) (md36) u34 (Spx.splA i0 zs1 (ns2, ms2))) := Kep.iOwn_keeps O189.out hb14 (by have z0 := Z6.out; have z1 := Z16.out; have z2 := Z28.out; have z3 := Z39.out; have z4 := Z40.out; have z5 := Z41.out; have z6 := Z49.out; have z7 := Z64.out; have z8 := Z88.out; have z9 := Z89.out; have z10 := Z90.out; have z11 := Z102.out; have z12 := Z116.out; have z13 := Z132.out; have z14 := Z147.out; have z15 := Z176.out; have z16 := Z188.out; omega)
      have O208 : Hid (Kep.IOwn w14 (md36) (w4.heap.size) u35 (Spx.splB i0 zs1 (ns2, ms2))) := Kep.iOwn_keeps O190.out hb14 (by have z0 := Z6.out; have z1 := Z16.out; have z2 := Z28.out; have z3 := Z39.out; have z4 := Z40.out; have z5 := Z41.out; have z6 := Z49.out; have z7 := Z64.out; have z8 := Z88.out; have z9 := Z89.out; have z10 := Z90.out; have z11 := Z102.out; have z12 := Z116.out; have z13 := Z132.out; have z14 := Z147.out; have z15 := Z176.out; have z16 := Z188.out; omega)
      have O209 : Hid (Dls.EOwn w14 (w5.heap.size) (w6.heap.size) (.slice ua55 un56 uc57) (.slice ta58 tn59 tc60) (ns2, ms2)) := Dls.eOwn_keeps O192.out hb14 (by have z0 := Z6.out; have z1 := Z16.out; have z2 := Z28.out; have z3 := Z39.out; have z4 := Z40.out; have z5 := Z41.out; have z6 := Z49.out; have z7 := Z64.out; have z8 := Z88.out; have z9 := Z89.out; have z10 := Z90.out; have z11 := Z102.out; have z12 := Z116.out; have z13 := Z132.out; have z14 := Z147.out; have z15 := Z176.out; have z16 := Z188.out; omega)
      have O210 : Hid (Kep.IOwn w14 (w6.heap.size + 1) (md81) u79 (Spx.splA i0 zs1 (ns2, ms2))) := Kep.iOwn_keeps O193.out hb14 (by have z0 := Z6.out; have z1 := Z16.out; have z2 := Z28.out; have z3 := Z39.out; have z4 := Z40.out; have z5 := Z41.out; have z6 := Z49.out; have z7 := Z64.out; have z8 := Z88.out; have z9 := Z89.out; have z10 := Z90.out; have z11 := Z102.out; have z12 := Z116.out; have z13 := Z132.out; have z14 := Z147.out; have z15 := Z176.out; have z16 := Z188.out; omega)
      have O211 : Hid (Kep.IOwn w14 (md81) (w7.heap.size) u80 (Spx.splB i0 zs1 (ns2, ms2))) := Kep.iOwn_keeps O194.out hb14 (by have z0 := Z6.out; have z1 := Z16.out; have z2 := Z28.out; have z3 := Z39.out; have z4 := Z40.out; have z5 := Z41.out; have z6 := Z49.out; have z7 := Z64.out; have z8 := Z88.out; have z9 := Z89.out; have z10 := Z90.out; have z11 := Z102.out; have z12 := Z116.out; have z13 := Z132.out; have z14 := Z147.out; have z15 := Z176.out; have z16 := Z188.out; omega)
      have K212 : Hid (w14.cell? ⟨w.heap.size, 0, none⟩ = some (.slice ua2 un2 uc2) ∧ w14.cell? ⟨w.heap.size, 1, none⟩ = some (.slice ta2 tn2 tc2)) := ⟨Keeps.cell hb14 K196.out.1 (by have z0 := Z6.out; have z1 := Z16.out; have z2 := Z28.out; have z3 := Z39.out; have z4 := Z40.out; have z5 := Z41.out; have z6 := Z49.out; have z7 := Z64.out; have z8 := Z88.out; have z9 := Z89.out; have z10 := Z90.out; have z11 := Z102.out; have z12 := Z116.out; have z13 := Z132.out; have z14 := Z147.out; have z15 := Z176.out; have z16 := Z188.out; omega), Keeps.cell hb14 K196.out.2 (by have z0 := Z6.out; have z1 := Z16.out; have z2 := Z28.out; have z3 := Z39.out; have z4 := Z40.out; have z5 := Z41.out; have z6 := Z49.out; have z7 := Z64.out; have z8 := Z88.out; have z9 := Z89.out; have z10 := Z90.out; have z11 := Z102.out; have z12 := Z116.out; have z13 := Z132.out; have z14 := Z147.out; have z15 := Z176.out; have z16 := Z188.out; omega)⟩
      have K213 : Hid (w14.cell? ⟨w6.heap.size, 0, none⟩ = some (.slice ua55 un56 uc57) ∧ w14.cell? ⟨w6.heap.size, 1, none⟩ = some (.slice ta58 tn59 tc60)) := ⟨Keeps.cell hb14 K197.out.1 (by have z0 := Z6.out; have z1 := Z16.out; have z2 := Z28.out; have z3 := Z39.out; have z4 := Z40.out; have z5 := Z41.out; have z6 := Z49.out; have z7 := Z64.out; have z8 := Z88.out; have z9 := Z89.out; have z10 := Z90.out; have z11 := Z102.out; have z12 := Z116.out; have z13 := Z132.out; have z14 := Z147.out; have z15 := Z176.out; have z16 := Z188.out; omega), Keeps.cell hb14 K197.out.2 (by have z0 := Z6.out; have z1 := Z16.out; have z2 := Z28.out; have z3 := Z39.out; have z4 := Z40.out; have z5 := Z41.out; have z6 := Z49.out; have z7 := Z64.out; have z8 := Z88.out; have z9 := Z89.out; have z10 := Z90.out; have z11 := Z102.out; have z12 := Z116.out; have z13 := Z132.out; have z14 := Z147.out; have z15 := Z176.out; have z16 := Z188.out; omega)⟩
      have B214 : Hid (Below w.heap.size w w14) := Keeps.below B198.out hb14 (by have z0 := Z6.out; have z1 := Z16.out; have z2 := Z28.out; have z3 := Z39.out; have z4 := Z40.out; have z5 := Z41.out; have z6 := Z49.out; have z7 := Z64.out; have z8 := Z88.out; have z9 := Z89.out; have z10 := Z90.out; have z11 := Z102.out; have z12 := Z116.out; have z13 := Z132.out; have z14 := Z147.out; have z15 := Z176.out; have z16 := Z188.out; omega) B198.out.size
      clear hm hb14
      have cc216 : w14.cell? ⟨w.heap.size, 0, none⟩ = some (.slice ua2 un2 uc2) := K212.out.1
      have cc217 : w14.cell? ⟨w.heap.size, 1, none⟩ = some (.slice ta2 tn2 tc2) := K212.out.2
      have cc218 : w14.cell? ⟨w6.heap.size, 0, none⟩ = some (.slice ua55 un56 uc57) := K213.out.1
      have cc219 : w14.cell? ⟨w6.heap.size, 1, none⟩ = some (.slice ta58 tn59 tc60) := K213.out.2
      go_wp2_with fail
      refine (Dlk.e_mark (.slice ua55 un56 uc57) (.slice ta58 tn59 tc60) (ns2, ms2) _ _ nx200 _ O209.out (by omega) (by omega)).mono ?_
      rintro e w15 ⟨nx215, rfl, hn0nx215, hn1nx215, hm, hb15⟩
      clear cc216 cc217 cc218 cc219
      have hznx215 : ¬ nx215 < 0 := by omega
      have O220 : Hid (Dls.EMarked w15 (w5.heap.size) (w6.heap.size) (.slice ua55 un56 uc57) (.slice ta58 tn59 tc60) nx200 nx215) := hm
      have Z221 : Hid (w14.heap.size ≤ w15.heap.size) := hb15.size
      have O222 : Hid (Kep.IOwn w15 (w3.heap.size) (md36) u34 (Spx.splA i0 zs1 (ns2, ms2))) := Kep.iOwn_keeps O207.out hb15 (by have z0 := Z6.out; have z1 := Z16.out; have z2 := Z28.out; have z3 := Z39.out; have z4 := Z40.out; have z5 := Z41.out; have z6 := Z49.out; have z7 := Z64.out; have z8 := Z88.out; have z9 := Z89.out; have z10 := Z90.out; have z11 := Z102.out; have z12 := Z116.out; have z13 := Z132.out; have z14 := Z147.out; have z15 := Z176.out; have z16 := Z188.out; have z17 := Z206.out; omega)
      have O223 : Hid (Kep.IOwn w15 (md36) (w4.heap.size) u35 (Spx.splB i0 zs1 (ns2, ms2))) := Kep.iOwn_keeps O208.out hb15 (by have z0 := Z6.out; have z1 := Z16.out; have z2 := Z28.out; have z3 := Z39.out; have z4 := Z40.out; have z5 := Z41.out; have z6 := Z49.out; have z7 := Z64.out; have z8 := Z88.out; have z9 := Z89.out; have z10 := Z90.out; have z11 := Z102.out; have z12 := Z116.out; have z13 := Z132.out; have z14 := Z147.out; have z15 := Z176.out; have z16 := Z188.out; have z17 := Z206.out; omega)
      have O224 : Hid (Kep.IMarked w15 (w4.heap.size) (w5.heap.size) u45 1 nx200) := Kep.iMarked_keeps O205.out hb15 (by have z0 := Z6.out; have z1 := Z16.out; have z2 := Z28.out; have z3 := Z39.out; have z4 := Z40.out; have z5 := Z41.out; have z6 := Z49.out; have z7 := Z64.out; have z8 := Z88.out; have z9 := Z89.out; have z10 := Z90.out; have z11 := Z102.out; have z12 := Z116.out; have z13 := Z132.out; have z14 := Z147.out; have z15 := Z176.out; have z16 := Z188.out; have z17 := Z206.out; omega)
      have O225 : Hid (Kep.IOwn w15 (w6.heap.size + 1) (md81) u79 (Spx.splA i0 zs1 (ns2, ms2))) := Kep.iOwn_keeps O210.out hb15 (by have z0 := Z6.out; have z1 := Z16.out; have z2 := Z28.out; have z3 := Z39.out; have z4 := Z40.out; have z5 := Z41.out; have z6 := Z49.out; have z7 := Z64.out; have z8 := Z88.out; have z9 := Z89.out; have z10 := Z90.out; have z11 := Z102.out; have z12 := Z116.out; have z13 := Z132.out; have z14 := Z147.out; have z15 := Z176.out; have z16 := Z188.out; have z17 := Z206.out; omega)
      have O226 : Hid (Kep.IOwn w15 (md81) (w7.heap.size) u80 (Spx.splB i0 zs1 (ns2, ms2))) := Kep.iOwn_keeps O211.out hb15 (by have z0 := Z6.out; have z1 := Z16.out; have z2 := Z28.out; have z3 := Z39.out; have z4 := Z40.out; have z5 := Z41.out; have z6 := Z49.out; have z7 := Z64.out; have z8 := Z88.out; have z9 := Z89.out; have z10 := Z90.out; have z11 := Z102.out; have z12 := Z116.out; have z13 := Z132.out; have z14 := Z147.out; have z15 := Z176.out; have z16 := Z188.out; have z17 := Z206.out; omega)
      have K227 : Hid (w15.cell? ⟨w.heap.size, 0, none⟩ = some (.slice ua2 un2 uc2) ∧ w15.cell? ⟨w.heap.size, 1, none⟩ = some (.slice ta2 tn2 tc2)) := ⟨Keeps.cell hb15 K212.out.1 (by have z0 := Z6.out; have z1 := Z16.out; have z2 := Z28.out; have z3 := Z39.out; have z4 := Z40.out; have z5 := Z41.out; have z6 := Z49.out; have z7 := Z64.out; have z8 := Z88.out; have z9 := Z89.out; have z10 := Z90.out; have z11 := Z102.out; have z12 := Z116.out; have z13 := Z132.out; have z14 := Z147.out; have z15 := Z176.out; have z16 := Z188.out; have z17 := Z206.out; omega), Keeps.cell hb15 K212.out.2 (by have z0 := Z6.out; have z1 := Z16.out; have z2 := Z28.out; have z3 := Z39.out; have z4 := Z40.out; have z5 := Z41.out; have z6 := Z49.out; have z7 := Z64.out; have z8 := Z88.out; have z9 := Z89.out; have z10 := Z90.out; have z11 := Z102.out; have z12 := Z116.out; have z13 := Z132.out; have z14 := Z147.out; have z15 := Z176.out; have z16 := Z188.out; have z17 := Z206.out; omega)⟩
      have K228 : Hid (w15.cell? ⟨w6.heap.size, 0, none⟩ = some (.slice ua55 un56 uc57) ∧ w15.cell? ⟨w6.heap.size, 1, none⟩ = some (.slice ta58 tn59 tc60)) := ⟨Keeps.cell hb15 K213.out.1 (by have z0 := Z6.out; have z1 := Z16.out; have z2 := Z28.out; have z3 := Z39.out; have z4 := Z40.out; have z5 := Z41.out; have z6 := Z49.out; have z7 := Z64.out; have z8 := Z88.out; have z9 := Z89.out; have z10 := Z90.out; have z11 := Z102.out; have z12 := Z116.out; have z13 := Z132.out; have z14 := Z147.out; have z15 := Z176.out; have z16 := Z188.out; have z17 := Z206.out; omega), Keeps.cell hb15 K213.out.2 (by have z0 := Z6.out; have z1 := Z16.out; have z2 := Z28.out; have z3 := Z39.out; have z4 := Z40.out; have z5 := Z41.out; have z6 := Z49.out; have z7 := Z64.out; have z8 := Z88.out; have z9 := Z89.out; have z10 := Z90.out; have z11 := Z102.out; have z12 := Z116.out; have z13 := Z132.out; have z14 := Z147.out; have z15 := Z176.out; have z16 := Z188.out; have z17 := Z206.out; omega)⟩
      have B229 : Hid (Below w.heap.size w w15) := Keeps.below B214.out hb15 (by have z0 := Z6.out; have z1 := Z16.out; have z2 := Z28.out; have z3 := Z39.out; have z4 := Z40.out; have z5 := Z41.out; have z6 := Z49.out; have z7 := Z64.out; have z8 := Z88.out; have z9 := Z89.out; have z10 := Z90.out; have z11 := Z102.out; have z12 := Z116.out; have z13 := Z132.out; have z14 := Z147.out; have z15 := Z176.out; have z16 := Z188.out; have z17 := Z206.out; omega) B214.out.size
      clear hm hb15
      have cc230 : w15.cell? ⟨w.heap.size, 0, none⟩ = some (.slice ua2 un2 uc2) := K227.out.1
      have cc231 : w15.cell? ⟨w.heap.size, 1, none⟩ = some (.slice ta2 tn2 tc2) := K227.out.2
      have cc232 : w15.cell? ⟨w6.heap.size, 0, none⟩ = some (.slice ua55 un56 uc57) := K228.out.1
      have cc233 : w15.cell? ⟨w6.heap.size, 1, none⟩ = some (.slice ta58 tn59 tc60) := K228.out.2
      go_wp2_with fail
      refine (Kep.i_eq u79 u34 (Spx.splA i0 zs1 (ns2, ms2)) (Spx.splA i0 zs1 (ns2, ms2)) _ (Kep.iOwn_is O225.out) (Kep.iOwn_is O222.out)).mono ?_
      rintro e w16 ⟨rfl, hb16⟩
      clear cc230 cc231 cc232 cc233
      rw [decide_eq_true (Eq.refl ((Spx.splA i0 zs1 (ns2, ms2))))]
      have Z234 : Hid (w15.heap.size ≤ w16.heap.size) := hb16.size
      have O235 : Hid (Kep.IOwn w16 (w3.heap.size) (md36) u34 (Spx.splA i0 zs1 (ns2, ms2))) := Kep.iOwn_below O222.out hb16
      have O236 : Hid (Kep.IOwn w16 (md36) (w4.heap.size) u35 (Spx.splB i0 zs1 (ns2, ms2))) := Kep.iOwn_below O223.out hb16
      have O237 : Hid (Kep.IMarked w16 (w4.heap.size) (w5.heap.size) u45 1 nx200) := Kep.iMarked_below O224.out hb16
      have O238 : Hid (Dls.EMarked w16 (w5.heap.size) (w6.heap.size) (.slice ua55 un56 uc57) (.slice ta58 tn59 tc60) nx200 nx215) := Dls.eMarked_below O220.out hb16
      have O239 : Hid (Kep.IOwn w16 (w6.heap.size + 1) (md81) u79 (Spx.splA i0 zs1 (ns2, ms2))) := Kep.iOwn_below O225.out hb16
      have O240 : Hid (Kep.IOwn w16 (md81) (w7.heap.size) u80 (Spx.splB i0 zs1 (ns2, ms2))) := Kep.iOwn_below O226.out hb16
      have K241 : Hid (w16.cell? ⟨w.heap.size, 0, none⟩ = some (.slice ua2 un2 uc2) ∧ w16.cell? ⟨w.heap.size, 1, none⟩ = some (.slice ta2 tn2 tc2)) := ⟨(hb16.cell (p := ⟨w.heap.size, 0, none⟩) (Frame.cell_lt K227.out.1)).trans K227.out.1, (hb16.cell (p := ⟨w.heap.size, 1, none⟩) (Frame.cell_lt K227.out.2)).trans K227.out.2⟩
      have K242 : Hid (w16.cell? ⟨w6.heap.size, 0, none⟩ = some (.slice ua55 un56 uc57) ∧ w16.cell? ⟨w6.heap.size, 1, none⟩ = some (.slice ta58 tn59 tc60)) := ⟨(hb16.cell (p := ⟨w6.heap.size, 0, none⟩) (Frame.cell_lt K228.out.1)).trans K228.out.1, (hb16.cell (p := ⟨w6.heap.size, 1, none⟩) (Frame.cell_lt K228.out.2)).trans K228.out.2⟩
      have B243 : Hid (Below w.heap.size w w16) := Frame.next B229.out hb16 B229.out.size
      clear hb16
      have cc244 : w16.cell? ⟨w.heap.size, 0, none⟩ = some (.slice ua2 un2 uc2) := K241.out.1
      have cc245 : w16.cell? ⟨w.heap.size, 1, none⟩ = some (.slice ta2 tn2 tc2) := K241.out.2
      have cc246 : w16.cell? ⟨w6.heap.size, 0, none⟩ = some (.slice ua55 un56 uc57) := K242.out.1
      have cc247 : w16.cell? ⟨w6.heap.size, 1, none⟩ = some (.slice ta58 tn59 tc60) := K242.out.2
      go_wp2_with fail
      refine (Kep.i_eq u80 u35 (Spx.splB i0 zs1 (ns2, ms2)) (Spx.splB i0 zs1 (ns2, ms2)) _ (Kep.iOwn_is O240.out) (Kep.iOwn_is O236.out)).mono ?_
      rintro e w17 ⟨rfl, hb17⟩
      clear cc244 cc245 cc246 cc247
      rw [decide_eq_true (Eq.refl ((Spx.splB i0 zs1 (ns2, ms2))))]
      have Z248 : Hid (w16.heap.size ≤ w17.heap.size) := hb17.size
      have O249 : Hid (Kep.IOwn w17 (w3.heap.size) (md36) u34 (Spx.splA i0 zs1 (ns2, ms2))) := Kep.iOwn_below O235.out hb17
      have O250 : Hid (Kep.IOwn w17 (md36) (w4.heap.size) u35 (Spx.splB i0 zs1 (ns2, ms2))) := Kep.iOwn_below O236.out hb17
      have O251 : Hid (Kep.IMarked w17 (w4.heap.size) (w5.heap.size) u45 1 nx200) := Kep.iMarked_below O237.out hb17
      have O252 : Hid (Dls.EMarked w17 (w5.heap.size) (w6.heap.size) (.slice ua55 un56 uc57) (.slice ta58 tn59 tc60) nx200 nx215) := Dls.eMarked_below O238.out hb17
      have O253 : Hid (Kep.IOwn w17 (w6.heap.size + 1) (md81) u79 (Spx.splA i0 zs1 (ns2, ms2))) := Kep.iOwn_below O239.out hb17
      have O254 : Hid (Kep.IOwn w17 (md81) (w7.heap.size) u80 (Spx.splB i0 zs1 (ns2, ms2))) := Kep.iOwn_below O240.out hb17
      have K255 : Hid (w17.cell? ⟨w.heap.size, 0, none⟩ = some (.slice ua2 un2 uc2) ∧ w17.cell? ⟨w.heap.size, 1, none⟩ = some (.slice ta2 tn2 tc2)) := ⟨(hb17.cell (p := ⟨w.heap.size, 0, none⟩) (Frame.cell_lt K241.out.1)).trans K241.out.1, (hb17.cell (p := ⟨w.heap.size, 1, none⟩) (Frame.cell_lt K241.out.2)).trans K241.out.2⟩
      have K256 : Hid (w17.cell? ⟨w6.heap.size, 0, none⟩ = some (.slice ua55 un56 uc57) ∧ w17.cell? ⟨w6.heap.size, 1, none⟩ = some (.slice ta58 tn59 tc60)) := ⟨(hb17.cell (p := ⟨w6.heap.size, 0, none⟩) (Frame.cell_lt K242.out.1)).trans K242.out.1, (hb17.cell (p := ⟨w6.heap.size, 1, none⟩) (Frame.cell_lt K242.out.2)).trans K242.out.2⟩
      have B257 : Hid (Below w.heap.size w w17) := Frame.next B243.out hb17 B243.out.size
      clear hb17
      have cc259 : w17.cell? ⟨w.heap.size, 0, none⟩ = some (.slice ua2 un2 uc2) := K255.out.1
      have cc260 : w17.cell? ⟨w.heap.size, 1, none⟩ = some (.slice ta2 tn2 tc2) := K255.out.2
      have cc261 : w17.cell? ⟨w6.heap.size, 0, none⟩ = some (.slice ua55 un56 uc57) := K256.out.1
      have cc262 : w17.cell? ⟨w6.heap.size, 1, none⟩ = some (.slice ta58 tn59 tc60) := K256.out.2
      go_wp2_with fail
      refine (Kep.i_mark u79 (Spx.splA i0 zs1 (ns2, ms2)) _ _ 1 _ O253.out (by omega) (by omega)).mono ?_
      rintro e w18 ⟨nx258, rfl, hn0nx258, hn1nx258, hm, hb18⟩
      clear cc259 cc260 cc261 cc262
      have hznx258 : ¬ nx258 < 0 := by omega
      have O263 : Hid (Kep.IMarked w18 (w6.heap.size + 1) (md81) u79 1 nx258) := hm
      have Z264 : Hid (w17.heap.size ≤ w18.heap.size) := hb18.size
      have O265 : Hid (Kep.IOwn w18 (w3.heap.size) (md36) u34 (Spx.splA i0 zs1 (ns2, ms2))) := Kep.iOwn_keeps O249.out hb18 (by have z0 := Z6.out; have z1 := Z16.out; have z2 := Z28.out; have z3 := Z39.out; have z4 := Z40.out; have z5 := Z41.out; have z6 := Z49.out; have z7 := Z64.out; have z8 := Z88.out; have z9 := Z89.out; have z10 := Z90.out; have z11 := Z102.out; have z12 := Z116.out; have z13 := Z132.out; have z14 := Z147.out; have z15 := Z176.out; have z16 := Z188.out; have z17 := Z206.out; have z18 := Z221.out; have z19 := Z234.out; have z20 := Z248.out; omega)
      have O266 : Hid (Kep.IOwn w18 (md36) (w4.heap.size) u35 (Spx.splB i0 zs1 (ns2, ms2))) := Kep.iOwn_keeps O250.out hb18 (by have z0 := Z6.out; have z1 := Z16.out; have z2 := Z28.out; have z3 := Z39.out; have z4 := Z40.out; have z5 := Z41.out; have z6 := Z49.out; have z7 := Z64.out; have z8 := Z88.out; have z9 := Z89.out; have z10 := Z90.out; have z11 := Z102.out; have z12 := Z116.out; have z13 := Z132.out; have z14 := Z147.out; have z15 := Z176.out; have z16 := Z188.out; have z17 := Z206.out; have z18 := Z221.out; have z19 := Z234.out; have z20 := Z248.out; omega)
      have O267 : Hid (Kep.IOwn w18 (md81) (w7.heap.size) u80 (Spx.splB i0 zs1 (ns2, ms2))) := Kep.iOwn_keeps O254.out hb18 (by have z0 := Z6.out; have z1 := Z16.out; have z2 := Z28.out; have z3 := Z39.out; have z4 := Z40.out; have z5 := Z41.out; have z6 := Z49.out; have z7 := Z64.out; have z8 := Z88.out; have z9 := Z89.out; have z10 := Z90.out; have z11 := Z102.out; have z12 := Z116.out; have z13 := Z132.out; have z14 := Z147.out; have z15 := Z176.out; have z16 := Z188.out; have z17 := Z206.out; have z18 := Z221.out; have z19 := Z234.out; have z20 := Z248.out; omega)
      have K268 : Hid (w18.cell? ⟨w.heap.size, 0, none⟩ = some (.slice ua2 un2 uc2) ∧ w18.cell? ⟨w.heap.size, 1, none⟩ = some (.slice ta2 tn2 tc2)) := ⟨Keeps.cell hb18 K255.out.1 (by have z0 := Z6.out; have z1 := Z16.out; have z2 := Z28.out; have z3 := Z39.out; have z4 := Z40.out; have z5 := Z41.out; have z6 := Z49.out; have z7 := Z64.out; have z8 := Z88.out; have z9 := Z89.out; have z10 := Z90.out; have z11 := Z102.out; have z12 := Z116.out; have z13 := Z132.out; have z14 := Z147.out; have z15 := Z176.out; have z16 := Z188.out; have z17 := Z206.out; have z18 := Z221.out; have z19 := Z234.out; have z20 := Z248.out; omega), Keeps.cell hb18 K255.out.2 (by have z0 := Z6.out; have z1 := Z16.out; have z2 := Z28.out; have z3 := Z39.out; have z4 := Z40.out; have z5 := Z41.out; have z6 := Z49.out; have z7 := Z64.out; have z8 := Z88.out; have z9 := Z89.out; have z10 := Z90.out; have z11 := Z102.out; have z12 := Z116.out; have z13 := Z132.out; have z14 := Z147.out; have z15 := Z176.out; have z16 := Z188.out; have z17 := Z206.out; have z18 := Z221.out; have z19 := Z234.out; have z20 := Z248.out; omega)⟩
      have K269 : Hid (w18.cell? ⟨w6.heap.size, 0, none⟩ = some (.slice ua55 un56 uc57) ∧ w18.cell? ⟨w6.heap.size, 1, none⟩ = some (.slice ta58 tn59 tc60)) := ⟨Keeps.cell hb18 K256.out.1 (by have z0 := Z6.out; have z1 := Z16.out; have z2 := Z28.out; have z3 := Z39.out; have z4 := Z40.out; have z5 := Z41.out; have z6 := Z49.out; have z7 := Z64.out; have z8 := Z88.out; have z9 := Z89.out; have z10 := Z90.out; have z11 := Z102.out; have z12 := Z116.out; have z13 := Z132.out; have z14 := Z147.out; have z15 := Z176.out; have z16 := Z188.out; have z17 := Z206.out; have z18 := Z221.out; have z19 := Z234.out; have z20 := Z248.out; omega), Keeps.cell hb18 K256.out.2 (by have z0 := Z6.out; have z1 := Z16.out; have z2 := Z28.out; have z3 := Z39.out; have z4 := Z40.out; have z5 := Z41.out; have z6 := Z49.out; have z7 := Z64.out; have z8 := Z88.out; have z9 := Z89.out; have z10 := Z90.out; have z11 := Z102.out; have z12 := Z116.out; have z13 := Z132.out; have z14 := Z147.out; have z15 := Z176.out; have z16 := Z188.out; have z17 := Z206.out; have z18 := Z221.out; have z19 := Z234.out; have z20 := Z248.out; omega)⟩
      have B270 : Hid (Below w.heap.size w w18) := Keeps.below B257.out hb18 (by have z0 := Z6.out; have z1 := Z16.out; have z2 := Z28.out; have z3 := Z39.out; have z4 := Z40.out; have z5 := Z41.out; have z6 := Z49.out; have z7 := Z64.out; have z8 := Z88.out; have z9 := Z89.out; have z10 := Z90.out; have z11 := Z102.out; have z12 := Z116.out; have z13 := Z132.out; have z14 := Z147.out; have z15 := Z176.out; have z16 := Z188.out; have z17 := Z206.out; have z18 := Z221.out; have z19 := Z234.out; have z20 := Z248.out; omega) B257.out.size
      clear hm hb18
      have cc272 : w18.cell? ⟨w.heap.size, 0, none⟩ = some (.slice ua2 un2 uc2) := K268.out.1
      have cc273 : w18.cell? ⟨w.heap.size, 1, none⟩ = some (.slice ta2 tn2 tc2) := K268.out.2
      have cc274 : w18.cell? ⟨w6.heap.size, 0, none⟩ = some (.slice ua55 un56 uc57) := K269.out.1
      have cc275 : w18.cell? ⟨w6.heap.size, 1, none⟩ = some (.slice ta58 tn59 tc60) := K269.out.2
      go_wp2_with fail
      refine (Kep.i_mark u80 (Spx.splB i0 zs1 (ns2, ms2)) _ _ nx258 _ O267.out (by omega) (by omega)).mono ?_
      rintro e w19 ⟨nx271, rfl, hn0nx271, hn1nx271, hm, hb19⟩
      clear cc272 cc273 cc274 cc275
      have hznx271 : ¬ nx271 < 0 := by omega
      have O276 : Hid (Kep.IMarked w19 (md81) (w7.heap.size) u80 nx258 nx271) := hm
      have Z277 : Hid (w18.heap.size ≤ w19.heap.size) := hb19.size
      have O278 : Hid (Kep.IOwn w19 (w3.heap.size) (md36) u34 (Spx.splA i0 zs1 (ns2, ms2))) := Kep.iOwn_keeps O265.out hb19 (by have z0 := Z6.out; have z1 := Z16.out; have z2 := Z28.out; have z3 := Z39.out; have z4 := Z40.out; have z5 := Z41.out; have z6 := Z49.out; have z7 := Z64.out; have z8 := Z88.out; have z9 := Z89.out; have z10 := Z90.out; have z11 := Z102.out; have z12 := Z116.out; have z13 := Z132.out; have z14 := Z147.out; have z15 := Z176.out; have z16 := Z188.out; have z17 := Z206.out; have z18 := Z221.out; have z19 := Z234.out; have z20 := Z248.out; have z21 := Z264.out; omega)
      have O279 : Hid (Kep.IOwn w19 (md36) (w4.heap.size) u35 (Spx.splB i0 zs1 (ns2, ms2))) := Kep.iOwn_keeps O266.out hb19 (by have z0 := Z6.out; have z1 := Z16.out; have z2 := Z28.out; have z3 := Z39.out; have z4 := Z40.out; have z5 := Z41.out; have z6 := Z49.out; have z7 := Z64.out; have z8 := Z88.out; have z9 := Z89.out; have z10 := Z90.out; have z11 := Z102.out; have z12 := Z116.out; have z13 := Z132.out; have z14 := Z147.out; have z15 := Z176.out; have z16 := Z188.out; have z17 := Z206.out; have z18 := Z221.out; have z19 := Z234.out; have z20 := Z248.out; have z21 := Z264.out; omega)
      have O280 : Hid (Kep.IMarked w19 (w6.heap.size + 1) (md81) u79 1 nx258) := Kep.iMarked_keeps O263.out hb19 (by have z0 := Z6.out; have z1 := Z16.out; have z2 := Z28.out; have z3 := Z39.out; have z4 := Z40.out; have z5 := Z41.out; have z6 := Z49.out; have z7 := Z64.out; have z8 := Z88.out; have z9 := Z89.out; have z10 := Z90.out; have z11 := Z102.out; have z12 := Z116.out; have z13 := Z132.out; have z14 := Z147.out; have z15 := Z176.out; have z16 := Z188.out; have z17 := Z206.out; have z18 := Z221.out; have z19 := Z234.out; have z20 := Z248.out; have z21 := Z264.out; omega)
      have K281 : Hid (w19.cell? ⟨w.heap.size, 0, none⟩ = some (.slice ua2 un2 uc2) ∧ w19.cell? ⟨w.heap.size, 1, none⟩ = some (.slice ta2 tn2 tc2)) := ⟨Keeps.cell hb19 K268.out.1 (by have z0 := Z6.out; have z1 := Z16.out; have z2 := Z28.out; have z3 := Z39.out; have z4 := Z40.out; have z5 := Z41.out; have z6 := Z49.out; have z7 := Z64.out; have z8 := Z88.out; have z9 := Z89.out; have z10 := Z90.out; have z11 := Z102.out; have z12 := Z116.out; have z13 := Z132.out; have z14 := Z147.out; have z15 := Z176.out; have z16 := Z188.out; have z17 := Z206.out; have z18 := Z221.out; have z19 := Z234.out; have z20 := Z248.out; have z21 := Z264.out; omega), Keeps.cell hb19 K268.out.2 (by have z0 := Z6.out; have z1 := Z16.out; have z2 := Z28.out; have z3 := Z39.out; have z4 := Z40.out; have z5 := Z41.out; have z6 := Z49.out; have z7 := Z64.out; have z8 := Z88.out; have z9 := Z89.out; have z10 := Z90.out; have z11 := Z102.out; have z12 := Z116.out; have z13 := Z132.out; have z14 := Z147.out; have z15 := Z176.out; have z16 := Z188.out; have z17 := Z206.out; have z18 := Z221.out; have z19 := Z234.out; have z20 := Z248.out; have z21 := Z264.out; omega)⟩
      have K282 : Hid (w19.cell? ⟨w6.heap.size, 0, none⟩ = some (.slice ua55 un56 uc57) ∧ w19.cell? ⟨w6.heap.size, 1, none⟩ = some (.slice ta58 tn59 tc60)) := ⟨Keeps.cell hb19 K269.out.1 (by have z0 := Z6.out; have z1 := Z16.out; have z2 := Z28.out; have z3 := Z39.out; have z4 := Z40.out; have z5 := Z41.out; have z6 := Z49.out; have z7 := Z64.out; have z8 := Z88.out; have z9 := Z89.out; have z10 := Z90.out; have z11 := Z102.out; have z12 := Z116.out; have z13 := Z132.out; have z14 := Z147.out; have z15 := Z176.out; have z16 := Z188.out; have z17 := Z206.out; have z18 := Z221.out; have z19 := Z234.out; have z20 := Z248.out; have z21 := Z264.out; omega), Keeps.cell hb19 K269.out.2 (by have z0 := Z6.out; have z1 := Z16.out; have z2 := Z28.out; have z3 := Z39.out; have z4 := Z40.out; have z5 := Z41.out; have z6 := Z49.out; have z7 := Z64.out; have z8 := Z88.out; have z9 := Z89.out; have z10 := Z90.out; have z11 := Z102.out; have z12 := Z116.out; have z13 := Z132.out; have z14 := Z147.out; have z15 := Z176.out; have z16 := Z188.out; have z17 := Z206.out; have z18 := Z221.out; have z19 := Z234.out; have z20 := Z248.out; have z21 := Z264.out; omega)⟩
      have B283 : Hid (Below w.heap.size w w19) := Keeps.below B270.out hb19 (by have z0 := Z6.out; have z1 := Z16.out; have z2 := Z28.out; have z3 := Z39.out; have z4 := Z40.out; have z5 := Z41.out; have z6 := Z49.out; have z7 := Z64.out; have z8 := Z88.out; have z9 := Z89.out; have z10 := Z90.out; have z11 := Z102.out; have z12 := Z116.out; have z13 := Z132.out; have z14 := Z147.out; have z15 := Z176.out; have z16 := Z188.out; have z17 := Z206.out; have z18 := Z221.out; have z19 := Z234.out; have z20 := Z248.out; have z21 := Z264.out; omega) B270.out.size
      clear hm hb19
      have cc284 : w19.cell? ⟨w.heap.size, 0, none⟩ = some (.slice ua2 un2 uc2) := K281.out.1
      have cc285 : w19.cell? ⟨w.heap.size, 1, none⟩ = some (.slice ta2 tn2 tc2) := K281.out.2
      have cc286 : w19.cell? ⟨w6.heap.size, 0, none⟩ = some (.slice ua55 un56 uc57) := K282.out.1
      have cc287 : w19.cell? ⟨w6.heap.size, 1, none⟩ = some (.slice ta58 tn59 tc60) := K282.out.2
      go_wp2_with fail
      refine (Kep.i_held u79 _ _ 1 nx258 _ O280.out).mono ?_
      rintro e w20 ⟨rfl, hb20⟩
      clear cc284 cc285 cc286 cc287
      have Z288 : Hid (w19.heap.size ≤ w20.heap.size) := hb20.size
      have O289 : Hid (Kep.IOwn w20 (w3.heap.size) (md36) u34 (Spx.splA i0 zs1 (ns2, ms2))) := Kep.iOwn_below O278.out hb20
      have O290 : Hid (Kep.IOwn w20 (md36) (w4.heap.size) u35 (Spx.splB i0 zs1 (ns2, ms2))) := Kep.iOwn_below O279.out hb20
      have O291 : Hid (Kep.IMarked w20 (w6.heap.size + 1) (md81) u79 1 nx258) := Kep.iMarked_below O280.out hb20
      have O292 : Hid (Kep.IMarked w20 (md81) (w7.heap.size) u80 nx258 nx271) := Kep.iMarked_below O276.out hb20
      have K293 : Hid (w20.cell? ⟨w.heap.size, 0, none⟩ = some (.slice ua2 un2 uc2) ∧ w20.cell? ⟨w.heap.size, 1, none⟩ = some (.slice ta2 tn2 tc2)) := ⟨(hb20.cell (p := ⟨w.heap.size, 0, none⟩) (Frame.cell_lt K281.out.1)).trans K281.out.1, (hb20.cell (p := ⟨w.heap.size, 1, none⟩) (Frame.cell_lt K281.out.2)).trans K281.out.2⟩
      have K294 : Hid (w20.cell? ⟨w6.heap.size, 0, none⟩ = some (.slice ua55 un56 uc57) ∧ w20.cell? ⟨w6.heap.size, 1, none⟩ = some (.slice ta58 tn59 tc60)) := ⟨(hb20.cell (p := ⟨w6.heap.size, 0, none⟩) (Frame.cell_lt K282.out.1)).trans K282.out.1, (hb20.cell (p := ⟨w6.heap.size, 1, none⟩) (Frame.cell_lt K282.out.2)).trans K282.out.2⟩
      have B295 : Hid (Below w.heap.size w w20) := Frame.next B283.out hb20 B283.out.size
      clear hb20
      have cc296 : w20.cell? ⟨w.heap.size, 0, none⟩ = some (.slice ua2 un2 uc2) := K293.out.1
      have cc297 : w20.cell? ⟨w.heap.size, 1, none⟩ = some (.slice ta2 tn2 tc2) := K293.out.2
      have cc298 : w20.cell? ⟨w6.heap.size, 0, none⟩ = some (.slice ua55 un56 uc57) := K294.out.1
      have cc299 : w20.cell? ⟨w6.heap.size, 1, none⟩ = some (.slice ta58 tn59 tc60) := K294.out.2
      go_wp2_with fail
      refine (Kep.i_held u80 _ _ nx258 nx271 _ O292.out).mono ?_
      rintro e w21 ⟨rfl, hb21⟩
      clear cc296 cc297 cc298 cc299
      have Z300 : Hid (w20.heap.size ≤ w21.heap.size) := hb21.size
      have O301 : Hid (Kep.IOwn w21 (w3.heap.size) (md36) u34 (Spx.splA i0 zs1 (ns2, ms2))) := Kep.iOwn_below O289.out hb21
      have O302 : Hid (Kep.IOwn w21 (md36) (w4.heap.size) u35 (Spx.splB i0 zs1 (ns2, ms2))) := Kep.iOwn_below O290.out hb21
      have O303 : Hid (Kep.IMarked w21 (w6.heap.size + 1) (md81) u79 1 nx258) := Kep.iMarked_below O291.out hb21
      have O304 : Hid (Kep.IMarked w21 (md81) (w7.heap.size) u80 nx258 nx271) := Kep.iMarked_below O292.out hb21
      have K305 : Hid (w21.cell? ⟨w.heap.size, 0, none⟩ = some (.slice ua2 un2 uc2) ∧ w21.cell? ⟨w.heap.size, 1, none⟩ = some (.slice ta2 tn2 tc2)) := ⟨(hb21.cell (p := ⟨w.heap.size, 0, none⟩) (Frame.cell_lt K293.out.1)).trans K293.out.1, (hb21.cell (p := ⟨w.heap.size, 1, none⟩) (Frame.cell_lt K293.out.2)).trans K293.out.2⟩
      have K306 : Hid (w21.cell? ⟨w6.heap.size, 0, none⟩ = some (.slice ua55 un56 uc57) ∧ w21.cell? ⟨w6.heap.size, 1, none⟩ = some (.slice ta58 tn59 tc60)) := ⟨(hb21.cell (p := ⟨w6.heap.size, 0, none⟩) (Frame.cell_lt K294.out.1)).trans K294.out.1, (hb21.cell (p := ⟨w6.heap.size, 1, none⟩) (Frame.cell_lt K294.out.2)).trans K294.out.2⟩
      have B307 : Hid (Below w.heap.size w w21) := Frame.next B295.out hb21 B295.out.size
      clear hb21
      go_wp2_with fail
      have O308 : Hid (Kep.IOwn w21.drew (w3.heap.size) (md36) u34 (Spx.splA i0 zs1 (ns2, ms2))) := Kep.iOwn_below O301.out ((Below.refl _ _).drew : Below w21.heap.size w21 w21.drew)
      have O309 : Hid (Kep.IOwn w21.drew (md36) (w4.heap.size) u35 (Spx.splB i0 zs1 (ns2, ms2))) := Kep.iOwn_below O302.out ((Below.refl _ _).drew : Below w21.heap.size w21 w21.drew)
      have O310 : Hid (Kep.IMarked w21.drew (w6.heap.size + 1) (md81) u79 1 nx258) := Kep.iMarked_below O303.out ((Below.refl _ _).drew : Below w21.heap.size w21 w21.drew)
      have O311 : Hid (Kep.IMarked w21.drew (md81) (w7.heap.size) u80 nx258 nx271) := Kep.iMarked_below O304.out ((Below.refl _ _).drew : Below w21.heap.size w21 w21.drew)
      have K312 : Hid ((w21.drew).cell? ⟨w.heap.size, 0, none⟩ = some (.slice ua2 un2 uc2) ∧ (w21.drew).cell? ⟨w.heap.size, 1, none⟩ = some (.slice ta2 tn2 tc2)) := ⟨(((Below.refl _ _).drew : Below w21.heap.size w21 w21.drew).cell (p := ⟨w.heap.size, 0, none⟩) (Frame.cell_lt K305.out.1)).trans K305.out.1, (((Below.refl _ _).drew : Below w21.heap.size w21 w21.drew).cell (p := ⟨w.heap.size, 1, none⟩) (Frame.cell_lt K305.out.2)).trans K305.out.2⟩
      have K313 : Hid ((w21.drew).cell? ⟨w6.heap.size, 0, none⟩ = some (.slice ua55 un56 uc57) ∧ (w21.drew).cell? ⟨w6.heap.size, 1, none⟩ = some (.slice ta58 tn59 tc60)) := ⟨(((Below.refl _ _).drew : Below w21.heap.size w21 w21.drew).cell (p := ⟨w6.heap.size, 0, none⟩) (Frame.cell_lt K306.out.1)).trans K306.out.1, (((Below.refl _ _).drew : Below w21.heap.size w21 w21.drew).cell (p := ⟨w6.heap.size, 1, none⟩) (Frame.cell_lt K306.out.2)).trans K306.out.2⟩
      have B314 : Hid (Below w.heap.size w w21.drew) := Frame.next B307.out ((Below.refl _ _).drew : Below w21.heap.size w21 w21.drew) B307.out.size
      have E315 : Hid (w21.drew.heap.size = w21.heap.size) := rfl
      have S316 : Hid ((w21.drew).cell? ⟨w.heap.size, 0, none⟩ = some (.slice ua2 un2 uc2) ∧ (w21.drew).cell? ⟨w.heap.size, 1, none⟩ = some (.slice ta2 tn2 tc2) ∧ (w21.drew).cell? ⟨w6.heap.size, 0, none⟩ = some (.slice ua55 un56 uc57) ∧ (w21.drew).cell? ⟨w6.heap.size, 1, none⟩ = some (.slice ta58 tn59 tc60)) := ⟨K312.out.1, K312.out.2, K313.out.1, K313.out.2⟩
      go_region_held3 (fun w' => (w').cell? ⟨w.heap.size, 0, none⟩ = some (.slice ua2 un2 uc2) ∧ (w').cell? ⟨w.heap.size, 1, none⟩ = some (.slice ta2 tn2 tc2) ∧ (w').cell? ⟨w6.heap.size, 0, none⟩ = some (.slice ua55 un56 uc57) ∧ (w').cell? ⟨w6.heap.size, 1, none⟩ = some (.slice ta58 tn59 tc60)) (first | exact S316.out | exact S327.out | exact S345.out | exact S362.out) (first | (go_at_call 73; refine (Kep.i_to (.slice a1 n1 c1) zs1 _ (Kep.iIs_below A1.out B314.out)).mono ?_; rintro e w22 ⟨u317, rfl, ho, hb22⟩; have O318 : Hid (Kep.IOwn w22 (w21.heap.size) (w22.heap.size) u317 zs1) := (by have hh := ho; rw [E315.out] at hh; exact hh); have Z319 : Hid (w21.heap.size ≤ w22.heap.size) := (by have hh := hb22.size; rw [E315.out] at hh; exact hh); have O320 : Hid (Kep.IOwn w22 (w3.heap.size) (md36) u34 (Spx.splA i0 zs1 (ns2, ms2))) := Kep.iOwn_below O308.out hb22; have O321 : Hid (Kep.IOwn w22 (md36) (w4.heap.size) u35 (Spx.splB i0 zs1 (ns2, ms2))) := Kep.iOwn_below O309.out hb22; have O322 : Hid (Kep.IMarked w22 (w6.heap.size + 1) (md81) u79 1 nx258) := Kep.iMarked_below O310.out hb22; have O323 : Hid (Kep.IMarked w22 (md81) (w7.heap.size) u80 nx258 nx271) := Kep.iMarked_below O311.out hb22; have K324 : Hid (w22.cell? ⟨w.heap.size, 0, none⟩ = some (.slice ua2 un2 uc2) ∧ w22.cell? ⟨w.heap.size, 1, none⟩ = some (.slice ta2 tn2 tc2)) := ⟨(hb22.cell (p := ⟨w.heap.size, 0, none⟩) (Frame.cell_lt K312.out.1)).trans K312.out.1, (hb22.cell (p := ⟨w.heap.size, 1, none⟩) (Frame.cell_lt K312.out.2)).trans K312.out.2⟩; have K325 : Hid (w22.cell? ⟨w6.heap.size, 0, none⟩ = some (.slice ua55 un56 uc57) ∧ w22.cell? ⟨w6.heap.size, 1, none⟩ = some (.slice ta58 tn59 tc60)) := ⟨(hb22.cell (p := ⟨w6.heap.size, 0, none⟩) (Frame.cell_lt K313.out.1)).trans K313.out.1, (hb22.cell (p := ⟨w6.heap.size, 1, none⟩) (Frame.cell_lt K313.out.2)).trans K313.out.2⟩; have B326 : Hid (Below w.heap.size w w22) := Frame.next B314.out hb22 B314.out.size; clear ho hb22; have S327 : Hid (w22.cell? ⟨w.heap.size, 0, none⟩ = some (.slice ua2 un2 uc2) ∧ w22.cell? ⟨w.heap.size, 1, none⟩ = some (.slice ta2 tn2 tc2) ∧ w22.cell? ⟨w6.heap.size, 0, none⟩ = some (.slice ua55 un56 uc57) ∧ w22.cell? ⟨w6.heap.size, 1, none⟩ = some (.slice ta58 tn59 tc60)) := ⟨K324.out.1, K324.out.2, K325.out.1, K325.out.2⟩) | (go_at_call 65; refine (Dls.e_to (.slice ua2 un2 uc2) (.slice ta2 tn2 tc2) (ns2, ms2) _ (Dls.eIs_below A2.out B326.out)).mono ?_; rintro e w23 ⟨ua329, un330, uc331, ta332, tn333, tc334, rfl, ho, hb23⟩; have O335 : Hid (Dls.EOwn w23 (w22.heap.size) (w23.heap.size) (.slice ua329 un330 uc331) (.slice ta332 tn333 tc334) (ns2, ms2)) := ho; have Z336 : Hid (w22.heap.size ≤ w23.heap.size) := hb23.size; have O337 : Hid (Kep.IOwn w23 (w3.heap.size) (md36) u34 (Spx.splA i0 zs1 (ns2, ms2))) := Kep.iOwn_below O320.out hb23; have O338 : Hid (Kep.IOwn w23 (md36) (w4.heap.size) u35 (Spx.splB i0 zs1 (ns2, ms2))) := Kep.iOwn_below O321.out hb23; have O339 : Hid (Kep.IMarked w23 (w6.heap.size + 1) (md81) u79 1 nx258) := Kep.iMarked_below O322.out hb23; have O340 : Hid (Kep.IMarked w23 (md81) (w7.heap.size) u80 nx258 nx271) := Kep.iMarked_below O323.out hb23; have O341 : Hid (Kep.IOwn w23 (w21.heap.size) (w22.heap.size) u317 zs1) := Kep.iOwn_below O318.out hb23; have K342 : Hid (w23.cell? ⟨w.heap.size, 0, none⟩ = some (.slice ua2 un2 uc2) ∧ w23.cell? ⟨w.heap.size, 1, none⟩ = some (.slice ta2 tn2 tc2)) := ⟨(hb23.cell (p := ⟨w.heap.size, 0, none⟩) (Frame.cell_lt K324.out.1)).trans K324.out.1, (hb23.cell (p := ⟨w.heap.size, 1, none⟩) (Frame.cell_lt K324.out.2)).trans K324.out.2⟩; have K343 : Hid (w23.cell? ⟨w6.heap.size, 0, none⟩ = some (.slice ua55 un56 uc57) ∧ w23.cell? ⟨w6.heap.size, 1, none⟩ = some (.slice ta58 tn59 tc60)) := ⟨(hb23.cell (p := ⟨w6.heap.size, 0, none⟩) (Frame.cell_lt K325.out.1)).trans K325.out.1, (hb23.cell (p := ⟨w6.heap.size, 1, none⟩) (Frame.cell_lt K325.out.2)).trans K325.out.2⟩; have B344 : Hid (Below w.heap.size w w23) := Frame.next B326.out hb23 B326.out.size; clear ho hb23; have S345 : Hid (w23.cell? ⟨w.heap.size, 0, none⟩ = some (.slice ua2 un2 uc2) ∧ w23.cell? ⟨w.heap.size, 1, none⟩ = some (.slice ta2 tn2 tc2) ∧ w23.cell? ⟨w6.heap.size, 0, none⟩ = some (.slice ua55 un56 uc57) ∧ w23.cell? ⟨w6.heap.size, 1, none⟩ = some (.slice ta58 tn59 tc60)) := ⟨K342.out.1, K342.out.2, K343.out.1, K343.out.2⟩) | (go_at_call 44; refine (Lse.impl_SplitBy i0 u317 (.slice ua329 un330 uc331) (.slice ta332 tn333 tc334) zs1 (ns2, ms2) _ (Kep.iOwn_is O341.out) (Dls.eOwn_is O335.out)).mono ?_; rintro e w24 ⟨u347, u348, md349, rfl, hm0, hm1, ho0, ho1, hb24⟩; have O350 : Hid (Kep.IOwn w24 (w23.heap.size) (md349) u347 (Spx.splA i0 zs1 (ns2, ms2))) := ho0; have O351 : Hid (Kep.IOwn w24 (md349) (w24.heap.size) u348 (Spx.splB i0 zs1 (ns2, ms2))) := ho1; have Z352 : Hid (w23.heap.size ≤ md349) := hm0; have Z353 : Hid (md349 ≤ w24.heap.size) := hm1; clear hm0 hm1; have Z354 : Hid (w23.heap.size ≤ w24.heap.size) := hb24.size; have O355 : Hid (Kep.IOwn w24 (w3.heap.size) (md36) u34 (Spx.splA i0 zs1 (ns2, ms2))) := Kep.iOwn_below O337.out hb24; have O356 : Hid (Kep.IOwn w24 (md36) (w4.heap.size) u35 (Spx.splB i0 zs1 (ns2, ms2))) := Kep.iOwn_below O338.out hb24; have O357 : Hid (Kep.IMarked w24 (w6.heap.size + 1) (md81) u79 1 nx258) := Kep.iMarked_below O339.out hb24; have O358 : Hid (Kep.IMarked w24 (md81) (w7.heap.size) u80 nx258 nx271) := Kep.iMarked_below O340.out hb24; have K359 : Hid (w24.cell? ⟨w.heap.size, 0, none⟩ = some (.slice ua2 un2 uc2) ∧ w24.cell? ⟨w.heap.size, 1, none⟩ = some (.slice ta2 tn2 tc2)) := ⟨(hb24.cell (p := ⟨w.heap.size, 0, none⟩) (Frame.cell_lt K342.out.1)).trans K342.out.1, (hb24.cell (p := ⟨w.heap.size, 1, none⟩) (Frame.cell_lt K342.out.2)).trans K342.out.2⟩; have K360 : Hid (w24.cell? ⟨w6.heap.size, 0, none⟩ = some (.slice ua55 un56 uc57) ∧ w24.cell? ⟨w6.heap.size, 1, none⟩ = some (.slice ta58 tn59 tc60)) := ⟨(hb24.cell (p := ⟨w6.heap.size, 0, none⟩) (Frame.cell_lt K343.out.1)).trans K343.out.1, (hb24.cell (p := ⟨w6.heap.size, 1, none⟩) (Frame.cell_lt K343.out.2)).trans K343.out.2⟩; have B361 : Hid (Below w.heap.size w w24) := Frame.next B344.out hb24 B344.out.size; clear ho0 ho1 hb24; have S362 : Hid (w24.cell? ⟨w.heap.size, 0, none⟩ = some (.slice ua2 un2 uc2) ∧ w24.cell? ⟨w.heap.size, 1, none⟩ = some (.slice ta2 tn2 tc2) ∧ w24.cell? ⟨w6.heap.size, 0, none⟩ = some (.slice ua55 un56 uc57) ∧ w24.cell? ⟨w6.heap.size, 1, none⟩ = some (.slice ta58 tn59 tc60)) := ⟨K359.out.1, K359.out.2, K360.out.1, K360.out.2⟩))
      have cc363 : w24.cell? ⟨w.heap.size, 0, none⟩ = some (.slice ua2 un2 uc2) := K359.out.1
      have cc364 : w24.cell? ⟨w.heap.size, 1, none⟩ = some (.slice ta2 tn2 tc2) := K359.out.2
      have cc365 : w24.cell? ⟨w6.heap.size, 0, none⟩ = some (.slice ua55 un56 uc57) := K360.out.1
      have cc366 : w24.cell? ⟨w6.heap.size, 1, none⟩ = some (.slice ta58 tn59 tc60) := K360.out.2
      go_wp2_with fail
      refine (Kep.i_eq u347 u34 (Spx.splA i0 zs1 (ns2, ms2)) (Spx.splA i0 zs1 (ns2, ms2)) _ (Kep.iOwn_is O350.out) (Kep.iOwn_is O355.out)).mono ?_
      rintro e w25 ⟨rfl, hb25⟩
      clear cc363 cc364 cc365 cc366
      rw [decide_eq_true (Eq.refl ((Spx.splA i0 zs1 (ns2, ms2))))]
      have Z367 : Hid (w24.heap.size ≤ w25.heap.size) := hb25.size
      have O368 : Hid (Kep.IOwn w25 (w3.heap.size) (md36) u34 (Spx.splA i0 zs1 (ns2, ms2))) := Kep.iOwn_below O355.out hb25
      have O369 : Hid (Kep.IOwn w25 (md36) (w4.heap.size) u35 (Spx.splB i0 zs1 (ns2, ms2))) := Kep.iOwn_below O356.out hb25
      have O370 : Hid (Kep.IMarked w25 (w6.heap.size + 1) (md81) u79 1 nx258) := Kep.iMarked_below O357.out hb25
      have O371 : Hid (Kep.IMarked w25 (md81) (w7.heap.size) u80 nx258 nx271) := Kep.iMarked_below O358.out hb25
      have O372 : Hid (Kep.IOwn w25 (w23.heap.size) (md349) u347 (Spx.splA i0 zs1 (ns2, ms2))) := Kep.iOwn_below O350.out hb25
      have O373 : Hid (Kep.IOwn w25 (md349) (w24.heap.size) u348 (Spx.splB i0 zs1 (ns2, ms2))) := Kep.iOwn_below O351.out hb25
      have K374 : Hid (w25.cell? ⟨w.heap.size, 0, none⟩ = some (.slice ua2 un2 uc2) ∧ w25.cell? ⟨w.heap.size, 1, none⟩ = some (.slice ta2 tn2 tc2)) := ⟨(hb25.cell (p := ⟨w.heap.size, 0, none⟩) (Frame.cell_lt K359.out.1)).trans K359.out.1, (hb25.cell (p := ⟨w.heap.size, 1, none⟩) (Frame.cell_lt K359.out.2)).trans K359.out.2⟩
      have K375 : Hid (w25.cell? ⟨w6.heap.size, 0, none⟩ = some (.slice ua55 un56 uc57) ∧ w25.cell? ⟨w6.heap.size, 1, none⟩ = some (.slice ta58 tn59 tc60)) := ⟨(hb25.cell (p := ⟨w6.heap.size, 0, none⟩) (Frame.cell_lt K360.out.1)).trans K360.out.1, (hb25.cell (p := ⟨w6.heap.size, 1, none⟩) (Frame.cell_lt K360.out.2)).trans K360.out.2⟩
      have B376 : Hid (Below w.heap.size w w25) := Frame.next B361.out hb25 B361.out.size
      clear hb25
      have cc377 : w25.cell? ⟨w.heap.size, 0, none⟩ = some (.slice ua2 un2 uc2) := K374.out.1
      have cc378 : w25.cell? ⟨w.heap.size, 1, none⟩ = some (.slice ta2 tn2 tc2) := K374.out.2
      have cc379 : w25.cell? ⟨w6.heap.size, 0, none⟩ = some (.slice ua55 un56 uc57) := K375.out.1
      have cc380 : w25.cell? ⟨w6.heap.size, 1, none⟩ = some (.slice ta58 tn59 tc60) := K375.out.2
      go_wp2_with fail
      refine (Kep.i_eq u348 u35 (Spx.splB i0 zs1 (ns2, ms2)) (Spx.splB i0 zs1 (ns2, ms2)) _ (Kep.iOwn_is O373.out) (Kep.iOwn_is O369.out)).mono ?_
      rintro e w26 ⟨rfl, hb26⟩
      clear cc377 cc378 cc379 cc380
      rw [decide_eq_true (Eq.refl ((Spx.splB i0 zs1 (ns2, ms2))))]
      have Z381 : Hid (w25.heap.size ≤ w26.heap.size) := hb26.size
      have O382 : Hid (Kep.IOwn w26 (w3.heap.size) (md36) u34 (Spx.splA i0 zs1 (ns2, ms2))) := Kep.iOwn_below O368.out hb26
      have O383 : Hid (Kep.IOwn w26 (md36) (w4.heap.size) u35 (Spx.splB i0 zs1 (ns2, ms2))) := Kep.iOwn_below O369.out hb26
      have O384 : Hid (Kep.IMarked w26 (w6.heap.size + 1) (md81) u79 1 nx258) := Kep.iMarked_below O370.out hb26
      have O385 : Hid (Kep.IMarked w26 (md81) (w7.heap.size) u80 nx258 nx271) := Kep.iMarked_below O371.out hb26
      have O386 : Hid (Kep.IOwn w26 (w23.heap.size) (md349) u347 (Spx.splA i0 zs1 (ns2, ms2))) := Kep.iOwn_below O372.out hb26
      have O387 : Hid (Kep.IOwn w26 (md349) (w24.heap.size) u348 (Spx.splB i0 zs1 (ns2, ms2))) := Kep.iOwn_below O373.out hb26
      have K388 : Hid (w26.cell? ⟨w.heap.size, 0, none⟩ = some (.slice ua2 un2 uc2) ∧ w26.cell? ⟨w.heap.size, 1, none⟩ = some (.slice ta2 tn2 tc2)) := ⟨(hb26.cell (p := ⟨w.heap.size, 0, none⟩) (Frame.cell_lt K374.out.1)).trans K374.out.1, (hb26.cell (p := ⟨w.heap.size, 1, none⟩) (Frame.cell_lt K374.out.2)).trans K374.out.2⟩
      have K389 : Hid (w26.cell? ⟨w6.heap.size, 0, none⟩ = some (.slice ua55 un56 uc57) ∧ w26.cell? ⟨w6.heap.size, 1, none⟩ = some (.slice ta58 tn59 tc60)) := ⟨(hb26.cell (p := ⟨w6.heap.size, 0, none⟩) (Frame.cell_lt K375.out.1)).trans K375.out.1, (hb26.cell (p := ⟨w6.heap.size, 1, none⟩) (Frame.cell_lt K375.out.2)).trans K375.out.2⟩
      have B390 : Hid (Below w.heap.size w w26) := Frame.next B376.out hb26 B376.out.size
      clear hb26
      have cc391 : w26.cell? ⟨w.heap.size, 0, none⟩ = some (.slice ua2 un2 uc2) := K388.out.1
      have cc392 : w26.cell? ⟨w.heap.size, 1, none⟩ = some (.slice ta2 tn2 tc2) := K388.out.2
      have cc393 : w26.cell? ⟨w6.heap.size, 0, none⟩ = some (.slice ua55 un56 uc57) := K389.out.1
      have cc394 : w26.cell? ⟨w6.heap.size, 1, none⟩ = some (.slice ta58 tn59 tc60) := K389.out.2
      go_wp2_with fail
      refine (Kep.i_held u79 _ _ 1 nx258 _ O384.out).mono ?_
      rintro e w27 ⟨rfl, hb27⟩
      clear cc391 cc392 cc393 cc394
      have Z395 : Hid (w26.heap.size ≤ w27.heap.size) := hb27.size
      have O396 : Hid (Kep.IOwn w27 (w3.heap.size) (md36) u34 (Spx.splA i0 zs1 (ns2, ms2))) := Kep.iOwn_below O382.out hb27
      have O397 : Hid (Kep.IOwn w27 (md36) (w4.heap.size) u35 (Spx.splB i0 zs1 (ns2, ms2))) := Kep.iOwn_below O383.out hb27
      have O398 : Hid (Kep.IMarked w27 (w6.heap.size + 1) (md81) u79 1 nx258) := Kep.iMarked_below O384.out hb27
      have O399 : Hid (Kep.IMarked w27 (md81) (w7.heap.size) u80 nx258 nx271) := Kep.iMarked_below O385.out hb27
      have O400 : Hid (Kep.IOwn w27 (w23.heap.size) (md349) u347 (Spx.splA i0 zs1 (ns2, ms2))) := Kep.iOwn_below O386.out hb27
      have O401 : Hid (Kep.IOwn w27 (md349) (w24.heap.size) u348 (Spx.splB i0 zs1 (ns2, ms2))) := Kep.iOwn_below O387.out hb27
      have K402 : Hid (w27.cell? ⟨w.heap.size, 0, none⟩ = some (.slice ua2 un2 uc2) ∧ w27.cell? ⟨w.heap.size, 1, none⟩ = some (.slice ta2 tn2 tc2)) := ⟨(hb27.cell (p := ⟨w.heap.size, 0, none⟩) (Frame.cell_lt K388.out.1)).trans K388.out.1, (hb27.cell (p := ⟨w.heap.size, 1, none⟩) (Frame.cell_lt K388.out.2)).trans K388.out.2⟩
      have K403 : Hid (w27.cell? ⟨w6.heap.size, 0, none⟩ = some (.slice ua55 un56 uc57) ∧ w27.cell? ⟨w6.heap.size, 1, none⟩ = some (.slice ta58 tn59 tc60)) := ⟨(hb27.cell (p := ⟨w6.heap.size, 0, none⟩) (Frame.cell_lt K389.out.1)).trans K389.out.1, (hb27.cell (p := ⟨w6.heap.size, 1, none⟩) (Frame.cell_lt K389.out.2)).trans K389.out.2⟩
      have B404 : Hid (Below w.heap.size w w27) := Frame.next B390.out hb27 B390.out.size
      clear hb27
      have cc405 : w27.cell? ⟨w.heap.size, 0, none⟩ = some (.slice ua2 un2 uc2) := K402.out.1
      have cc406 : w27.cell? ⟨w.heap.size, 1, none⟩ = some (.slice ta2 tn2 tc2) := K402.out.2
      have cc407 : w27.cell? ⟨w6.heap.size, 0, none⟩ = some (.slice ua55 un56 uc57) := K403.out.1
      have cc408 : w27.cell? ⟨w6.heap.size, 1, none⟩ = some (.slice ta58 tn59 tc60) := K403.out.2
      go_wp2_with fail
      refine (Kep.i_held u80 _ _ nx258 nx271 _ O399.out).mono ?_
      rintro e w28 ⟨rfl, hb28⟩
      clear cc405 cc406 cc407 cc408
      have Z409 : Hid (w27.heap.size ≤ w28.heap.size) := hb28.size
      have O410 : Hid (Kep.IOwn w28 (w3.heap.size) (md36) u34 (Spx.splA i0 zs1 (ns2, ms2))) := Kep.iOwn_below O396.out hb28
      have O411 : Hid (Kep.IOwn w28 (md36) (w4.heap.size) u35 (Spx.splB i0 zs1 (ns2, ms2))) := Kep.iOwn_below O397.out hb28
      have O412 : Hid (Kep.IMarked w28 (w6.heap.size + 1) (md81) u79 1 nx258) := Kep.iMarked_below O398.out hb28
      have O413 : Hid (Kep.IMarked w28 (md81) (w7.heap.size) u80 nx258 nx271) := Kep.iMarked_below O399.out hb28
      have O414 : Hid (Kep.IOwn w28 (w23.heap.size) (md349) u347 (Spx.splA i0 zs1 (ns2, ms2))) := Kep.iOwn_below O400.out hb28
      have O415 : Hid (Kep.IOwn w28 (md349) (w24.heap.size) u348 (Spx.splB i0 zs1 (ns2, ms2))) := Kep.iOwn_below O401.out hb28
      have K416 : Hid (w28.cell? ⟨w.heap.size, 0, none⟩ = some (.slice ua2 un2 uc2) ∧ w28.cell? ⟨w.heap.size, 1, none⟩ = some (.slice ta2 tn2 tc2)) := ⟨(hb28.cell (p := ⟨w.heap.size, 0, none⟩) (Frame.cell_lt K402.out.1)).trans K402.out.1, (hb28.cell (p := ⟨w.heap.size, 1, none⟩) (Frame.cell_lt K402.out.2)).trans K402.out.2⟩
      have K417 : Hid (w28.cell? ⟨w6.heap.size, 0, none⟩ = some (.slice ua55 un56 uc57) ∧ w28.cell? ⟨w6.heap.size, 1, none⟩ = some (.slice ta58 tn59 tc60)) := ⟨(hb28.cell (p := ⟨w6.heap.size, 0, none⟩) (Frame.cell_lt K403.out.1)).trans K403.out.1, (hb28.cell (p := ⟨w6.heap.size, 1, none⟩) (Frame.cell_lt K403.out.2)).trans K403.out.2⟩
      have B418 : Hid (Below w.heap.size w w28) := Frame.next B404.out hb28 B404.out.size
      clear hb28
      go_wp2
      go_ret
      exact ⟨rfl, B418.out⟩

set_option maxRecDepth 100000 in
theorem contract (H : Type) (enc : TypeId × Value → H) (W : World) (base : Nat) (args : Array Value) (ds gs : List (DataW H)) (before : List MemPlace)
    (hval0 : ∀ (j : Nat) t v, Try.f12.params[j]? = some t → args[j]? = some v → Value.okWide Try.prog W .any base t v)
    (hW : DataW.Whole enc Try.prog Try.f12.params.toList Rows.fnExactSplitBySpec.vars false W args.toList ds gs before) :
    Calls Try.prog 12 args W fun e W' => ∃ v, e = .returned v ∧ Rows.fnExactSplitBySpec.post enc Try.prog Try.f12 false true false false W args v W' := by
  refine Frame.law_calls (tb := 4) laidOut (by kernel_rfl) (by kernel_rfl) (by kernel_rfl) Try.underlying4 hW (fun ds gs h1 h2 => ?_) ?_
  · rw [Try.params12] at h1
    match ds, gs, h1, h2 with
    | [_, _, _], [], _, _ => rfl
  · obtain ⟨p, q, hA0, _, _, _, _⟩ := hW
    have hval : ∀ (j : Nat) t v, Try.f12.params[j]? = some t → args[j]? = some v → Value.okWide Try.prog W .any base t v := hval0
    have hA : DataW.TrodAll enc Try.prog W 0 (fun _ => true) true Try.f12.params.toList args.toList ds p := hA0
    rw [Try.params12] at hA hval
    obtain ⟨v0, vs0, d0, ds0, p0, q0, hargs, rfl, rfl, h0, r0⟩ := trodAll_cons hA
    obtain ⟨v1, vs1, d1, ds1, p1, q1, rfl, rfl, rfl, h1, r1⟩ := trodAll_cons r0
    obtain ⟨v2, vs2, d2, ds2, p2, q2, rfl, rfl, rfl, h2, r2⟩ := trodAll_cons r1
    obtain ⟨rfl, rfl, rfl⟩ := trodAll_nil r2
    obtain rfl : args = #[v0, v1, v2] := by cases args; simp_all
    obtain ⟨a0, rfl, rfl, rfl, w0⟩ := open_int Try.underlying3 (hval 0 3 v0 rfl rfl) h0
    obtain ⟨a1, len1, cap1, rfl⟩ := okWide_slice Try.underlying24 (hval 1 24 v1 rfl rfl)
    obtain ⟨z1, w1⟩ := Frame.isRow_of Try.underlying24 Try.underlying3 (by kernel_rfl) h1
    obtain ⟨ua2, un2, uc2, ns2, ta2, tn2, tc2, ms2, rfl, wu2, wt2⟩ := Opd.dep_of (hval 2 80 v2 rfl rfl) h2
    exact walk a0 a1 len1 cap1 z1 ua2 un2 uc2 ns2 ta2 tn2 tc2 ms2 W w0 w1 wu2 wt2

set_option maxRecDepth 100000 in
theorem lifted (os : Os) (started : os.Started) (H : Type) (enc : TypeId × Value → H) :
    ReturnsInHanded {} Try.checked os 12 .any (Rows.fnExactSplitBySpec.pre6 enc Try.prog Try.f12 Rows.fnExactSplitByRow.domain false) (Rows.fnExactSplitBySpec.post enc Try.prog Try.f12 false true false false) := by
  refine returnsInHanded_of_change (C := Try.checked) own started (by kernel_rfl) Try.func12
    (ChangeSpec.witness6 (enc := enc) (C := Try.checked) false ⟨#[], #[.int .i64 0, .slice none 0 0, .agg #[.slice none 0 0, .slice none 0 0]], []⟩ 8 (by kernel_rfl) (by kernel_rfl) (by kernel_rfl) (by kernel_rfl)) ?_
  intro W base args ds gs before hval hW _ _
  exact contract H enc W base args ds gs before hval hW

theorem fnamed : Try.prog.funcNamed Rows.fnExactSplitByRow.func = some 12 := by kernel_rfl

theorem joined : joinedFacts Try.prog 12 Try.f12 Rows.fnExactSplitBySpec Rows.fnExactSplitByRow = true := by kernel_rfl

/-- The statement. -/
theorem proved : Rows.FnExactSplitBySaid :=
  OpenClaim.holds_of_wide 12 Try.f12 rfl rfl rfl rfl rfl rfl rfl ⟨rfl, rfl, rfl, rfl, rfl⟩ rfl rfl rfl rfl rfl fnamed Try.func12 joined
    (of_decide_eq_true (by kernel_rfl)) (by unfold Func.isWrapper; first | (rw [if_pos (by decide +kernel)]; kernel_rfl) | (rw [if_neg (by decide +kernel)]; exact ⟨rfl, rfl⟩))
    (fun os started H enc _ => lifted os started H enc)
#print axioms proved

end Go.Proofs.Ytfekaladfifgoaa.fnExactSplitBy
