/-
  Proved: at every argument the law FnExactOneByOne returns true, and its arguments read afterwards as they did.
-/
import Derived.Test.YteihgbiifcgipaaFrame
import Derived.Test.YteihgbiifcgipaaPob
namespace Go.Proofs.Yteihgbiifcgipaa.fnExactOneByOne
open Go.ChangeShapes Go.WideShapes Go.ChangeAt Go.RowKit

theorem own : ownKnob Try.prog.godebug = none := by kernel_rfl
theorem laidOut : laidOutB Try.prog = true := by kernel_rfl

open Go.Proofs.Yteihgbiifcgipaa.Kep

set_option maxRecDepth 100000 in
set_option maxHeartbeats 4000000 in
theorem walk (a0 : Option Addr) (n0 c0 : Nat) (xs0 : List FAct.D) (a1 : Option Addr) (n1 c1 : Nat) (zs1 : List Int) (w : World) (h0 : FAct.IsX w a0 n0 c0 xs0) (h1 : Frame.IsRow .i64 w a1 n1 c1 zs1) :
    Calls Try.prog 8 #[.slice a0 n0 c0, .slice a1 n1 c1] w fun e w' => e = .returned (.bool true) ∧ Below w.heap.size w w' := by
  have HR0 : Hid (FAct.IsX w a0 n0 c0 xs0) := h0
  clear h0
  have HR1 : Hid (Frame.IsRow .i64 w a1 n1 c1 zs1) := h1
  have hmx1 : n1 ≤ 9223372036854775807 := by have := h1.fits; have := h1.max; unfold maxLen at *; omega
  clear h1
  have B0 : Hid (Below w.heap.size w w) := Below.refl _ _
  go_enter Try.func8, Try.ntmps8
  by_cases hN1 : 1048576 < n1
  · have hNI1 : (1048576 : Int) < (n1 : Int) := by omega
    go_wp2
    go_ret
    exact ⟨rfl, B0.out⟩
  · have A1 : Hid (Kep.IIs w (.slice a1 n1 c1) zs1) := ⟨_, _, _, rfl, HR1.out, by omega⟩
    have hNJ1 : ¬ (1048576 : Int) < (n1 : Int) := by omega
    go_wp2_with fail
    refine (FAct.x_sz a0 n0 c0 1048576 _ (Nat.le_trans HR0.out.fits HR0.out.max) (by omega) (by omega)).mono ?_
    rintro e w1 ⟨rfl, hb1⟩
    have Z1 : Hid (w.heap.size ≤ w1.heap.size) := hb1.size
    have B2 : Hid (Below w.heap.size w w1) := Frame.next B0.out hb1 B0.out.size
    clear hb1
    by_cases hL1 : FAct.left 1048576 n0 < 0
    · go_wp2
      go_ret
      exact ⟨rfl, B2.out⟩
    · have ht0 : n0 ≤ 1048576 := by unfold FAct.left at hL1; split at hL1 <;> omega
      have A0 : Hid (FAct.XIs w (.slice a0 n0 c0) xs0) := ⟨_, _, _, rfl, HR0.out, ht0⟩
      have hB1 : FAct.left 1048576 n0 ≤ 1048576 := by unfold FAct.left; split <;> omega
      clear ht0
      generalize hG1 : FAct.left 1048576 n0 = L3 at hL1 hB1 ⊢
      clear hG1
      go_wp2_with fail
      refine (FAct.x_to (.slice a0 n0 c0) xs0 _ (FAct.xIs_below A0.out B2.out)).mono ?_
      rintro e w2 ⟨u4, rfl, ho, hb2⟩
      have O5 : Hid (FAct.XOwn w2 (w1.heap.size) (w2.heap.size) u4 xs0) := ho
      have Z6 : Hid (w1.heap.size ≤ w2.heap.size) := hb2.size
      have B7 : Hid (Below w.heap.size w w2) := Frame.next B2.out hb2 B2.out.size
      clear ho hb2
      go_wp2_with fail
      refine (Kep.i_to (.slice a1 n1 c1) zs1 _ (Kep.iIs_below A1.out B7.out)).mono ?_
      rintro e w3 ⟨u9, rfl, ho, hb3⟩
      have O10 : Hid (Kep.IOwn w3 (w2.heap.size) (w3.heap.size) u9 zs1) := ho
      have Z11 : Hid (w2.heap.size ≤ w3.heap.size) := hb3.size
      have O12 : Hid (FAct.XOwn w3 (w1.heap.size) (w2.heap.size) u4 xs0) := FAct.xOwn_below O5.out hb3
      have B13 : Hid (Below w.heap.size w w3) := Frame.next B7.out hb3 B7.out.size
      clear ho hb3
      go_wp2_with fail
      refine (Pob.spec_OneByOne u4 u9 xs0 zs1 _ (FAct.xOwn_is O12.out) (Kep.iOwn_is O10.out)).mono ?_
      rintro e w4 ⟨u15, rfl, ho0, hb4⟩
      have O16 : Hid (FAct.XOwn w4 (w3.heap.size) (w4.heap.size) u15 (Pob.oneV xs0 zs1)) := ho0
      have Z17 : Hid (w3.heap.size ≤ w4.heap.size) := hb4.size
      have B18 : Hid (Below w.heap.size w w4) := Frame.next B13.out hb4 B13.out.size
      clear ho0 hb4
      go_wp2_with fail
      refine (FAct.x_to (.slice a0 n0 c0) xs0 _ (FAct.xIs_below A0.out B18.out)).mono ?_
      rintro e w5 ⟨u19, rfl, ho, hb5⟩
      have O20 : Hid (FAct.XOwn w5 (w4.heap.size) (w5.heap.size) u19 xs0) := ho
      have Z21 : Hid (w4.heap.size ≤ w5.heap.size) := hb5.size
      have O22 : Hid (FAct.XOwn w5 (w3.heap.size) (w4.heap.size) u15 (Pob.oneV xs0 zs1)) := FAct.xOwn_below O16.out hb5
      have B23 : Hid (Below w.heap.size w w5) := Frame.next B18.out hb5 B18.out.size
      clear ho hb5
      go_wp2_with fail
      refine (Kep.i_to (.slice a1 n1 c1) zs1 _ (Kep.iIs_below A1.out B23.out)).mono ?_
      rintro e w6 ⟨u25, rfl, ho, hb6⟩
      have O26 : Hid (Kep.IOwn w6 (w5.heap.size) (w6.heap.size) u25 zs1) := ho
      have Z27 : Hid (w5.heap.size ≤ w6.heap.size) := hb6.size
      have O28 : Hid (FAct.XOwn w6 (w3.heap.size) (w4.heap.size) u15 (Pob.oneV xs0 zs1)) := FAct.xOwn_below O22.out hb6
      have O29 : Hid (FAct.XOwn w6 (w4.heap.size) (w5.heap.size) u19 xs0) := FAct.xOwn_below O20.out hb6
      have B30 : Hid (Below w.heap.size w w6) := Frame.next B23.out hb6 B23.out.size
      clear ho hb6
      go_wp2_with fail
      refine (Pob.impl_OneByOne u19 u25 xs0 zs1 _ (FAct.xOwn_is O29.out) (Kep.iOwn_is O26.out)).mono ?_
      rintro e w7 ⟨u32, rfl, ho0, hb7⟩
      have O33 : Hid (FAct.XOwn w7 (w6.heap.size) (w7.heap.size) u32 (Pob.oneV xs0 zs1)) := ho0
      have Z34 : Hid (w6.heap.size ≤ w7.heap.size) := hb7.size
      have O35 : Hid (FAct.XOwn w7 (w3.heap.size) (w4.heap.size) u15 (Pob.oneV xs0 zs1)) := FAct.xOwn_below O28.out hb7
      have O36 : Hid (FAct.XOwn w7 (w4.heap.size) (w5.heap.size) u19 xs0) := FAct.xOwn_below O29.out hb7
      have O37 : Hid (Kep.IOwn w7 (w5.heap.size) (w6.heap.size) u25 zs1) := Kep.iOwn_below O26.out hb7
      have B38 : Hid (Below w.heap.size w w7) := Frame.next B30.out hb7 B30.out.size
      clear ho0 hb7
      go_wp2_with fail
      refine (FAct.x_eq u32 u15 (Pob.oneV xs0 zs1) (Pob.oneV xs0 zs1) _ (FAct.xOwn_is O33.out) (FAct.xOwn_is O35.out)).mono ?_
      rintro e w8 ⟨rfl, hb8⟩
      rw [decide_eq_true (Eq.refl ((Pob.oneV xs0 zs1)))]
      have Z39 : Hid (w7.heap.size ≤ w8.heap.size) := hb8.size
      have O40 : Hid (FAct.XOwn w8 (w3.heap.size) (w4.heap.size) u15 (Pob.oneV xs0 zs1)) := FAct.xOwn_below O35.out hb8
      have O41 : Hid (FAct.XOwn w8 (w4.heap.size) (w5.heap.size) u19 xs0) := FAct.xOwn_below O36.out hb8
      have O42 : Hid (Kep.IOwn w8 (w5.heap.size) (w6.heap.size) u25 zs1) := Kep.iOwn_below O37.out hb8
      have O43 : Hid (FAct.XOwn w8 (w6.heap.size) (w7.heap.size) u32 (Pob.oneV xs0 zs1)) := FAct.xOwn_below O33.out hb8
      have B44 : Hid (Below w.heap.size w w8) := Frame.next B38.out hb8 B38.out.size
      clear hb8
      go_wp2_with fail
      refine (FAct.x_to (.slice a0 n0 c0) xs0 _ (FAct.xIs_below A0.out B44.out)).mono ?_
      rintro e w9 ⟨u45, rfl, ho, hb9⟩
      have O46 : Hid (FAct.XOwn w9 (w8.heap.size) (w9.heap.size) u45 xs0) := ho
      have Z47 : Hid (w8.heap.size ≤ w9.heap.size) := hb9.size
      have O48 : Hid (FAct.XOwn w9 (w3.heap.size) (w4.heap.size) u15 (Pob.oneV xs0 zs1)) := FAct.xOwn_below O40.out hb9
      have O49 : Hid (FAct.XOwn w9 (w4.heap.size) (w5.heap.size) u19 xs0) := FAct.xOwn_below O41.out hb9
      have O50 : Hid (Kep.IOwn w9 (w5.heap.size) (w6.heap.size) u25 zs1) := Kep.iOwn_below O42.out hb9
      have O51 : Hid (FAct.XOwn w9 (w6.heap.size) (w7.heap.size) u32 (Pob.oneV xs0 zs1)) := FAct.xOwn_below O43.out hb9
      have B52 : Hid (Below w.heap.size w w9) := Frame.next B44.out hb9 B44.out.size
      clear ho hb9
      go_wp2_with fail
      refine (FAct.x_eq u19 u45 xs0 xs0 _ (FAct.xOwn_is O49.out) (FAct.xOwn_is O46.out)).mono ?_
      rintro e w10 ⟨rfl, hb10⟩
      rw [decide_eq_true (Eq.refl (xs0))]
      have Z54 : Hid (w9.heap.size ≤ w10.heap.size) := hb10.size
      have O55 : Hid (FAct.XOwn w10 (w3.heap.size) (w4.heap.size) u15 (Pob.oneV xs0 zs1)) := FAct.xOwn_below O48.out hb10
      have O56 : Hid (FAct.XOwn w10 (w4.heap.size) (w5.heap.size) u19 xs0) := FAct.xOwn_below O49.out hb10
      have O57 : Hid (Kep.IOwn w10 (w5.heap.size) (w6.heap.size) u25 zs1) := Kep.iOwn_below O50.out hb10
      have O58 : Hid (FAct.XOwn w10 (w6.heap.size) (w7.heap.size) u32 (Pob.oneV xs0 zs1)) := FAct.xOwn_below O51.out hb10
      have O59 : Hid (FAct.XOwn w10 (w8.heap.size) (w9.heap.size) u45 xs0) := FAct.xOwn_below O46.out hb10
      have B60 : Hid (Below w.heap.size w w10) := Frame.next B52.out hb10 B52.out.size
      clear hb10
      go_wp2_with fail
      refine (Kep.i_to (.slice a1 n1 c1) zs1 _ (Kep.iIs_below A1.out B60.out)).mono ?_
      rintro e w11 ⟨u61, rfl, ho, hb11⟩
      have O62 : Hid (Kep.IOwn w11 (w10.heap.size) (w11.heap.size) u61 zs1) := ho
      have Z63 : Hid (w10.heap.size ≤ w11.heap.size) := hb11.size
      have O64 : Hid (FAct.XOwn w11 (w3.heap.size) (w4.heap.size) u15 (Pob.oneV xs0 zs1)) := FAct.xOwn_below O55.out hb11
      have O65 : Hid (FAct.XOwn w11 (w4.heap.size) (w5.heap.size) u19 xs0) := FAct.xOwn_below O56.out hb11
      have O66 : Hid (Kep.IOwn w11 (w5.heap.size) (w6.heap.size) u25 zs1) := Kep.iOwn_below O57.out hb11
      have O67 : Hid (FAct.XOwn w11 (w6.heap.size) (w7.heap.size) u32 (Pob.oneV xs0 zs1)) := FAct.xOwn_below O58.out hb11
      have B68 : Hid (Below w.heap.size w w11) := Frame.next B60.out hb11 B60.out.size
      clear ho hb11
      go_wp2_with fail
      refine (Kep.i_eq u25 u61 zs1 zs1 _ (Kep.iOwn_is O66.out) (Kep.iOwn_is O62.out)).mono ?_
      rintro e w12 ⟨rfl, hb12⟩
      rw [decide_eq_true (Eq.refl (zs1))]
      have Z70 : Hid (w11.heap.size ≤ w12.heap.size) := hb12.size
      have O71 : Hid (FAct.XOwn w12 (w3.heap.size) (w4.heap.size) u15 (Pob.oneV xs0 zs1)) := FAct.xOwn_below O64.out hb12
      have O72 : Hid (FAct.XOwn w12 (w4.heap.size) (w5.heap.size) u19 xs0) := FAct.xOwn_below O65.out hb12
      have O73 : Hid (Kep.IOwn w12 (w5.heap.size) (w6.heap.size) u25 zs1) := Kep.iOwn_below O66.out hb12
      have O74 : Hid (FAct.XOwn w12 (w6.heap.size) (w7.heap.size) u32 (Pob.oneV xs0 zs1)) := FAct.xOwn_below O67.out hb12
      have O75 : Hid (Kep.IOwn w12 (w10.heap.size) (w11.heap.size) u61 zs1) := Kep.iOwn_below O62.out hb12
      have B76 : Hid (Below w.heap.size w w12) := Frame.next B68.out hb12 B68.out.size
      clear hb12
      go_wp2_with fail
      refine (FAct.x_mark u19 xs0 _ _ 1 _ O72.out (by omega) (by omega)).mono ?_
      rintro e w13 ⟨nx77, rfl, hn0nx77, hn1nx77, hm, hb13⟩
      have hznx77 : ¬ nx77 < 0 := by omega
      have O78 : Hid (FAct.XMarked w13 (w4.heap.size) (w5.heap.size) u19 1 nx77) := hm
      have Z79 : Hid (w12.heap.size ≤ w13.heap.size) := hb13.size
      have O80 : Hid (FAct.XOwn w13 (w3.heap.size) (w4.heap.size) u15 (Pob.oneV xs0 zs1)) := FAct.xOwn_keeps O71.out hb13 (by have z0 := Z1.out; have z1 := Z6.out; have z2 := Z11.out; have z3 := Z17.out; have z4 := Z21.out; have z5 := Z27.out; have z6 := Z34.out; have z7 := Z39.out; have z8 := Z47.out; have z9 := Z54.out; have z10 := Z63.out; have z11 := Z70.out; omega)
      have O81 : Hid (Kep.IOwn w13 (w5.heap.size) (w6.heap.size) u25 zs1) := Kep.iOwn_keeps O73.out hb13 (by have z0 := Z1.out; have z1 := Z6.out; have z2 := Z11.out; have z3 := Z17.out; have z4 := Z21.out; have z5 := Z27.out; have z6 := Z34.out; have z7 := Z39.out; have z8 := Z47.out; have z9 := Z54.out; have z10 := Z63.out; have z11 := Z70.out; omega)
      have O82 : Hid (FAct.XOwn w13 (w6.heap.size) (w7.heap.size) u32 (Pob.oneV xs0 zs1)) := FAct.xOwn_keeps O74.out hb13 (by have z0 := Z1.out; have z1 := Z6.out; have z2 := Z11.out; have z3 := Z17.out; have z4 := Z21.out; have z5 := Z27.out; have z6 := Z34.out; have z7 := Z39.out; have z8 := Z47.out; have z9 := Z54.out; have z10 := Z63.out; have z11 := Z70.out; omega)
      have B83 : Hid (Below w.heap.size w w13) := Keeps.below B76.out hb13 (by have z0 := Z1.out; have z1 := Z6.out; have z2 := Z11.out; have z3 := Z17.out; have z4 := Z21.out; have z5 := Z27.out; have z6 := Z34.out; have z7 := Z39.out; have z8 := Z47.out; have z9 := Z54.out; have z10 := Z63.out; have z11 := Z70.out; omega) B76.out.size
      clear hm hb13
      go_wp2_with fail
      refine (Kep.i_mark u25 zs1 _ _ nx77 _ O81.out (by omega) (by omega)).mono ?_
      rintro e w14 ⟨nx84, rfl, hn0nx84, hn1nx84, hm, hb14⟩
      have hznx84 : ¬ nx84 < 0 := by omega
      have O85 : Hid (Kep.IMarked w14 (w5.heap.size) (w6.heap.size) u25 nx77 nx84) := hm
      have Z86 : Hid (w13.heap.size ≤ w14.heap.size) := hb14.size
      have O87 : Hid (FAct.XOwn w14 (w3.heap.size) (w4.heap.size) u15 (Pob.oneV xs0 zs1)) := FAct.xOwn_keeps O80.out hb14 (by have z0 := Z1.out; have z1 := Z6.out; have z2 := Z11.out; have z3 := Z17.out; have z4 := Z21.out; have z5 := Z27.out; have z6 := Z34.out; have z7 := Z39.out; have z8 := Z47.out; have z9 := Z54.out; have z10 := Z63.out; have z11 := Z70.out; have z12 := Z79.out; omega)
      have O88 : Hid (FAct.XMarked w14 (w4.heap.size) (w5.heap.size) u19 1 nx77) := FAct.xMarked_keeps O78.out hb14 (by have z0 := Z1.out; have z1 := Z6.out; have z2 := Z11.out; have z3 := Z17.out; have z4 := Z21.out; have z5 := Z27.out; have z6 := Z34.out; have z7 := Z39.out; have z8 := Z47.out; have z9 := Z54.out; have z10 := Z63.out; have z11 := Z70.out; have z12 := Z79.out; omega)
      have O89 : Hid (FAct.XOwn w14 (w6.heap.size) (w7.heap.size) u32 (Pob.oneV xs0 zs1)) := FAct.xOwn_keeps O82.out hb14 (by have z0 := Z1.out; have z1 := Z6.out; have z2 := Z11.out; have z3 := Z17.out; have z4 := Z21.out; have z5 := Z27.out; have z6 := Z34.out; have z7 := Z39.out; have z8 := Z47.out; have z9 := Z54.out; have z10 := Z63.out; have z11 := Z70.out; have z12 := Z79.out; omega)
      have B90 : Hid (Below w.heap.size w w14) := Keeps.below B83.out hb14 (by have z0 := Z1.out; have z1 := Z6.out; have z2 := Z11.out; have z3 := Z17.out; have z4 := Z21.out; have z5 := Z27.out; have z6 := Z34.out; have z7 := Z39.out; have z8 := Z47.out; have z9 := Z54.out; have z10 := Z63.out; have z11 := Z70.out; have z12 := Z79.out; omega) B83.out.size
      clear hm hb14
      go_wp2_with fail
      refine (FAct.x_eq u32 u15 (Pob.oneV xs0 zs1) (Pob.oneV xs0 zs1) _ (FAct.xOwn_is O89.out) (FAct.xOwn_is O87.out)).mono ?_
      rintro e w15 ⟨rfl, hb15⟩
      rw [decide_eq_true (Eq.refl ((Pob.oneV xs0 zs1)))]
      have Z91 : Hid (w14.heap.size ≤ w15.heap.size) := hb15.size
      have O92 : Hid (FAct.XOwn w15 (w3.heap.size) (w4.heap.size) u15 (Pob.oneV xs0 zs1)) := FAct.xOwn_below O87.out hb15
      have O93 : Hid (FAct.XMarked w15 (w4.heap.size) (w5.heap.size) u19 1 nx77) := FAct.xMarked_below O88.out hb15
      have O94 : Hid (Kep.IMarked w15 (w5.heap.size) (w6.heap.size) u25 nx77 nx84) := Kep.iMarked_below O85.out hb15
      have O95 : Hid (FAct.XOwn w15 (w6.heap.size) (w7.heap.size) u32 (Pob.oneV xs0 zs1)) := FAct.xOwn_below O89.out hb15
      have B96 : Hid (Below w.heap.size w w15) := Frame.next B90.out hb15 B90.out.size
      clear hb15
      go_wp2_with fail
      refine (FAct.x_mark u32 (Pob.oneV xs0 zs1) _ _ 1 _ O95.out (by omega) (by omega)).mono ?_
      rintro e w16 ⟨nx97, rfl, hn0nx97, hn1nx97, hm, hb16⟩
      have hznx97 : ¬ nx97 < 0 := by omega
      have O98 : Hid (FAct.XMarked w16 (w6.heap.size) (w7.heap.size) u32 1 nx97) := hm
      have Z99 : Hid (w15.heap.size ≤ w16.heap.size) := hb16.size
      have O100 : Hid (FAct.XOwn w16 (w3.heap.size) (w4.heap.size) u15 (Pob.oneV xs0 zs1)) := FAct.xOwn_keeps O92.out hb16 (by have z0 := Z1.out; have z1 := Z6.out; have z2 := Z11.out; have z3 := Z17.out; have z4 := Z21.out; have z5 := Z27.out; have z6 := Z34.out; have z7 := Z39.out; have z8 := Z47.out; have z9 := Z54.out; have z10 := Z63.out; have z11 := Z70.out; have z12 := Z79.out; have z13 := Z86.out; have z14 := Z91.out; omega)
      have B101 : Hid (Below w.heap.size w w16) := Keeps.below B96.out hb16 (by have z0 := Z1.out; have z1 := Z6.out; have z2 := Z11.out; have z3 := Z17.out; have z4 := Z21.out; have z5 := Z27.out; have z6 := Z34.out; have z7 := Z39.out; have z8 := Z47.out; have z9 := Z54.out; have z10 := Z63.out; have z11 := Z70.out; have z12 := Z79.out; have z13 := Z86.out; have z14 := Z91.out; omega) B96.out.size
      clear hm hb16
      go_wp2_with fail
      refine (FAct.x_held u32 _ _ 1 nx97 _ O98.out).mono ?_
      rintro e w17 ⟨rfl, hb17⟩
      have Z102 : Hid (w16.heap.size ≤ w17.heap.size) := hb17.size
      have O103 : Hid (FAct.XOwn w17 (w3.heap.size) (w4.heap.size) u15 (Pob.oneV xs0 zs1)) := FAct.xOwn_below O100.out hb17
      have O104 : Hid (FAct.XMarked w17 (w6.heap.size) (w7.heap.size) u32 1 nx97) := FAct.xMarked_below O98.out hb17
      have B105 : Hid (Below w.heap.size w w17) := Frame.next B101.out hb17 B101.out.size
      clear hb17
      go_wp2_with fail
      refine (FAct.x_to (.slice a0 n0 c0) xs0 _ (FAct.xIs_below A0.out B105.out)).mono ?_
      rintro e w18 ⟨u106, rfl, ho, hb18⟩
      have O107 : Hid (FAct.XOwn w18 (w17.heap.size) (w18.heap.size) u106 xs0) := ho
      have Z108 : Hid (w17.heap.size ≤ w18.heap.size) := hb18.size
      have O109 : Hid (FAct.XOwn w18 (w3.heap.size) (w4.heap.size) u15 (Pob.oneV xs0 zs1)) := FAct.xOwn_below O103.out hb18
      have O110 : Hid (FAct.XMarked w18 (w6.heap.size) (w7.heap.size) u32 1 nx97) := FAct.xMarked_below O104.out hb18
      have B111 : Hid (Below w.heap.size w w18) := Frame.next B105.out hb18 B105.out.size
      clear ho hb18
      go_wp2_with fail
      refine (Kep.i_to (.slice a1 n1 c1) zs1 _ (Kep.iIs_below A1.out B111.out)).mono ?_
      rintro e w19 ⟨u113, rfl, ho, hb19⟩
      have O114 : Hid (Kep.IOwn w19 (w18.heap.size) (w19.heap.size) u113 zs1) := ho
      have Z115 : Hid (w18.heap.size ≤ w19.heap.size) := hb19.size
      have O116 : Hid (FAct.XOwn w19 (w3.heap.size) (w4.heap.size) u15 (Pob.oneV xs0 zs1)) := FAct.xOwn_below O109.out hb19
      have O117 : Hid (FAct.XMarked w19 (w6.heap.size) (w7.heap.size) u32 1 nx97) := FAct.xMarked_below O110.out hb19
      have O118 : Hid (FAct.XOwn w19 (w17.heap.size) (w18.heap.size) u106 xs0) := FAct.xOwn_below O107.out hb19
      have B119 : Hid (Below w.heap.size w w19) := Frame.next B111.out hb19 B111.out.size
      clear ho hb19
      go_wp2_with fail
      refine (Pob.impl_OneByOne u106 u113 xs0 zs1 _ (FAct.xOwn_is O118.out) (Kep.iOwn_is O114.out)).mono ?_
      rintro e w20 ⟨u121, rfl, ho0, hb20⟩
      have O122 : Hid (FAct.XOwn w20 (w19.heap.size) (w20.heap.size) u121 (Pob.oneV xs0 zs1)) := ho0
      have Z123 : Hid (w19.heap.size ≤ w20.heap.size) := hb20.size
      have O124 : Hid (FAct.XOwn w20 (w3.heap.size) (w4.heap.size) u15 (Pob.oneV xs0 zs1)) := FAct.xOwn_below O116.out hb20
      have O125 : Hid (FAct.XMarked w20 (w6.heap.size) (w7.heap.size) u32 1 nx97) := FAct.xMarked_below O117.out hb20
      have B126 : Hid (Below w.heap.size w w20) := Frame.next B119.out hb20 B119.out.size
      clear ho0 hb20
      go_wp2_with fail
      refine (FAct.x_eq u121 u15 (Pob.oneV xs0 zs1) (Pob.oneV xs0 zs1) _ (FAct.xOwn_is O122.out) (FAct.xOwn_is O124.out)).mono ?_
      rintro e w21 ⟨rfl, hb21⟩
      rw [decide_eq_true (Eq.refl ((Pob.oneV xs0 zs1)))]
      have Z127 : Hid (w20.heap.size ≤ w21.heap.size) := hb21.size
      have O128 : Hid (FAct.XOwn w21 (w3.heap.size) (w4.heap.size) u15 (Pob.oneV xs0 zs1)) := FAct.xOwn_below O124.out hb21
      have O129 : Hid (FAct.XMarked w21 (w6.heap.size) (w7.heap.size) u32 1 nx97) := FAct.xMarked_below O125.out hb21
      have O130 : Hid (FAct.XOwn w21 (w19.heap.size) (w20.heap.size) u121 (Pob.oneV xs0 zs1)) := FAct.xOwn_below O122.out hb21
      have B131 : Hid (Below w.heap.size w w21) := Frame.next B126.out hb21 B126.out.size
      clear hb21
      go_wp2_with fail
      refine (FAct.x_held u32 _ _ 1 nx97 _ O129.out).mono ?_
      rintro e w22 ⟨rfl, hb22⟩
      have Z132 : Hid (w21.heap.size ≤ w22.heap.size) := hb22.size
      have O133 : Hid (FAct.XOwn w22 (w3.heap.size) (w4.heap.size) u15 (Pob.oneV xs0 zs1)) := FAct.xOwn_below O128.out hb22
      have O134 : Hid (FAct.XMarked w22 (w6.heap.size) (w7.heap.size) u32 1 nx97) := FAct.xMarked_below O129.out hb22
      have O135 : Hid (FAct.XOwn w22 (w19.heap.size) (w20.heap.size) u121 (Pob.oneV xs0 zs1)) := FAct.xOwn_below O130.out hb22
      have B136 : Hid (Below w.heap.size w w22) := Frame.next B131.out hb22 B131.out.size
      clear hb22
      go_wp2
      go_ret
      exact ⟨rfl, B136.out⟩

set_option maxRecDepth 100000 in
theorem contract (H : Type) (enc : TypeId × Value → H) (W : World) (base : Nat) (args : Array Value) (ds gs : List (DataW H)) (before : List MemPlace)
    (hval0 : ∀ (j : Nat) t v, Try.f8.params[j]? = some t → args[j]? = some v → Value.okWide Try.prog W .any base t v)
    (hW : DataW.Whole enc Try.prog Try.f8.params.toList Rows.fnExactOneByOneSpec.vars false W args.toList ds gs before) :
    Calls Try.prog 8 args W fun e W' => ∃ v, e = .returned v ∧ Rows.fnExactOneByOneSpec.post enc Try.prog Try.f8 false true false false W args v W' := by
  refine Frame.law_calls (tb := 4) laidOut (by kernel_rfl) (by kernel_rfl) (by kernel_rfl) Try.underlying4 hW (fun ds gs h1 h2 => ?_) ?_
  · rw [Try.params8] at h1
    match ds, gs, h1, h2 with
    | [_, _], [], _, _ => rfl
  · obtain ⟨p, q, hA0, _, _, _, _⟩ := hW
    have hval : ∀ (j : Nat) t v, Try.f8.params[j]? = some t → args[j]? = some v → Value.okWide Try.prog W .any base t v := hval0
    have hA : DataW.TrodAll enc Try.prog W 0 (fun _ => true) true Try.f8.params.toList args.toList ds p := hA0
    rw [Try.params8] at hA hval
    obtain ⟨v0, vs0, d0, ds0, p0, q0, hargs, rfl, rfl, h0, r0⟩ := trodAll_cons hA
    obtain ⟨v1, vs1, d1, ds1, p1, q1, rfl, rfl, rfl, h1, r1⟩ := trodAll_cons r0
    obtain ⟨rfl, rfl, rfl⟩ := trodAll_nil r1
    obtain rfl : args = #[v0, v1] := by cases args; simp_all
    obtain ⟨a0, len0, cap0, rfl⟩ := okWide_slice Try.underlying43 (hval 0 43 v0 rfl rfl)
    obtain ⟨z0, w0⟩ := FAct.isX_of h0
    obtain ⟨a1, len1, cap1, rfl⟩ := okWide_slice Try.underlying25 (hval 1 25 v1 rfl rfl)
    obtain ⟨z1, w1⟩ := Frame.isRow_of Try.underlying25 Try.underlying3 (by kernel_rfl) h1
    exact walk a0 len0 cap0 z0 a1 len1 cap1 z1 W w0 w1

set_option maxRecDepth 100000 in
theorem lifted (os : Os) (started : os.Started) (H : Type) (enc : TypeId × Value → H) :
    ReturnsInHanded {} Try.checked os 8 .any (Rows.fnExactOneByOneSpec.pre6 enc Try.prog Try.f8 Rows.fnExactOneByOneRow.domain false) (Rows.fnExactOneByOneSpec.post enc Try.prog Try.f8 false true false false) := by
  refine returnsInHanded_of_change (C := Try.checked) own started (by kernel_rfl) Try.func8
    (ChangeSpec.witness6 (enc := enc) (C := Try.checked) false ⟨#[], #[.slice none 0 0, .slice none 0 0], []⟩ 8 (by kernel_rfl) (by kernel_rfl) (by kernel_rfl) (by kernel_rfl)) ?_
  intro W base args ds gs before hval hW _ _
  exact contract H enc W base args ds gs before hval hW

theorem fnamed : Try.prog.funcNamed Rows.fnExactOneByOneRow.func = some 8 := by kernel_rfl

theorem joined : joinedFacts Try.prog 8 Try.f8 Rows.fnExactOneByOneSpec Rows.fnExactOneByOneRow = true := by kernel_rfl

/-- The statement. -/
theorem proved : Rows.FnExactOneByOneSaid :=
  OpenClaim.holds_of_wide 8 Try.f8 rfl rfl rfl rfl rfl rfl rfl ⟨rfl, rfl, rfl, rfl, rfl⟩ rfl rfl rfl rfl rfl fnamed Try.func8 joined
    (of_decide_eq_true (by kernel_rfl)) (by unfold Func.isWrapper; first | (rw [if_pos (by decide +kernel)]; kernel_rfl) | (rw [if_neg (by decide +kernel)]; exact ⟨rfl, rfl⟩))
    (fun os started H enc _ => lifted os started H enc)
#print axioms proved

end Go.Proofs.Yteihgbiifcgipaa.fnExactOneByOne
