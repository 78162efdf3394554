/-
  Proved: at every argument the law FnExactHasRound returns true, and its arguments read afterwards as they did.
-/
import Derived.Test.YtlcfdfcfmmhdgaaFrame
import Derived.Test.YtlcfdfcfmmhdgaaHra
namespace Go.Proofs.Ytlcfdfcfmmhdgaa.fnExactHasRound
open Go.ChangeShapes Go.WideShapes Go.ChangeAt Go.RowKit

theorem own : ownKnob Try.prog.godebug = none := by kernel_rfl
theorem laidOut : laidOutB Try.prog = true := by kernel_rfl

open Go.Proofs.Ytlcfdfcfmmhdgaa.Kep

set_option maxRecDepth 100000 in
set_option maxHeartbeats 4000000 in
theorem walk (a0 : Option Addr) (n0 c0 : Nat) (zs0 : List Int) (w : World) (h0 : Frame.IsRow .i64 w a0 n0 c0 zs0) :
    Calls Try.prog 9 #[.slice a0 n0 c0] w fun e w' => e = .returned (.bool true) ∧ Below w.heap.size w w' := by
  have HR0 : Hid (Frame.IsRow .i64 w a0 n0 c0 zs0) := h0
  have hmx0 : n0 ≤ 9223372036854775807 := by have := h0.fits; have := h0.max; unfold maxLen at *; omega
  clear h0
  have B0 : Hid (Below w.heap.size w w) := Below.refl _ _
  go_enter Try.func9, Try.ntmps9
  by_cases hN0 : 1048576 < n0
  · have hNI0 : (1048576 : Int) < (n0 : Int) := by omega
    go_wp2
    go_ret
    exact ⟨rfl, B0.out⟩
  · have A0 : Hid (Kep.IIs w (.slice a0 n0 c0) zs0) := ⟨_, _, _, rfl, HR0.out, by omega⟩
    have hNJ0 : ¬ (1048576 : Int) < (n0 : Int) := by omega
    go_wp2_with fail
    refine (Kep.i_to (.slice a0 n0 c0) zs0 _ (Kep.iIs_below A0.out B0.out)).mono ?_
    rintro e w1 ⟨u1, rfl, ho, hb1⟩
    have O2 : Hid (Kep.IOwn w1 (w.heap.size) (w1.heap.size) u1 zs0) := ho
    have Z3 : Hid (w.heap.size ≤ w1.heap.size) := hb1.size
    have B4 : Hid (Below w.heap.size w w1) := Frame.next B0.out hb1 B0.out.size
    clear ho hb1
    go_wp2_with fail
    refine (Hra.spec_HasRound u1 zs0 _ (Kep.iOwn_is O2.out)).mono ?_
    rintro e w2 ⟨u6, rfl, ho0, hb2⟩
    have O7 : Hid (Kep.IOwn w2 (w1.heap.size) (w2.heap.size) u6 (Hrp.roundV zs0)) := ho0
    have Z8 : Hid (w1.heap.size ≤ w2.heap.size) := hb2.size
    have B9 : Hid (Below w.heap.size w w2) := Frame.next B4.out hb2 B4.out.size
    clear ho0 hb2
    go_wp2_with fail
    refine (Kep.i_to (.slice a0 n0 c0) zs0 _ (Kep.iIs_below A0.out B9.out)).mono ?_
    rintro e w3 ⟨u10, rfl, ho, hb3⟩
    have O11 : Hid (Kep.IOwn w3 (w2.heap.size) (w3.heap.size) u10 zs0) := ho
    have Z12 : Hid (w2.heap.size ≤ w3.heap.size) := hb3.size
    have O13 : Hid (Kep.IOwn w3 (w1.heap.size) (w2.heap.size) u6 (Hrp.roundV zs0)) := Kep.iOwn_below O7.out hb3
    have B14 : Hid (Below w.heap.size w w3) := Frame.next B9.out hb3 B9.out.size
    clear ho hb3
    go_wp2_with fail
    refine (Hra.impl_HasRound u10 zs0 _ (Kep.iOwn_is O11.out)).mono ?_
    rintro e w4 ⟨u16, rfl, ho0, hb4⟩
    have O17 : Hid (Kep.IOwn w4 (w3.heap.size) (w4.heap.size) u16 (Hrp.roundV zs0)) := ho0
    have Z18 : Hid (w3.heap.size ≤ w4.heap.size) := hb4.size
    have O19 : Hid (Kep.IOwn w4 (w1.heap.size) (w2.heap.size) u6 (Hrp.roundV zs0)) := Kep.iOwn_below O13.out hb4
    have O20 : Hid (Kep.IOwn w4 (w2.heap.size) (w3.heap.size) u10 zs0) := Kep.iOwn_below O11.out hb4
    have B21 : Hid (Below w.heap.size w w4) := Frame.next B14.out hb4 B14.out.size
    clear ho0 hb4
    go_wp2_with fail
    refine (Kep.i_eq u16 u6 (Hrp.roundV zs0) (Hrp.roundV zs0) _ (Kep.iOwn_is O17.out) (Kep.iOwn_is O19.out)).mono ?_
    rintro e w5 ⟨rfl, hb5⟩
    rw [decide_eq_true (Eq.refl ((Hrp.roundV zs0)))]
    have Z22 : Hid (w4.heap.size ≤ w5.heap.size) := hb5.size
    have O23 : Hid (Kep.IOwn w5 (w1.heap.size) (w2.heap.size) u6 (Hrp.roundV zs0)) := Kep.iOwn_below O19.out hb5
    have O24 : Hid (Kep.IOwn w5 (w2.heap.size) (w3.heap.size) u10 zs0) := Kep.iOwn_below O20.out hb5
    have O25 : Hid (Kep.IOwn w5 (w3.heap.size) (w4.heap.size) u16 (Hrp.roundV zs0)) := Kep.iOwn_below O17.out hb5
    have B26 : Hid (Below w.heap.size w w5) := Frame.next B21.out hb5 B21.out.size
    clear hb5
    go_wp2_with fail
    refine (Kep.i_to (.slice a0 n0 c0) zs0 _ (Kep.iIs_below A0.out B26.out)).mono ?_
    rintro e w6 ⟨u27, rfl, ho, hb6⟩
    have O28 : Hid (Kep.IOwn w6 (w5.heap.size) (w6.heap.size) u27 zs0) := ho
    have Z29 : Hid (w5.heap.size ≤ w6.heap.size) := hb6.size
    have O30 : Hid (Kep.IOwn w6 (w1.heap.size) (w2.heap.size) u6 (Hrp.roundV zs0)) := Kep.iOwn_below O23.out hb6
    have O31 : Hid (Kep.IOwn w6 (w2.heap.size) (w3.heap.size) u10 zs0) := Kep.iOwn_below O24.out hb6
    have O32 : Hid (Kep.IOwn w6 (w3.heap.size) (w4.heap.size) u16 (Hrp.roundV zs0)) := Kep.iOwn_below O25.out hb6
    have B33 : Hid (Below w.heap.size w w6) := Frame.next B26.out hb6 B26.out.size
    clear ho hb6
    go_wp2_with fail
    refine (Kep.i_eq u10 u27 zs0 zs0 _ (Kep.iOwn_is O31.out) (Kep.iOwn_is O28.out)).mono ?_
    rintro e w7 ⟨rfl, hb7⟩
    rw [decide_eq_true (Eq.refl (zs0))]
    have Z35 : Hid (w6.heap.size ≤ w7.heap.size) := hb7.size
    have O36 : Hid (Kep.IOwn w7 (w1.heap.size) (w2.heap.size) u6 (Hrp.roundV zs0)) := Kep.iOwn_below O30.out hb7
    have O37 : Hid (Kep.IOwn w7 (w2.heap.size) (w3.heap.size) u10 zs0) := Kep.iOwn_below O31.out hb7
    have O38 : Hid (Kep.IOwn w7 (w3.heap.size) (w4.heap.size) u16 (Hrp.roundV zs0)) := Kep.iOwn_below O32.out hb7
    have O39 : Hid (Kep.IOwn w7 (w5.heap.size) (w6.heap.size) u27 zs0) := Kep.iOwn_below O28.out hb7
    have B40 : Hid (Below w.heap.size w w7) := Frame.next B33.out hb7 B33.out.size
    clear hb7
    go_wp2_with fail
    refine (Kep.i_mark u10 zs0 _ _ 1 _ O37.out (by omega) (by omega)).mono ?_
    rintro e w8 ⟨nx41, rfl, hn0nx41, hn1nx41, hm, hb8⟩
    have hznx41 : ¬ nx41 < 0 := by omega
    have O42 : Hid (Kep.IMarked w8 (w2.heap.size) (w3.heap.size) u10 1 nx41) := hm
    have Z43 : Hid (w7.heap.size ≤ w8.heap.size) := hb8.size
    have O44 : Hid (Kep.IOwn w8 (w1.heap.size) (w2.heap.size) u6 (Hrp.roundV zs0)) := Kep.iOwn_keeps O36.out hb8 (by have z0 := Z3.out; have z1 := Z8.out; have z2 := Z12.out; have z3 := Z18.out; have z4 := Z22.out; have z5 := Z29.out; have z6 := Z35.out; omega)
    have O45 : Hid (Kep.IOwn w8 (w3.heap.size) (w4.heap.size) u16 (Hrp.roundV zs0)) := Kep.iOwn_keeps O38.out hb8 (by have z0 := Z3.out; have z1 := Z8.out; have z2 := Z12.out; have z3 := Z18.out; have z4 := Z22.out; have z5 := Z29.out; have z6 := Z35.out; omega)
    have B46 : Hid (Below w.heap.size w w8) := Keeps.below B40.out hb8 (by have z0 := Z3.out; have z1 := Z8.out; have z2 := Z12.out; have z3 := Z18.out; have z4 := Z22.out; have z5 := Z29.out; have z6 := Z35.out; omega) B40.out.size
    clear hm hb8
    go_wp2_with fail
    refine (Kep.i_eq u16 u6 (Hrp.roundV zs0) (Hrp.roundV zs0) _ (Kep.iOwn_is O45.out) (Kep.iOwn_is O44.out)).mono ?_
    rintro e w9 ⟨rfl, hb9⟩
    rw [decide_eq_true (Eq.refl ((Hrp.roundV zs0)))]
    have Z47 : Hid (w8.heap.size ≤ w9.heap.size) := hb9.size
    have O48 : Hid (Kep.IOwn w9 (w1.heap.size) (w2.heap.size) u6 (Hrp.roundV zs0)) := Kep.iOwn_below O44.out hb9
    have O49 : Hid (Kep.IMarked w9 (w2.heap.size) (w3.heap.size) u10 1 nx41) := Kep.iMarked_below O42.out hb9
    have O50 : Hid (Kep.IOwn w9 (w3.heap.size) (w4.heap.size) u16 (Hrp.roundV zs0)) := Kep.iOwn_below O45.out hb9
    have B51 : Hid (Below w.heap.size w w9) := Frame.next B46.out hb9 B46.out.size
    clear hb9
    go_wp2_with fail
    refine (Kep.i_mark u16 (Hrp.roundV zs0) _ _ 1 _ O50.out (by omega) (by omega)).mono ?_
    rintro e w10 ⟨nx52, rfl, hn0nx52, hn1nx52, hm, hb10⟩
    have hznx52 : ¬ nx52 < 0 := by omega
    have O53 : Hid (Kep.IMarked w10 (w3.heap.size) (w4.heap.size) u16 1 nx52) := hm
    have Z54 : Hid (w9.heap.size ≤ w10.heap.size) := hb10.size
    have O55 : Hid (Kep.IOwn w10 (w1.heap.size) (w2.heap.size) u6 (Hrp.roundV zs0)) := Kep.iOwn_keeps O48.out hb10 (by have z0 := Z3.out; have z1 := Z8.out; have z2 := Z12.out; have z3 := Z18.out; have z4 := Z22.out; have z5 := Z29.out; have z6 := Z35.out; have z7 := Z43.out; have z8 := Z47.out; omega)
    have B56 : Hid (Below w.heap.size w w10) := Keeps.below B51.out hb10 (by have z0 := Z3.out; have z1 := Z8.out; have z2 := Z12.out; have z3 := Z18.out; have z4 := Z22.out; have z5 := Z29.out; have z6 := Z35.out; have z7 := Z43.out; have z8 := Z47.out; omega) B51.out.size
    clear hm hb10
    go_wp2_with fail
    refine (Kep.i_held u16 _ _ 1 nx52 _ O53.out).mono ?_
    rintro e w11 ⟨rfl, hb11⟩
    have Z57 : Hid (w10.heap.size ≤ w11.heap.size) := hb11.size
    have O58 : Hid (Kep.IOwn w11 (w1.heap.size) (w2.heap.size) u6 (Hrp.roundV zs0)) := Kep.iOwn_below O55.out hb11
    have O59 : Hid (Kep.IMarked w11 (w3.heap.size) (w4.heap.size) u16 1 nx52) := Kep.iMarked_below O53.out hb11
    have B60 : Hid (Below w.heap.size w w11) := Frame.next B56.out hb11 B56.out.size
    clear hb11
    go_wp2_with fail
    refine (Kep.i_to (.slice a0 n0 c0) zs0 _ (Kep.iIs_below A0.out B60.out)).mono ?_
    rintro e w12 ⟨u61, rfl, ho, hb12⟩
    have O62 : Hid (Kep.IOwn w12 (w11.heap.size) (w12.heap.size) u61 zs0) := ho
    have Z63 : Hid (w11.heap.size ≤ w12.heap.size) := hb12.size
    have O64 : Hid (Kep.IOwn w12 (w1.heap.size) (w2.heap.size) u6 (Hrp.roundV zs0)) := Kep.iOwn_below O58.out hb12
    have O65 : Hid (Kep.IMarked w12 (w3.heap.size) (w4.heap.size) u16 1 nx52) := Kep.iMarked_below O59.out hb12
    have B66 : Hid (Below w.heap.size w w12) := Frame.next B60.out hb12 B60.out.size
    clear ho hb12
    go_wp2_with fail
    refine (Hra.impl_HasRound u61 zs0 _ (Kep.iOwn_is O62.out)).mono ?_
    rintro e w13 ⟨u68, rfl, ho0, hb13⟩
    have O69 : Hid (Kep.IOwn w13 (w12.heap.size) (w13.heap.size) u68 (Hrp.roundV zs0)) := ho0
    have Z70 : Hid (w12.heap.size ≤ w13.heap.size) := hb13.size
    have O71 : Hid (Kep.IOwn w13 (w1.heap.size) (w2.heap.size) u6 (Hrp.roundV zs0)) := Kep.iOwn_below O64.out hb13
    have O72 : Hid (Kep.IMarked w13 (w3.heap.size) (w4.heap.size) u16 1 nx52) := Kep.iMarked_below O65.out hb13
    have B73 : Hid (Below w.heap.size w w13) := Frame.next B66.out hb13 B66.out.size
    clear ho0 hb13
    go_wp2_with fail
    refine (Kep.i_eq u68 u6 (Hrp.roundV zs0) (Hrp.roundV zs0) _ (Kep.iOwn_is O69.out) (Kep.iOwn_is O71.out)).mono ?_
    rintro e w14 ⟨rfl, hb14⟩
    rw [decide_eq_true (Eq.refl ((Hrp.roundV zs0)))]
    have Z74 : Hid (w13.heap.size ≤ w14.heap.size) := hb14.size
    have O75 : Hid (Kep.IOwn w14 (w1.heap.size) (w2.heap.size) u6 (Hrp.roundV zs0)) := Kep.iOwn_below O71.out hb14
    have O76 : Hid (Kep.IMarked w14 (w3.heap.size) (w4.heap.size) u16 1 nx52) := Kep.iMarked_below O72.out hb14
    have O77 : Hid (Kep.IOwn w14 (w12.heap.size) (w13.heap.size) u68 (Hrp.roundV zs0)) := Kep.iOwn_below O69.out hb14
    have B78 : Hid (Below w.heap.size w w14) := Frame.next B73.out hb14 B73.out.size
    clear hb14
    go_wp2_with fail
    refine (Kep.i_held u16 _ _ 1 nx52 _ O76.out).mono ?_
    rintro e w15 ⟨rfl, hb15⟩
    have Z79 : Hid (w14.heap.size ≤ w15.heap.size) := hb15.size
    have O80 : Hid (Kep.IOwn w15 (w1.heap.size) (w2.heap.size) u6 (Hrp.roundV zs0)) := Kep.iOwn_below O75.out hb15
    have O81 : Hid (Kep.IMarked w15 (w3.heap.size) (w4.heap.size) u16 1 nx52) := Kep.iMarked_below O76.out hb15
    have O82 : Hid (Kep.IOwn w15 (w12.heap.size) (w13.heap.size) u68 (Hrp.roundV zs0)) := Kep.iOwn_below O77.out hb15
    have B83 : Hid (Below w.heap.size w w15) := Frame.next B78.out hb15 B78.out.size
    clear hb15
    go_wp2
    go_ret
    exact ⟨rfl, B83.out⟩

set_option maxRecDepth 100000 in
theorem contract (H : Type) (enc : TypeId × Value → H) (W : World) (base : Nat) (args : Array Value) (ds gs : List (DataW H)) (before : List MemPlace)
    (hval0 : ∀ (j : Nat) t v, Try.f9.params[j]? = some t → args[j]? = some v → Value.okWide Try.prog W .any base t v)
    (hW : DataW.Whole enc Try.prog Try.f9.params.toList Rows.fnExactHasRoundSpec.vars false W args.toList ds gs before) :
    Calls Try.prog 9 args W fun e W' => ∃ v, e = .returned v ∧ Rows.fnExactHasRoundSpec.post enc Try.prog Try.f9 false true false false W args v W' := by
  refine Frame.law_calls (tb := 4) laidOut (by kernel_rfl) (by kernel_rfl) (by kernel_rfl) Try.underlying4 hW (fun ds gs h1 h2 => ?_) ?_
  · rw [Try.params9] at h1
    match ds, gs, h1, h2 with
    | [_], [], _, _ => rfl
  · obtain ⟨p, q, hA0, _, _, _, _⟩ := hW
    have hval : ∀ (j : Nat) t v, Try.f9.params[j]? = some t → args[j]? = some v → Value.okWide Try.prog W .any base t v := hval0
    have hA : DataW.TrodAll enc Try.prog W 0 (fun _ => true) true Try.f9.params.toList args.toList ds p := hA0
    rw [Try.params9] at hA hval
    obtain ⟨v0, vs0, d0, ds0, p0, q0, hargs, rfl, rfl, h0, r0⟩ := trodAll_cons hA
    obtain ⟨rfl, rfl, rfl⟩ := trodAll_nil r0
    obtain rfl : args = #[v0] := by cases args; simp_all
    obtain ⟨a0, len0, cap0, rfl⟩ := okWide_slice Try.underlying24 (hval 0 24 v0 rfl rfl)
    obtain ⟨z0, w0⟩ := Frame.isRow_of Try.underlying24 Try.underlying3 (by kernel_rfl) h0
    exact walk a0 len0 cap0 z0 W w0

set_option maxRecDepth 100000 in
theorem lifted (os : Os) (started : os.Started) (H : Type) (enc : TypeId × Value → H) :
    ReturnsInHanded {} Try.checked os 9 .any (Rows.fnExactHasRoundSpec.pre6 enc Try.prog Try.f9 Rows.fnExactHasRoundRow.domain false) (Rows.fnExactHasRoundSpec.post enc Try.prog Try.f9 false true false false) := by
  refine returnsInHanded_of_change (C := Try.checked) own started (by kernel_rfl) Try.func9
    (ChangeSpec.witness6 (enc := enc) (C := Try.checked) false ⟨#[], #[.slice none 0 0], []⟩ 8 (by kernel_rfl) (by kernel_rfl) (by kernel_rfl) (by kernel_rfl)) ?_
  intro W base args ds gs before hval hW _ _
  exact contract H enc W base args ds gs before hval hW

theorem fnamed : Try.prog.funcNamed Rows.fnExactHasRoundRow.func = some 9 := by kernel_rfl

theorem joined : joinedFacts Try.prog 9 Try.f9 Rows.fnExactHasRoundSpec Rows.fnExactHasRoundRow = true := by kernel_rfl

/-- The statement. -/
theorem proved : Rows.FnExactHasRoundSaid :=
  OpenClaim.holds_of_wide 9 Try.f9 rfl rfl rfl rfl rfl rfl rfl ⟨rfl, rfl, rfl, rfl, rfl⟩ rfl rfl rfl rfl rfl fnamed Try.func9 joined
    (of_decide_eq_true (by kernel_rfl)) (by unfold Func.isWrapper; first | (rw [if_pos (by decide +kernel)]; kernel_rfl) | (rw [if_neg (by decide +kernel)]; exact ⟨rfl, rfl⟩))
    (fun os started H enc _ => lifted os started H enc)
#print axioms proved

end Go.Proofs.Ytlcfdfcfmmhdgaa.fnExactHasRound
