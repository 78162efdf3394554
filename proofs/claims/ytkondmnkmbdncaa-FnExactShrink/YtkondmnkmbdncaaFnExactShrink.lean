/-
  Proved: at every argument the law FnExactShrink returns true, and its arguments read afterwards as they did.
-/
import Derived.Test.YtkondmnkmbdncaaFrame
import Derived.Test.YtkondmnkmbdncaaKep
import Derived.Test.YtkondmnkmbdncaaGlw
import Derived.Test.YtkondmnkmbdncaaGlj
import Derived.Test.YtkondmnkmbdncaaGlk
namespace Go.Proofs.Ytkondmnkmbdncaa.fnExactShrink
open Go.ChangeShapes Go.WideShapes Go.ChangeAt Go.RowKit

theorem own : ownKnob Try.prog.godebug = none := by kernel_rfl
theorem laidOut : laidOutB Try.prog = true := by kernel_rfl

open Go.Proofs.Ytkondmnkmbdncaa.Kep

set_option maxRecDepth 100000 in
set_option maxHeartbeats 4000000 in
theorem walk (a0 : Option Addr) (n0 c0 : Nat) (rs0 : List Lls.LV) (w : World) (h0 : Lls.IsLs w a0 n0 c0 rs0) :
    Calls Try.prog 12 #[.slice a0 n0 c0] w fun e w' => e = .returned (.bool true) ∧ Below w.heap.size w w' := by
  have HR0 : Hid (Lls.IsLs w a0 n0 c0 rs0) := h0
  clear h0
  have B0 : Hid (Below w.heap.size w w) := Below.refl _ _
  go_enter Try.func12, Try.ntmps12
  go_wp2_with fail
  refine (Glw.l_sz a0 n0 c0 rs0 1048576 _ (HR0.out.below B0.out) (by omega) (by omega)).mono ?_
  rintro e w1 ⟨rfl, hb1⟩
  have Z1 : Hid (w.heap.size ≤ w1.heap.size) := hb1.size
  have B2 : Hid (Below w.heap.size w w1) := Frame.next B0.out hb1 B0.out.size
  clear hb1
  by_cases hL1 : Lls.left 1048576 (Lls.totalL rs0) < 0
  · go_wp2
    go_ret
    exact ⟨rfl, B2.out⟩
  · have ht0 : Lls.totalL rs0 ≤ 1048576 := by have hq := Krl.total_nonneg rs0; unfold Lls.left at hL1; split at hL1 <;> omega
    have A0 : Hid (Knl.LIs w (.slice a0 n0 c0) (Lls.lplain rs0)) := ⟨_, _, _, _, rfl, HR0.out, rfl, ht0⟩
    have hB1 : Lls.left 1048576 (Lls.totalL rs0) ≤ 1048576 := Krl.left_le _ _ (by have hq := Krl.total_nonneg rs0; omega) (by omega)
    clear ht0
    generalize hG1 : Lls.left 1048576 (Lls.totalL rs0) = L3 at hL1 hB1 ⊢
    clear hG1
    go_wp2_with fail
    refine (Knl.l_to (.slice a0 n0 c0) (Lls.lplain rs0) _ (Knl.lIs_below A0.out B2.out)).mono ?_
    rintro e w2 ⟨u4, rfl, ho, hb2⟩
    have O5 : Hid (Knl.LOwn w2 (w1.heap.size) (w2.heap.size) u4 (Lls.lplain rs0)) := ho
    have Z6 : Hid (w1.heap.size ≤ w2.heap.size) := hb2.size
    have B7 : Hid (Below w.heap.size w w2) := Frame.next B2.out hb2 B2.out.size
    clear ho hb2
    go_wp2_with fail
    refine (Glk.spec_Shrink u4 (Lls.lplain rs0) _ (Knl.lOwn_is O5.out)).mono ?_
    rintro e w3 ⟨u9, rfl, ho0, hb3⟩
    have O10 : Hid (Knl.LOwn w3 (w2.heap.size) (w3.heap.size) u9 (Gpw.shrinkV (Lls.lplain rs0))) := ho0
    have Z11 : Hid (w2.heap.size ≤ w3.heap.size) := hb3.size
    have B12 : Hid (Below w.heap.size w w3) := Frame.next B7.out hb3 B7.out.size
    clear ho0 hb3
    go_wp2_with fail
    refine (Knl.l_to (.slice a0 n0 c0) (Lls.lplain rs0) _ (Knl.lIs_below A0.out B12.out)).mono ?_
    rintro e w4 ⟨u13, rfl, ho, hb4⟩
    have O14 : Hid (Knl.LOwn w4 (w3.heap.size) (w4.heap.size) u13 (Lls.lplain rs0)) := ho
    have Z15 : Hid (w3.heap.size ≤ w4.heap.size) := hb4.size
    have O16 : Hid (Knl.LOwn w4 (w2.heap.size) (w3.heap.size) u9 (Gpw.shrinkV (Lls.lplain rs0))) := Knl.lOwn_below O10.out hb4
    have B17 : Hid (Below w.heap.size w w4) := Frame.next B12.out hb4 B12.out.size
    clear ho hb4
    go_wp2_with fail
    refine (Glj.impl_Shrink u13 (Lls.lplain rs0) _ (Knl.lOwn_is O14.out)).mono ?_
    rintro e w5 ⟨u19, rfl, ho0, hb5⟩
    have O20 : Hid (Knl.LOwn w5 (w4.heap.size) (w5.heap.size) u19 (Gpw.shrinkV (Lls.lplain rs0))) := ho0
    have Z21 : Hid (w4.heap.size ≤ w5.heap.size) := hb5.size
    have O22 : Hid (Knl.LOwn w5 (w2.heap.size) (w3.heap.size) u9 (Gpw.shrinkV (Lls.lplain rs0))) := Knl.lOwn_below O16.out hb5
    have O23 : Hid (Knl.LOwn w5 (w3.heap.size) (w4.heap.size) u13 (Lls.lplain rs0)) := Knl.lOwn_below O14.out hb5
    have B24 : Hid (Below w.heap.size w w5) := Frame.next B17.out hb5 B17.out.size
    clear ho0 hb5
    go_wp2_with fail
    refine (Knl.l_eq u19 u9 (Gpw.shrinkV (Lls.lplain rs0)) (Gpw.shrinkV (Lls.lplain rs0)) _ (Knl.lOwn_is O20.out) (Knl.lOwn_is O22.out)).mono ?_
    rintro e w6 ⟨rfl, hb6⟩
    rw [decide_eq_true (Eq.refl ((Gpw.shrinkV (Lls.lplain rs0))))]
    have Z25 : Hid (w5.heap.size ≤ w6.heap.size) := hb6.size
    have O26 : Hid (Knl.LOwn w6 (w2.heap.size) (w3.heap.size) u9 (Gpw.shrinkV (Lls.lplain rs0))) := Knl.lOwn_below O22.out hb6
    have O27 : Hid (Knl.LOwn w6 (w3.heap.size) (w4.heap.size) u13 (Lls.lplain rs0)) := Knl.lOwn_below O23.out hb6
    have O28 : Hid (Knl.LOwn w6 (w4.heap.size) (w5.heap.size) u19 (Gpw.shrinkV (Lls.lplain rs0))) := Knl.lOwn_below O20.out hb6
    have B29 : Hid (Below w.heap.size w w6) := Frame.next B24.out hb6 B24.out.size
    clear hb6
    go_wp2_with fail
    refine (Knl.l_to (.slice a0 n0 c0) (Lls.lplain rs0) _ (Knl.lIs_below A0.out B29.out)).mono ?_
    rintro e w7 ⟨u30, rfl, ho, hb7⟩
    have O31 : Hid (Knl.LOwn w7 (w6.heap.size) (w7.heap.size) u30 (Lls.lplain rs0)) := ho
    have Z32 : Hid (w6.heap.size ≤ w7.heap.size) := hb7.size
    have O33 : Hid (Knl.LOwn w7 (w2.heap.size) (w3.heap.size) u9 (Gpw.shrinkV (Lls.lplain rs0))) := Knl.lOwn_below O26.out hb7
    have O34 : Hid (Knl.LOwn w7 (w3.heap.size) (w4.heap.size) u13 (Lls.lplain rs0)) := Knl.lOwn_below O27.out hb7
    have O35 : Hid (Knl.LOwn w7 (w4.heap.size) (w5.heap.size) u19 (Gpw.shrinkV (Lls.lplain rs0))) := Knl.lOwn_below O28.out hb7
    have B36 : Hid (Below w.heap.size w w7) := Frame.next B29.out hb7 B29.out.size
    clear ho hb7
    go_wp2_with fail
    refine (Knl.l_eq u13 u30 (Lls.lplain rs0) (Lls.lplain rs0) _ (Knl.lOwn_is O34.out) (Knl.lOwn_is O31.out)).mono ?_
    rintro e w8 ⟨rfl, hb8⟩
    rw [decide_eq_true (Eq.refl ((Lls.lplain rs0)))]
    have Z38 : Hid (w7.heap.size ≤ w8.heap.size) := hb8.size
    have O39 : Hid (Knl.LOwn w8 (w2.heap.size) (w3.heap.size) u9 (Gpw.shrinkV (Lls.lplain rs0))) := Knl.lOwn_below O33.out hb8
    have O40 : Hid (Knl.LOwn w8 (w3.heap.size) (w4.heap.size) u13 (Lls.lplain rs0)) := Knl.lOwn_below O34.out hb8
    have O41 : Hid (Knl.LOwn w8 (w4.heap.size) (w5.heap.size) u19 (Gpw.shrinkV (Lls.lplain rs0))) := Knl.lOwn_below O35.out hb8
    have O42 : Hid (Knl.LOwn w8 (w6.heap.size) (w7.heap.size) u30 (Lls.lplain rs0)) := Knl.lOwn_below O31.out hb8
    have B43 : Hid (Below w.heap.size w w8) := Frame.next B36.out hb8 B36.out.size
    clear hb8
    go_wp2_with fail
    refine (Knl.l_mark u13 (Lls.lplain rs0) _ _ 1 _ O40.out (by omega) (by omega)).mono ?_
    rintro e w9 ⟨nx44, rfl, hn0nx44, hn1nx44, hm, hb9⟩
    have hznx44 : ¬ nx44 < 0 := by omega
    have O45 : Hid (Knl.LMarked w9 (w3.heap.size) (w4.heap.size) u13 1 nx44) := hm
    have Z46 : Hid (w8.heap.size ≤ w9.heap.size) := hb9.size
    have O47 : Hid (Knl.LOwn w9 (w2.heap.size) (w3.heap.size) u9 (Gpw.shrinkV (Lls.lplain rs0))) := Knl.lOwn_keeps O39.out hb9 (by have z0 := Z1.out; have z1 := Z6.out; have z2 := Z11.out; have z3 := Z15.out; have z4 := Z21.out; have z5 := Z25.out; have z6 := Z32.out; have z7 := Z38.out; omega)
    have O48 : Hid (Knl.LOwn w9 (w4.heap.size) (w5.heap.size) u19 (Gpw.shrinkV (Lls.lplain rs0))) := Knl.lOwn_keeps O41.out hb9 (by have z0 := Z1.out; have z1 := Z6.out; have z2 := Z11.out; have z3 := Z15.out; have z4 := Z21.out; have z5 := Z25.out; have z6 := Z32.out; have z7 := Z38.out; omega)
    have B49 : Hid (Below w.heap.size w w9) := Keeps.below B43.out hb9 (by have z0 := Z1.out; have z1 := Z6.out; have z2 := Z11.out; have z3 := Z15.out; have z4 := Z21.out; have z5 := Z25.out; have z6 := Z32.out; have z7 := Z38.out; omega) B43.out.size
    clear hm hb9
    go_wp2_with fail
    refine (Knl.l_eq u19 u9 (Gpw.shrinkV (Lls.lplain rs0)) (Gpw.shrinkV (Lls.lplain rs0)) _ (Knl.lOwn_is O48.out) (Knl.lOwn_is O47.out)).mono ?_
    rintro e w10 ⟨rfl, hb10⟩
    rw [decide_eq_true (Eq.refl ((Gpw.shrinkV (Lls.lplain rs0))))]
    have Z50 : Hid (w9.heap.size ≤ w10.heap.size) := hb10.size
    have O51 : Hid (Knl.LOwn w10 (w2.heap.size) (w3.heap.size) u9 (Gpw.shrinkV (Lls.lplain rs0))) := Knl.lOwn_below O47.out hb10
    have O52 : Hid (Knl.LMarked w10 (w3.heap.size) (w4.heap.size) u13 1 nx44) := Knl.lMarked_below O45.out hb10
    have O53 : Hid (Knl.LOwn w10 (w4.heap.size) (w5.heap.size) u19 (Gpw.shrinkV (Lls.lplain rs0))) := Knl.lOwn_below O48.out hb10
    have B54 : Hid (Below w.heap.size w w10) := Frame.next B49.out hb10 B49.out.size
    clear hb10
    go_wp2_with fail
    refine (Knl.l_mark u19 (Gpw.shrinkV (Lls.lplain rs0)) _ _ 1 _ O53.out (by omega) (by omega)).mono ?_
    rintro e w11 ⟨nx55, rfl, hn0nx55, hn1nx55, hm, hb11⟩
    have hznx55 : ¬ nx55 < 0 := by omega
    have O56 : Hid (Knl.LMarked w11 (w4.heap.size) (w5.heap.size) u19 1 nx55) := hm
    have Z57 : Hid (w10.heap.size ≤ w11.heap.size) := hb11.size
    have O58 : Hid (Knl.LOwn w11 (w2.heap.size) (w3.heap.size) u9 (Gpw.shrinkV (Lls.lplain rs0))) := Knl.lOwn_keeps O51.out hb11 (by have z0 := Z1.out; have z1 := Z6.out; have z2 := Z11.out; have z3 := Z15.out; have z4 := Z21.out; have z5 := Z25.out; have z6 := Z32.out; have z7 := Z38.out; have z8 := Z46.out; have z9 := Z50.out; omega)
    have B59 : Hid (Below w.heap.size w w11) := Keeps.below B54.out hb11 (by have z0 := Z1.out; have z1 := Z6.out; have z2 := Z11.out; have z3 := Z15.out; have z4 := Z21.out; have z5 := Z25.out; have z6 := Z32.out; have z7 := Z38.out; have z8 := Z46.out; have z9 := Z50.out; omega) B54.out.size
    clear hm hb11
    go_wp2_with fail
    refine (Knl.l_held u19 _ _ 1 nx55 _ O56.out).mono ?_
    rintro e w12 ⟨rfl, hb12⟩
    have Z60 : Hid (w11.heap.size ≤ w12.heap.size) := hb12.size
    have O61 : Hid (Knl.LOwn w12 (w2.heap.size) (w3.heap.size) u9 (Gpw.shrinkV (Lls.lplain rs0))) := Knl.lOwn_below O58.out hb12
    have O62 : Hid (Knl.LMarked w12 (w4.heap.size) (w5.heap.size) u19 1 nx55) := Knl.lMarked_below O56.out hb12
    have B63 : Hid (Below w.heap.size w w12) := Frame.next B59.out hb12 B59.out.size
    clear hb12
    go_wp2_with fail
    refine (Knl.l_to (.slice a0 n0 c0) (Lls.lplain rs0) _ (Knl.lIs_below A0.out B63.out)).mono ?_
    rintro e w13 ⟨u64, rfl, ho, hb13⟩
    have O65 : Hid (Knl.LOwn w13 (w12.heap.size) (w13.heap.size) u64 (Lls.lplain rs0)) := ho
    have Z66 : Hid (w12.heap.size ≤ w13.heap.size) := hb13.size
    have O67 : Hid (Knl.LOwn w13 (w2.heap.size) (w3.heap.size) u9 (Gpw.shrinkV (Lls.lplain rs0))) := Knl.lOwn_below O61.out hb13
    have O68 : Hid (Knl.LMarked w13 (w4.heap.size) (w5.heap.size) u19 1 nx55) := Knl.lMarked_below O62.out hb13
    have B69 : Hid (Below w.heap.size w w13) := Frame.next B63.out hb13 B63.out.size
    clear ho hb13
    go_wp2_with fail
    refine (Glj.impl_Shrink u64 (Lls.lplain rs0) _ (Knl.lOwn_is O65.out)).mono ?_
    rintro e w14 ⟨u71, rfl, ho0, hb14⟩
    have O72 : Hid (Knl.LOwn w14 (w13.heap.size) (w14.heap.size) u71 (Gpw.shrinkV (Lls.lplain rs0))) := ho0
    have Z73 : Hid (w13.heap.size ≤ w14.heap.size) := hb14.size
    have O74 : Hid (Knl.LOwn w14 (w2.heap.size) (w3.heap.size) u9 (Gpw.shrinkV (Lls.lplain rs0))) := Knl.lOwn_below O67.out hb14
    have O75 : Hid (Knl.LMarked w14 (w4.heap.size) (w5.heap.size) u19 1 nx55) := Knl.lMarked_below O68.out hb14
    have B76 : Hid (Below w.heap.size w w14) := Frame.next B69.out hb14 B69.out.size
    clear ho0 hb14
    go_wp2_with fail
    refine (Knl.l_eq u71 u9 (Gpw.shrinkV (Lls.lplain rs0)) (Gpw.shrinkV (Lls.lplain rs0)) _ (Knl.lOwn_is O72.out) (Knl.lOwn_is O74.out)).mono ?_
    rintro e w15 ⟨rfl, hb15⟩
    rw [decide_eq_true (Eq.refl ((Gpw.shrinkV (Lls.lplain rs0))))]
    have Z77 : Hid (w14.heap.size ≤ w15.heap.size) := hb15.size
    have O78 : Hid (Knl.LOwn w15 (w2.heap.size) (w3.heap.size) u9 (Gpw.shrinkV (Lls.lplain rs0))) := Knl.lOwn_below O74.out hb15
    have O79 : Hid (Knl.LMarked w15 (w4.heap.size) (w5.heap.size) u19 1 nx55) := Knl.lMarked_below O75.out hb15
    have O80 : Hid (Knl.LOwn w15 (w13.heap.size) (w14.heap.size) u71 (Gpw.shrinkV (Lls.lplain rs0))) := Knl.lOwn_below O72.out hb15
    have B81 : Hid (Below w.heap.size w w15) := Frame.next B76.out hb15 B76.out.size
    clear hb15
    go_wp2_with fail
    refine (Knl.l_held u19 _ _ 1 nx55 _ O79.out).mono ?_
    rintro e w16 ⟨rfl, hb16⟩
    have Z82 : Hid (w15.heap.size ≤ w16.heap.size) := hb16.size
    have O83 : Hid (Knl.LOwn w16 (w2.heap.size) (w3.heap.size) u9 (Gpw.shrinkV (Lls.lplain rs0))) := Knl.lOwn_below O78.out hb16
    have O84 : Hid (Knl.LMarked w16 (w4.heap.size) (w5.heap.size) u19 1 nx55) := Knl.lMarked_below O79.out hb16
    have O85 : Hid (Knl.LOwn w16 (w13.heap.size) (w14.heap.size) u71 (Gpw.shrinkV (Lls.lplain rs0))) := Knl.lOwn_below O80.out hb16
    have B86 : Hid (Below w.heap.size w w16) := Frame.next B81.out hb16 B81.out.size
    clear hb16
    go_wp2
    go_ret
    exact ⟨rfl, B86.out⟩

set_option maxRecDepth 100000 in
theorem contract (H : Type) (enc : TypeId × Value → H) (W : World) (base : Nat) (args : Array Value) (ds gs : List (DataW H)) (before : List MemPlace)
    (hval0 : ∀ (j : Nat) t v, Try.f12.params[j]? = some t → args[j]? = some v → Value.okWide Try.prog W .any base t v)
    (hW : DataW.Whole enc Try.prog Try.f12.params.toList Rows.fnExactShrinkSpec.vars false W args.toList ds gs before) :
    Calls Try.prog 12 args W fun e W' => ∃ v, e = .returned v ∧ Rows.fnExactShrinkSpec.post enc Try.prog Try.f12 false true false false W args v W' := by
  refine Frame.law_calls (tb := 4) laidOut (by kernel_rfl) (by kernel_rfl) (by kernel_rfl) Try.underlying4 hW (fun ds gs h1 h2 => ?_) ?_
  · rw [Try.params12] at h1
    match ds, gs, h1, h2 with
    | [_], [], _, _ => rfl
  · obtain ⟨p, q, hA0, _, _, _, _⟩ := hW
    have hval : ∀ (j : Nat) t v, Try.f12.params[j]? = some t → args[j]? = some v → Value.okWide Try.prog W .any base t v := hval0
    have hA : DataW.TrodAll enc Try.prog W 0 (fun _ => true) true Try.f12.params.toList args.toList ds p := hA0
    rw [Try.params12] at hA hval
    obtain ⟨v0, vs0, d0, ds0, p0, q0, hargs, rfl, rfl, h0, r0⟩ := trodAll_cons hA
    obtain ⟨rfl, rfl, rfl⟩ := trodAll_nil r0
    obtain rfl : args = #[v0] := by cases args; simp_all
    obtain ⟨a0, len0, cap0, rfl⟩ := okWide_slice Try.underlying23 (hval 0 23 v0 rfl rfl)
    obtain ⟨z0, w0⟩ := Glw.links_of h0
    exact walk a0 len0 cap0 z0 W w0

set_option maxRecDepth 100000 in
theorem lifted (os : Os) (started : os.Started) (H : Type) (enc : TypeId × Value → H) :
    ReturnsInHanded {} Try.checked os 12 .any (Rows.fnExactShrinkSpec.pre6 enc Try.prog Try.f12 Rows.fnExactShrinkRow.domain false) (Rows.fnExactShrinkSpec.post enc Try.prog Try.f12 false true false false) := by
  refine returnsInHanded_of_change (C := Try.checked) own started (by kernel_rfl) Try.func12
    (ChangeSpec.witness6 (enc := enc) (C := Try.checked) false ⟨#[], #[.slice none 0 0], []⟩ 8 (by kernel_rfl) (by kernel_rfl) (by kernel_rfl) (by kernel_rfl)) ?_
  intro W base args ds gs before hval hW _ _
  exact contract H enc W base args ds gs before hval hW

theorem fnamed : Try.prog.funcNamed Rows.fnExactShrinkRow.func = some 12 := by kernel_rfl

theorem joined : joinedFacts Try.prog 12 Try.f12 Rows.fnExactShrinkSpec Rows.fnExactShrinkRow = true := by kernel_rfl

/-- The statement. -/
theorem proved : Rows.FnExactShrinkSaid :=
  OpenClaim.holds_of_wide 12 Try.f12 rfl rfl rfl rfl rfl rfl rfl ⟨rfl, rfl, rfl, rfl, rfl⟩ rfl rfl rfl rfl rfl fnamed Try.func12 joined
    (of_decide_eq_true (by kernel_rfl)) (by unfold Func.isWrapper; first | (rw [if_pos (by decide +kernel)]; kernel_rfl) | (rw [if_neg (by decide +kernel)]; exact ⟨rfl, rfl⟩))
    (fun os started H enc _ => lifted os started H enc)
#print axioms proved

end Go.Proofs.Ytkondmnkmbdncaa.fnExactShrink
