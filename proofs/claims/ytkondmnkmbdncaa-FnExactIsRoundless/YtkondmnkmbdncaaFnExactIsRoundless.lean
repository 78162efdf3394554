/-
  Proved: at every argument the law FnExactIsRoundless returns true, and its arguments read afterwards as they did.
-/
import Derived.Test.YtkondmnkmbdncaaFrame
import Derived.Test.YtkondmnkmbdncaaKep
import Derived.Test.YtkondmnkmbdncaaGlw
import Derived.Test.YtkondmnkmbdncaaGld
import Derived.Test.YtkondmnkmbdncaaGle
namespace Go.Proofs.Ytkondmnkmbdncaa.fnExactIsRoundless
open Go.ChangeShapes Go.WideShapes Go.ChangeAt Go.RowKit

theorem own : ownKnob Try.prog.godebug = none := by kernel_rfl
theorem laidOut : laidOutB Try.prog = true := by kernel_rfl

open Go.Proofs.Ytkondmnkmbdncaa.Kep

set_option maxRecDepth 100000 in
set_option maxHeartbeats 4000000 in
theorem walk (a0 : Option Addr) (n0 c0 : Nat) (rs0 : List Lls.LV) (w : World) (h0 : Lls.IsLs w a0 n0 c0 rs0) :
    Calls Try.prog 13 #[.slice a0 n0 c0] w fun e w' => e = .returned (.bool true) ∧ Below w.heap.size w w' := by
  have HR0 : Hid (Lls.IsLs w a0 n0 c0 rs0) := h0
  clear h0
  have B0 : Hid (Below w.heap.size w w) := Below.refl _ _
  go_enter Try.func13, Try.ntmps13
  go_wp2_with fail
  refine (Glw.l_sz a0 n0 c0 rs0 1048576 _ (HR0.out.below B0.out) (by omega) (by omega)).mono ?_
  rintro e w1 ⟨rfl, hb1⟩
  have Z1 : Hid (w.heap.size ≤ w1.heap.size) := hb1.size
  have B2 : Hid (Below w.heap.size w w1) := Frame.next B0.out hb1 B0.out.size
  clear hb1
  by_cases hL1 : Lls.left 1048576 (Lls.totalL rs0) < 0
  · go_wp2
    go_ret
    exact ⟨rfl, B2.out⟩
  · have ht0 : Lls.totalL rs0 ≤ 1048576 := by have hq := Krl.total_nonneg rs0; unfold Lls.left at hL1; split at hL1 <;> omega
    have A0 : Hid (Knl.LIs w (.slice a0 n0 c0) (Lls.lplain rs0)) := ⟨_, _, _, _, rfl, HR0.out, rfl, ht0⟩
    have hB1 : Lls.left 1048576 (Lls.totalL rs0) ≤ 1048576 := Krl.left_le _ _ (by have hq := Krl.total_nonneg rs0; omega) (by omega)
    clear ht0
    generalize hG1 : Lls.left 1048576 (Lls.totalL rs0) = L3 at hL1 hB1 ⊢
    clear hG1
    go_wp2_with fail
    refine (Knl.l_to (.slice a0 n0 c0) (Lls.lplain rs0) _ (Knl.lIs_below A0.out B2.out)).mono ?_
    rintro e w2 ⟨u4, rfl, ho, hb2⟩
    have O5 : Hid (Knl.LOwn w2 (w1.heap.size) (w2.heap.size) u4 (Lls.lplain rs0)) := ho
    have Z6 : Hid (w1.heap.size ≤ w2.heap.size) := hb2.size
    have B7 : Hid (Below w.heap.size w w2) := Frame.next B2.out hb2 B2.out.size
    clear ho hb2
    go_wp2_with fail
    refine (Gle.spec_IsRoundless u4 (Lls.lplain rs0) _ (Knl.lOwn_is O5.out)).mono ?_
    rintro e w3 ⟨rfl, hb3⟩
    have Z9 : Hid (w2.heap.size ≤ w3.heap.size) := hb3.size
    have B10 : Hid (Below w.heap.size w w3) := Frame.next B7.out hb3 B7.out.size
    clear  hb3
    go_wp2_with fail
    refine (Knl.l_to (.slice a0 n0 c0) (Lls.lplain rs0) _ (Knl.lIs_below A0.out B10.out)).mono ?_
    rintro e w4 ⟨u11, rfl, ho, hb4⟩
    have O12 : Hid (Knl.LOwn w4 (w3.heap.size) (w4.heap.size) u11 (Lls.lplain rs0)) := ho
    have Z13 : Hid (w3.heap.size ≤ w4.heap.size) := hb4.size
    have B14 : Hid (Below w.heap.size w w4) := Frame.next B10.out hb4 B10.out.size
    clear ho hb4
    go_wp2_with fail
    refine (Gld.impl_IsRoundless u11 (Lls.lplain rs0) _ (Knl.lOwn_is O12.out)).mono ?_
    rintro e w5 ⟨rfl, hb5⟩
    have Z16 : Hid (w4.heap.size ≤ w5.heap.size) := hb5.size
    have O17 : Hid (Knl.LOwn w5 (w3.heap.size) (w4.heap.size) u11 (Lls.lplain rs0)) := Knl.lOwn_below O12.out hb5
    have B18 : Hid (Below w.heap.size w w5) := Frame.next B14.out hb5 B14.out.size
    clear  hb5
    go_wp2_with fail
    refine (Knl.l_to (.slice a0 n0 c0) (Lls.lplain rs0) _ (Knl.lIs_below A0.out B18.out)).mono ?_
    rintro e w6 ⟨u19, rfl, ho, hb6⟩
    have O20 : Hid (Knl.LOwn w6 (w5.heap.size) (w6.heap.size) u19 (Lls.lplain rs0)) := ho
    have Z21 : Hid (w5.heap.size ≤ w6.heap.size) := hb6.size
    have O22 : Hid (Knl.LOwn w6 (w3.heap.size) (w4.heap.size) u11 (Lls.lplain rs0)) := Knl.lOwn_below O17.out hb6
    have B23 : Hid (Below w.heap.size w w6) := Frame.next B18.out hb6 B18.out.size
    clear ho hb6
    go_wp2_with fail
    refine (Knl.l_eq u11 u19 (Lls.lplain rs0) (Lls.lplain rs0) _ (Knl.lOwn_is O22.out) (Knl.lOwn_is O20.out)).mono ?_
    rintro e w7 ⟨rfl, hb7⟩
    rw [decide_eq_true (Eq.refl ((Lls.lplain rs0)))]
    have Z25 : Hid (w6.heap.size ≤ w7.heap.size) := hb7.size
    have O26 : Hid (Knl.LOwn w7 (w3.heap.size) (w4.heap.size) u11 (Lls.lplain rs0)) := Knl.lOwn_below O22.out hb7
    have O27 : Hid (Knl.LOwn w7 (w5.heap.size) (w6.heap.size) u19 (Lls.lplain rs0)) := Knl.lOwn_below O20.out hb7
    have B28 : Hid (Below w.heap.size w w7) := Frame.next B23.out hb7 B23.out.size
    clear hb7
    go_wp2
    go_ret
    exact ⟨rfl, B28.out⟩

set_option maxRecDepth 100000 in
theorem contract (H : Type) (enc : TypeId × Value → H) (W : World) (base : Nat) (args : Array Value) (ds gs : List (DataW H)) (before : List MemPlace)
    (hval0 : ∀ (j : Nat) t v, Try.f13.params[j]? = some t → args[j]? = some v → Value.okWide Try.prog W .any base t v)
    (hW : DataW.Whole enc Try.prog Try.f13.params.toList Rows.fnExactIsRoundlessSpec.vars false W args.toList ds gs before) :
    Calls Try.prog 13 args W fun e W' => ∃ v, e = .returned v ∧ Rows.fnExactIsRoundlessSpec.post enc Try.prog Try.f13 false true false false W args v W' := by
  refine Frame.law_calls (tb := 4) laidOut (by kernel_rfl) (by kernel_rfl) (by kernel_rfl) Try.underlying4 hW (fun ds gs h1 h2 => ?_) ?_
  · rw [Try.params13] at h1
    match ds, gs, h1, h2 with
    | [_], [], _, _ => rfl
  · obtain ⟨p, q, hA0, _, _, _, _⟩ := hW
    have hval : ∀ (j : Nat) t v, Try.f13.params[j]? = some t → args[j]? = some v → Value.okWide Try.prog W .any base t v := hval0
    have hA : DataW.TrodAll enc Try.prog W 0 (fun _ => true) true Try.f13.params.toList args.toList ds p := hA0
    rw [Try.params13] at hA hval
    obtain ⟨v0, vs0, d0, ds0, p0, q0, hargs, rfl, rfl, h0, r0⟩ := trodAll_cons hA
    obtain ⟨rfl, rfl, rfl⟩ := trodAll_nil r0
    obtain rfl : args = #[v0] := by cases args; simp_all
    obtain ⟨a0, len0, cap0, rfl⟩ := okWide_slice Try.underlying23 (hval 0 23 v0 rfl rfl)
    obtain ⟨z0, w0⟩ := Glw.links_of h0
    exact walk a0 len0 cap0 z0 W w0

set_option maxRecDepth 100000 in
theorem lifted (os : Os) (started : os.Started) (H : Type) (enc : TypeId × Value → H) :
    ReturnsInHanded {} Try.checked os 13 .any (Rows.fnExactIsRoundlessSpec.pre6 enc Try.prog Try.f13 Rows.fnExactIsRoundlessRow.domain false) (Rows.fnExactIsRoundlessSpec.post enc Try.prog Try.f13 false true false false) := by
  refine returnsInHanded_of_change (C := Try.checked) own started (by kernel_rfl) Try.func13
    (ChangeSpec.witness6 (enc := enc) (C := Try.checked) false ⟨#[], #[.slice none 0 0], []⟩ 8 (by kernel_rfl) (by kernel_rfl) (by kernel_rfl) (by kernel_rfl)) ?_
  intro W base args ds gs before hval hW _ _
  exact contract H enc W base args ds gs before hval hW

theorem fnamed : Try.prog.funcNamed Rows.fnExactIsRoundlessRow.func = some 13 := by kernel_rfl

theorem joined : joinedFacts Try.prog 13 Try.f13 Rows.fnExactIsRoundlessSpec Rows.fnExactIsRoundlessRow = true := by kernel_rfl

/-- The statement. -/
theorem proved : Rows.FnExactIsRoundlessSaid :=
  OpenClaim.holds_of_wide 13 Try.f13 rfl rfl rfl rfl rfl rfl rfl ⟨rfl, rfl, rfl, rfl, rfl⟩ rfl rfl rfl rfl rfl fnamed Try.func13 joined
    (of_decide_eq_true (by kernel_rfl)) (by unfold Func.isWrapper; first | (rw [if_pos (by decide +kernel)]; kernel_rfl) | (rw [if_neg (by decide +kernel)]; exact ⟨rfl, rfl⟩))
    (fun os started H enc _ => lifted os started H enc)
#print axioms proved

end Go.Proofs.Ytkondmnkmbdncaa.fnExactIsRoundless
