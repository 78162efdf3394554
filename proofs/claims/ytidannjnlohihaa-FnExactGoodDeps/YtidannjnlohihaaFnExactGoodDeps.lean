/-
  Proved: at every argument the law FnExactGoodDeps returns true, and its arguments read afterwards as they did.
-/
import Derived.Test.YtidannjnlohihaaFrame
import Derived.Test.YtidannjnlohihaaDga
import Derived.Test.YtidannjnlohihaaOpd
namespace Go.Proofs.Ytidannjnlohihaa.fnExactGoodDeps
open Go.ChangeShapes Go.WideShapes Go.ChangeAt Go.RowKit

theorem own : ownKnob Try.prog.godebug = none := by kernel_rfl
theorem laidOut : laidOutB Try.prog = true := by kernel_rfl

open Go.Proofs.Ytidannjnlohihaa.Kep

set_option maxRecDepth 100000 in
set_option maxHeartbeats 4000000 in
theorem walk (i0 : Int) (a1 : Option Addr) (n1 c1 : Nat) (rs1 : List Lls.LV) (w : World) (hf0 : (Lit.int .i64 i0).wf = true) (h1 : Dls.IsG w a1 n1 c1 rs1) :
    Calls Try.prog 6 #[.int .i64 i0, .slice a1 n1 c1] w fun e w' => e = .returned (.bool true) ∧ Below w.heap.size w w' := by
  have HWF0 : Hid ((Lit.int .i64 i0).wf = true) := hf0
  clear hf0
  have HR1 : Hid (Dls.IsG w a1 n1 c1 rs1) := h1
  clear h1
  have B0 : Hid (Below w.heap.size w w) := Below.refl _ _
  go_enter Try.func6, Try.ntmps6
  go_wp2_with fail
  refine (Dlt.szDepS a1 n1 c1 rs1 1048576 _ (HR1.out.below B0.out) (by omega) (by omega)).mono ?_
  rintro e w1 ⟨rfl, hb1⟩
  have Z1 : Hid (w.heap.size ≤ w1.heap.size) := hb1.size
  have B2 : Hid (Below w.heap.size w w1) := Frame.next B0.out hb1 B0.out.size
  clear hb1
  by_cases hL1 : Lls.left 1048576 ((n1 : Int) + Lls.sumL rs1) < 0
  · go_wp2
    go_ret
    exact ⟨rfl, B2.out⟩
  · have ht1 : (n1 : Int) + Lls.sumL rs1 ≤ 1048576 := by have hq := Lls.sumL_nonneg rs1; unfold Lls.left at hL1; split at hL1 <;> omega
    have A1 : Hid (Dlk.DIs w (.slice a1 n1 c1) (Dls.dpl rs1)) := ⟨_, _, _, _, rfl, HR1.out, rfl, ht1⟩
    have hB1 : Lls.left 1048576 ((n1 : Int) + Lls.sumL rs1) ≤ 1048576 := Krl.left_le _ _ (by have hq := Lls.sumL_nonneg rs1; omega) (by omega)
    clear ht1
    generalize hG1 : Lls.left 1048576 ((n1 : Int) + Lls.sumL rs1) = L3 at hL1 hB1 ⊢
    clear hG1
    go_wp2_with fail
    refine (Dlk.d_to (.slice a1 n1 c1) (Dls.dpl rs1) _ (Dlk.dIs_below A1.out B2.out)).mono ?_
    rintro e w2 ⟨u4, rfl, ho, hb2⟩
    have O5 : Hid (Dlk.DOwn w2 (w1.heap.size) (w2.heap.size) u4 (Dls.dpl rs1)) := ho
    have Z6 : Hid (w1.heap.size ≤ w2.heap.size) := hb2.size
    have B7 : Hid (Below w.heap.size w w2) := Frame.next B2.out hb2 B2.out.size
    clear ho hb2
    go_wp2_with fail
    refine (Dga.spec_GoodDeps i0 u4 (Dls.dpl rs1) _ (Dlk.dOwn_is O5.out)).mono ?_
    rintro e w3 ⟨rfl, hb3⟩
    have Z9 : Hid (w2.heap.size ≤ w3.heap.size) := hb3.size
    have B10 : Hid (Below w.heap.size w w3) := Frame.next B7.out hb3 B7.out.size
    clear  hb3
    go_wp2_with fail
    refine (Dlk.d_to (.slice a1 n1 c1) (Dls.dpl rs1) _ (Dlk.dIs_below A1.out B10.out)).mono ?_
    rintro e w4 ⟨u11, rfl, ho, hb4⟩
    have O12 : Hid (Dlk.DOwn w4 (w3.heap.size) (w4.heap.size) u11 (Dls.dpl rs1)) := ho
    have Z13 : Hid (w3.heap.size ≤ w4.heap.size) := hb4.size
    have B14 : Hid (Below w.heap.size w w4) := Frame.next B10.out hb4 B10.out.size
    clear ho hb4
    go_wp2_with fail
    refine (Dga.impl_GoodDeps i0 u11 (Dls.dpl rs1) _ (Dlk.dOwn_is O12.out)).mono ?_
    rintro e w5 ⟨rfl, hb5⟩
    have Z16 : Hid (w4.heap.size ≤ w5.heap.size) := hb5.size
    have O17 : Hid (Dlk.DOwn w5 (w3.heap.size) (w4.heap.size) u11 (Dls.dpl rs1)) := Dlk.dOwn_below O12.out hb5
    have B18 : Hid (Below w.heap.size w w5) := Frame.next B14.out hb5 B14.out.size
    clear  hb5
    go_wp2_with fail
    refine (Dlk.d_to (.slice a1 n1 c1) (Dls.dpl rs1) _ (Dlk.dIs_below A1.out B18.out)).mono ?_
    rintro e w6 ⟨u19, rfl, ho, hb6⟩
    have O20 : Hid (Dlk.DOwn w6 (w5.heap.size) (w6.heap.size) u19 (Dls.dpl rs1)) := ho
    have Z21 : Hid (w5.heap.size ≤ w6.heap.size) := hb6.size
    have O22 : Hid (Dlk.DOwn w6 (w3.heap.size) (w4.heap.size) u11 (Dls.dpl rs1)) := Dlk.dOwn_below O17.out hb6
    have B23 : Hid (Below w.heap.size w w6) := Frame.next B18.out hb6 B18.out.size
    clear ho hb6
    go_wp2_with fail
    refine (Dlk.d_eq u11 u19 (Dls.dpl rs1) (Dls.dpl rs1) _ (Dlk.dOwn_is O22.out) (Dlk.dOwn_is O20.out)).mono ?_
    rintro e w7 ⟨rfl, hb7⟩
    rw [decide_eq_true (Eq.refl ((Dls.dpl rs1)))]
    have Z25 : Hid (w6.heap.size ≤ w7.heap.size) := hb7.size
    have O26 : Hid (Dlk.DOwn w7 (w3.heap.size) (w4.heap.size) u11 (Dls.dpl rs1)) := Dlk.dOwn_below O22.out hb7
    have O27 : Hid (Dlk.DOwn w7 (w5.heap.size) (w6.heap.size) u19 (Dls.dpl rs1)) := Dlk.dOwn_below O20.out hb7
    have B28 : Hid (Below w.heap.size w w7) := Frame.next B23.out hb7 B23.out.size
    clear hb7
    go_wp2
    go_ret
    exact ⟨rfl, B28.out⟩

set_option maxRecDepth 100000 in
theorem contract (H : Type) (enc : TypeId × Value → H) (W : World) (base : Nat) (args : Array Value) (ds gs : List (DataW H)) (before : List MemPlace)
    (hval0 : ∀ (j : Nat) t v, Try.f6.params[j]? = some t → args[j]? = some v → Value.okWide Try.prog W .any base t v)
    (hW : DataW.Whole enc Try.prog Try.f6.params.toList Rows.fnExactGoodDepsSpec.vars false W args.toList ds gs before) :
    Calls Try.prog 6 args W fun e W' => ∃ v, e = .returned v ∧ Rows.fnExactGoodDepsSpec.post enc Try.prog Try.f6 false true false false W args v W' := by
  refine Frame.law_calls (tb := 4) laidOut (by kernel_rfl) (by kernel_rfl) (by kernel_rfl) Try.underlying4 hW (fun ds gs h1 h2 => ?_) ?_
  · rw [Try.params6] at h1
    match ds, gs, h1, h2 with
    | [_, _], [], _, _ => rfl
  · obtain ⟨p, q, hA0, _, _, _, _⟩ := hW
    have hval : ∀ (j : Nat) t v, Try.f6.params[j]? = some t → args[j]? = some v → Value.okWide Try.prog W .any base t v := hval0
    have hA : DataW.TrodAll enc Try.prog W 0 (fun _ => true) true Try.f6.params.toList args.toList ds p := hA0
    rw [Try.params6] at hA hval
    obtain ⟨v0, vs0, d0, ds0, p0, q0, hargs, rfl, rfl, h0, r0⟩ := trodAll_cons hA
    obtain ⟨v1, vs1, d1, ds1, p1, q1, rfl, rfl, rfl, h1, r1⟩ := trodAll_cons r0
    obtain ⟨rfl, rfl, rfl⟩ := trodAll_nil r1
    obtain rfl : args = #[v0, v1] := by cases args; simp_all
    obtain ⟨a0, rfl, rfl, rfl, w0⟩ := open_int Try.underlying3 (hval 0 3 v0 rfl rfl) h0
    obtain ⟨a1, len1, cap1, rfl⟩ := okWide_slice Try.underlying63 (hval 1 63 v1 rfl rfl)
    obtain ⟨z1, w1⟩ := Opd.isG_of h1
    exact walk a0 a1 len1 cap1 z1 W w0 w1

set_option maxRecDepth 100000 in
theorem lifted (os : Os) (started : os.Started) (H : Type) (enc : TypeId × Value → H) :
    ReturnsInHanded {} Try.checked os 6 .any (Rows.fnExactGoodDepsSpec.pre6 enc Try.prog Try.f6 Rows.fnExactGoodDepsRow.domain false) (Rows.fnExactGoodDepsSpec.post enc Try.prog Try.f6 false true false false) := by
  refine returnsInHanded_of_change (C := Try.checked) own started (by kernel_rfl) Try.func6
    (ChangeSpec.witness6 (enc := enc) (C := Try.checked) false ⟨#[], #[.int .i64 0, .slice none 0 0], []⟩ 8 (by kernel_rfl) (by kernel_rfl) (by kernel_rfl) (by kernel_rfl)) ?_
  intro W base args ds gs before hval hW _ _
  exact contract H enc W base args ds gs before hval hW

/-- The statement. -/
theorem proved : Rows.FnExactGoodDepsSaid :=
  OpenClaim.holds_of_wide 6 Try.f6 rfl rfl rfl rfl rfl rfl rfl ⟨rfl, rfl, rfl, rfl, rfl⟩ rfl rfl rfl rfl rfl (by kernel_rfl) Try.func6 (by kernel_rfl)
    (of_decide_eq_true (by kernel_rfl)) (by unfold Func.isWrapper; first | (rw [if_pos (by decide +kernel)]; kernel_rfl) | (rw [if_neg (by decide +kernel)]; exact ⟨rfl, rfl⟩))
    (fun os started H enc _ => lifted os started H enc)
#print axioms proved

end Go.Proofs.Ytidannjnlohihaa.fnExactGoodDeps
