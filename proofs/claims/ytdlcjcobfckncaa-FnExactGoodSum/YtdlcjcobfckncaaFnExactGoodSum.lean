/-
  Proved: at every sum the law FnExactGoodSum returns true, and its argument reads afterwards as it did.
-/
import Derived.Test.YtdlcjcobfckncaaFrame
import Derived.Test.YtdlcjcobfckncaaSmb
import Derived.Test.YtdlcjcobfckncaaVals
namespace Go.Proofs.Ytdlcjcobfckncaa.fnExactGoodSum
open Go.ChangeShapes Go.WideShapes Go.ChangeAt Go.RowKit

theorem own : ownKnob Try.prog.godebug = none := by kernel_rfl
theorem laidOut : laidOutB Try.prog = true := by kernel_rfl

set_option maxRecDepth 20000 in
set_option maxHeartbeats 1600000 in
theorem walk (r k t : Int) (lb : Bool) (l : Int) (hb : Bool) (h : Int) (w : World) (_hr : (Lit.int .i64 r).wf = true) (_hk : (Lit.int .i64 k).wf = true) (_ht : (Lit.int .i64 t).wf = true) (_hl : (Lit.int .i64 l).wf = true) (_hh : (Lit.int .i64 h).wf = true) :
    Calls Try.prog 4 #[.agg #[.int .i64 r, .int .i64 k, .int .i64 t, .bool lb, .int .i64 l, .bool hb, .int .i64 h]] w fun e w' => e = .returned (.bool true) ∧ Below w.heap.size w w' := by
  go_enter Try.func4, Try.ntmps4
  go_wp2_with fail
  refine (Sma.toSum _ _ _ _ _ _ _ _).mono ?_
  rintro e w1 ⟨rfl, hb1⟩
  have hz1 := hb1.size
  rw [World.size_alloc] at hz1
  have p0 : w1.cell? ⟨w.heap.size, 0, none⟩ = some (.int .i64 r) := by rw [(Frame.bcell hb1).1 _ _ (by simp)]; go_simp
  have p1 : w1.cell? ⟨w.heap.size, 1, none⟩ = some (.int .i64 k) := by rw [(Frame.bcell hb1).1 _ _ (by simp)]; go_simp
  have p2 : w1.cell? ⟨w.heap.size, 2, none⟩ = some (.int .i64 t) := by rw [(Frame.bcell hb1).1 _ _ (by simp)]; go_simp
  have p3 : w1.cell? ⟨w.heap.size, 3, none⟩ = some (.bool lb) := by rw [(Frame.bcell hb1).1 _ _ (by simp)]; go_simp
  have p4 : w1.cell? ⟨w.heap.size, 4, none⟩ = some (.int .i64 l) := by rw [(Frame.bcell hb1).1 _ _ (by simp)]; go_simp
  have p5 : w1.cell? ⟨w.heap.size, 5, none⟩ = some (.bool hb) := by rw [(Frame.bcell hb1).1 _ _ (by simp)]; go_simp
  have p6 : w1.cell? ⟨w.heap.size, 6, none⟩ = some (.int .i64 h) := by rw [(Frame.bcell hb1).1 _ _ (by simp)]; go_simp
  have B1 : Hid (Below w.heap.size w w1) := Frame.next ((Below.refl _ _).alloc (Nat.le_refl _) _) hb1 (by simp)
  have F1 : Hid (w1.cell? ⟨w.heap.size, 0, none⟩ = some (.int .i64 r) ∧ w1.cell? ⟨w.heap.size, 1, none⟩ = some (.int .i64 k) ∧ w1.cell? ⟨w.heap.size, 2, none⟩ = some (.int .i64 t) ∧ w1.cell? ⟨w.heap.size, 3, none⟩ = some (.bool lb) ∧ w1.cell? ⟨w.heap.size, 4, none⟩ = some (.int .i64 l) ∧ w1.cell? ⟨w.heap.size, 5, none⟩ = some (.bool hb) ∧ w1.cell? ⟨w.heap.size, 6, none⟩ = some (.int .i64 h)) := ⟨p0, p1, p2, p3, p4, p5, p6⟩
  clear hb1 p0 p1 p2 p3 p4 p5 p6
  go_wp2_with fail
  refine (Sma.spec_GoodSum r k t lb l hb h _).mono ?_
  rintro e w2 ⟨rfl, hb2⟩
  obtain ⟨q0, q1, q2, q3, q4, q5, q6⟩ := F1.out
  have p0 : w2.cell? ⟨w.heap.size, 0, none⟩ = some (.int .i64 r) := Frame.held_cell hb2 q0
  have p1 : w2.cell? ⟨w.heap.size, 1, none⟩ = some (.int .i64 k) := Frame.held_cell hb2 q1
  have p2 : w2.cell? ⟨w.heap.size, 2, none⟩ = some (.int .i64 t) := Frame.held_cell hb2 q2
  have p3 : w2.cell? ⟨w.heap.size, 3, none⟩ = some (.bool lb) := Frame.held_cell hb2 q3
  have p4 : w2.cell? ⟨w.heap.size, 4, none⟩ = some (.int .i64 l) := Frame.held_cell hb2 q4
  have p5 : w2.cell? ⟨w.heap.size, 5, none⟩ = some (.bool hb) := Frame.held_cell hb2 q5
  have p6 : w2.cell? ⟨w.heap.size, 6, none⟩ = some (.int .i64 h) := Frame.held_cell hb2 q6
  have B2 : Hid (Below w.heap.size w w2) := Frame.next B1.out hb2 B1.out.size
  clear hb2 F1 q0 q1 q2 q3 q4 q5 q6
  go_wp2_with fail
  refine (Sma.toSum _ _ _ _ _ _ _ _).mono ?_
  rintro e w3 ⟨rfl, hb3⟩
  have B3 : Hid (Below w.heap.size w w3) := Frame.next B2.out hb3 B2.out.size
  clear hb3 p0 p1 p2 p3 p4 p5 p6
  go_wp2_with fail
  refine (Sma.impl_GoodSum r k t lb l hb h _).mono ?_
  rintro e w4 ⟨rfl, hb4⟩
  go_wp2
  go_ret
  exact ⟨rfl, Frame.next B3.out hb4 B3.out.size⟩

set_option maxRecDepth 100000 in
theorem contract (H : Type) (enc : TypeId × Value → H) (W : World) (base : Nat) (args : Array Value) (ds gs : List (DataW H)) (before : List MemPlace)
    (hval0 : ∀ (j : Nat) t v, Try.f4.params[j]? = some t → args[j]? = some v → Value.okWide Try.prog W .any base t v)
    (hW : DataW.Whole enc Try.prog Try.f4.params.toList Rows.fnExactGoodSumSpec.vars false W args.toList ds gs before) :
    Calls Try.prog 4 args W fun e W' => ∃ v, e = .returned v ∧ Rows.fnExactGoodSumSpec.post enc Try.prog Try.f4 false true false false W args v W' := by
  refine Frame.law_calls (tb := 4) laidOut (by kernel_rfl) (by kernel_rfl) (by kernel_rfl) Try.underlying4 hW (fun ds gs h1 h2 => ?_) ?_
  · rw [Try.params4] at h1
    match ds, gs, h1, h2 with
    | [_], [], _, _ => rfl
  · obtain ⟨p, q, hA0, _, _, _, _⟩ := hW
    have hval : ∀ (j : Nat) t v, Try.f4.params[j]? = some t → args[j]? = some v → Value.okWide Try.prog W .any base t v := hval0
    have hA : DataW.TrodAll enc Try.prog W 0 (fun _ => true) true Try.f4.params.toList args.toList ds p := hA0
    rw [Try.params4] at hA hval
    obtain ⟨v0, vs0, d0, ds0, p0, q0, hargs, rfl, rfl, h0, r0⟩ := trodAll_cons hA
    obtain ⟨rfl, rfl, rfl⟩ := trodAll_nil r0
    obtain rfl : args = #[v0] := by cases args; simp_all
    obtain ⟨sr0, sk0, st0, slb0, sl0, shb0, sh0, rfl, wr0, wk0, wt0, wl0, wh0⟩ := Smb.sum_of (hval 0 37 v0 rfl rfl) h0
    exact walk sr0 sk0 st0 slb0 sl0 shb0 sh0 W wr0 wk0 wt0 wl0 wh0

set_option maxRecDepth 100000 in
theorem lifted (os : Os) (started : os.Started) (H : Type) (enc : TypeId × Value → H) :
    ReturnsInHanded {} Try.checked os 4 .any (Rows.fnExactGoodSumSpec.pre6 enc Try.prog Try.f4 Rows.fnExactGoodSumRow.domain false) (Rows.fnExactGoodSumSpec.post enc Try.prog Try.f4 false true false false) := by
  refine returnsInHanded_of_change (C := Try.checked) own started (by kernel_rfl) Try.func4
    (ChangeSpec.witness6 (enc := enc) (C := Try.checked) false ⟨#[], #[.agg #[.int .i64 0, .int .i64 0, .int .i64 0, .bool false, .int .i64 0, .bool false, .int .i64 0]], []⟩ 8 (by kernel_rfl) (by kernel_rfl) (by kernel_rfl) (by kernel_rfl)) ?_
  intro W base args ds gs before hval hW _ _
  exact contract H enc W base args ds gs before hval hW

/-- The statement. -/
theorem proved : Rows.FnExactGoodSumSaid :=
  OpenClaim.holds_of_wide 4 Try.f4 rfl rfl rfl rfl rfl rfl rfl ⟨rfl, rfl, rfl, rfl, rfl⟩ rfl rfl rfl rfl rfl (by kernel_rfl) Try.func4 (by kernel_rfl)
    (of_decide_eq_true (by kernel_rfl)) (by unfold Func.isWrapper; first | (rw [if_pos (by decide +kernel)]; kernel_rfl) | (rw [if_neg (by decide +kernel)]; exact ⟨rfl, rfl⟩))
    (fun os started H enc _ => lifted os started H enc)
#print axioms proved

end Go.Proofs.Ytdlcjcobfckncaa.fnExactGoodSum
