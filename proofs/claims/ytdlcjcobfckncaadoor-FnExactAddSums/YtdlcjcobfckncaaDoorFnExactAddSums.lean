/-
  Proved: at every two sums the law FnExactAddSums returns true, and its arguments read afterwards as they did.
-/
import Derived.Test.YtdlcjcobfckncaaDoorFrame
import Derived.Test.YtdlcjcobfckncaaDoorSge
import Derived.Test.YtdlcjcobfckncaaDoorCards
import Derived.Test.YtdlcjcobfckncaaDoorTie
import Derived.LaidMore
namespace Go.Proofs.YtdlcjcobfckncaaDoor.fnExactAddSums
open Go.ChangeShapes Go.WideShapes Go.ChangeAt Go.RowKit

theorem own : ownKnob Tryd.prog.godebug = none := by kernel_rfl
theorem laidOut : laidOutB Tryd.prog = true := by kernel_rfl

theorem table0 {W : World} (h : laidMetH Tryd.prog Rows.fnExactAddSumsRow.laid W) : Cmp.CmpTab W := by
  have c := Frame.tab2_cell (n := "loop.example/g00641/impl.toldByKind") (k := .i64) (zss := [[0, 2, 0], [2, 0, 0], [0, 0, 2]]) (g := 0) (t := 143) (e := 142) (u := 3) (m := 3) (r := 3) h (by kernel_rfl) (by simp [Rows.fnExactAddSumsRow, Rows.laid_loop_example_g00641_impl_toldByKind, Lib.tabData])
    (by kernel_rfl) (by kernel_rfl) Tryd.underlying143 Tryd.underlying142 Tryd.underlying3 (by kernel_rfl) (by kernel_rfl)
  exact ⟨c 0 0 (by decide) (by decide) (by decide), c 0 1 (by decide) (by decide) (by decide), c 0 2 (by decide) (by decide) (by decide), c 1 0 (by decide) (by decide) (by decide), c 1 1 (by decide) (by decide) (by decide), c 1 2 (by decide) (by decide) (by decide), c 2 0 (by decide) (by decide) (by decide), c 2 1 (by decide) (by decide) (by decide), c 2 2 (by decide) (by decide) (by decide)⟩

open Go.Proofs.YtdlcjcobfckncaaDoor.Sgb Go.Proofs.YtdlcjcobfckncaaDoor.Sgd Go.Proofs.YtdlcjcobfckncaaDoor.Sge

set_option maxRecDepth 20000 in
set_option maxHeartbeats 40000000 in
theorem walk' (a b : Sm) (w : World) (hT : Cmp.CmpTab w) :
    Calls Tryd.prog 7 #[.agg #[.int .i64 a.r, .int .i64 a.k, .int .i64 a.t, .bool a.lb, .int .i64 a.l, .bool a.hb, .int .i64 a.h], .agg #[.int .i64 b.r, .int .i64 b.k, .int .i64 b.t, .bool b.lb, .int .i64 b.l, .bool b.hb, .int .i64 b.h]] w fun e w' => e = .returned (.bool true) ∧ Below w.heap.size w w' := by
  have HT : Hid (Cmp.CmpTab w) := hT
  clear hT
  have BW : Hid (Below w.heap.size w ((w.alloc (.cells #[.int .i64 a.r, .int .i64 a.k, .int .i64 a.t, .bool a.lb, .int .i64 a.l, .bool a.hb, .int .i64 a.h] 75)).alloc (.cells #[.int .i64 b.r, .int .i64 b.k, .int .i64 b.t, .bool b.lb, .int .i64 b.l, .bool b.hb, .int .i64 b.h] 75))) := ((Below.refl _ _).alloc (Nat.le_refl _) _).alloc (by simp) _
  have hs : ((w.alloc (.cells #[.int .i64 a.r, .int .i64 a.k, .int .i64 a.t, .bool a.lb, .int .i64 a.l, .bool a.hb, .int .i64 a.h] 75)).alloc (.cells #[.int .i64 b.r, .int .i64 b.k, .int .i64 b.t, .bool b.lb, .int .i64 b.l, .bool b.hb, .int .i64 b.h] 75)).heap.size = w.heap.size + 2 := by simp
  have I0 : Hid (Inv2 ((w.alloc (.cells #[.int .i64 a.r, .int .i64 a.k, .int .i64 a.t, .bool a.lb, .int .i64 a.l, .bool a.hb, .int .i64 a.h] 75)).alloc (.cells #[.int .i64 b.r, .int .i64 b.k, .int .i64 b.t, .bool b.lb, .int .i64 b.l, .bool b.hb, .int .i64 b.h] 75)) w.heap.size a b ((w.alloc (.cells #[.int .i64 a.r, .int .i64 a.k, .int .i64 a.t, .bool a.lb, .int .i64 a.l, .bool a.hb, .int .i64 a.h] 75)).alloc (.cells #[.int .i64 b.r, .int .i64 b.k, .int .i64 b.t, .bool b.lb, .int .i64 b.l, .bool b.hb, .int .i64 b.h] 75))) := ⟨(At.new w a _).call ((Below.refl _ _).alloc (Nat.le_refl _) _), by have h := At.new (w.alloc (.cells #[.int .i64 a.r, .int .i64 a.k, .int .i64 a.t, .bool a.lb, .int .i64 a.l, .bool a.hb, .int .i64 a.h] 75)) b 75; rwa [World.size_alloc] at h, Below.refl _ _⟩
  generalize hD : ((w.alloc (.cells #[.int .i64 a.r, .int .i64 a.k, .int .i64 a.t, .bool a.lb, .int .i64 a.l, .bool a.hb, .int .i64 a.h] 75)).alloc (.cells #[.int .i64 b.r, .int .i64 b.k, .int .i64 b.t, .bool b.lb, .int .i64 b.l, .bool b.hb, .int .i64 b.h] 75)) = D at BW hs I0
  have HD : Hid (((w.alloc (.cells #[.int .i64 a.r, .int .i64 a.k, .int .i64 a.t, .bool a.lb, .int .i64 a.l, .bool a.hb, .int .i64 a.h] 75)).alloc (.cells #[.int .i64 b.r, .int .i64 b.k, .int .i64 b.t, .bool b.lb, .int .i64 b.l, .bool b.hb, .int .i64 b.h] 75)) = D) := hD
  have HS : Hid (D.heap.size = w.heap.size + 2) := hs
  have hp : w.heap.size + 1 < D.heap.size := by omega
  clear hD hs
  go_enter Tryd.func7, Tryd.ntmps7
  go_upto_region 1 with fail
  rw [HD.out]
  go_cut [5, 6] (fun s5 s6 wx => ∃ c, s5 = .pointer (some ⟨c, 0, none⟩) ∧ s6 = .bool (addB a b) ∧ Mk7 D (addV a b) wx c)
  case first =>
    go_region_held3 (fun W => W.cell? ⟨w.heap.size, 0, none⟩ = some (.int .i64 a.r) ∧ W.cell? ⟨w.heap.size, 1, none⟩ = some (.int .i64 a.k) ∧ W.cell? ⟨w.heap.size, 2, none⟩ = some (.int .i64 a.t) ∧ W.cell? ⟨w.heap.size, 3, none⟩ = some (.bool a.lb) ∧ W.cell? ⟨w.heap.size, 4, none⟩ = some (.int .i64 a.l) ∧ W.cell? ⟨w.heap.size, 5, none⟩ = some (.bool a.hb) ∧ W.cell? ⟨w.heap.size, 6, none⟩ = some (.int .i64 a.h) ∧ W.cell? ⟨w.heap.size + 1, 0, none⟩ = some (.int .i64 b.r) ∧ W.cell? ⟨w.heap.size + 1, 1, none⟩ = some (.int .i64 b.k) ∧ W.cell? ⟨w.heap.size + 1, 2, none⟩ = some (.int .i64 b.t) ∧ W.cell? ⟨w.heap.size + 1, 3, none⟩ = some (.bool b.lb) ∧ W.cell? ⟨w.heap.size + 1, 4, none⟩ = some (.int .i64 b.l) ∧ W.cell? ⟨w.heap.size + 1, 5, none⟩ = some (.bool b.hb) ∧ W.cell? ⟨w.heap.size + 1, 6, none⟩ = some (.int .i64 b.h)) (first | (refine (fun (h : Inv2 D w.heap.size a b _) => ⟨h.one.1, h.one.2.1, h.one.2.2.1, h.one.2.2.2.1, h.one.2.2.2.2.1, h.one.2.2.2.2.2.1, h.one.2.2.2.2.2.2, h.two⟩) ?_; (repeat (first | with_reducible exact J3.out | with_reducible exact J2.out | with_reducible exact J1.out | with_reducible exact I0.out | with_reducible apply Inv2.made | with_reducible apply Inv2.drawn | (with_reducible refine Inv2.set _ _ _ ?_ hp ?_; (focus omega)))))) (first | (go_at_call_has 44 a; refine (Sma.toSum a.r a.k a.t a.lb a.l a.hb a.h _).mono ?_; rintro e w1 ⟨rfl, hb1⟩; have J1 : Hid (Inv2 D w.heap.size a b w1) := (by refine Inv2.call ?_ hb1; (repeat (first | with_reducible exact J3.out | with_reducible exact J2.out | with_reducible exact J1.out | with_reducible exact I0.out | with_reducible apply Inv2.made | with_reducible apply Inv2.drawn | (with_reducible refine Inv2.set _ _ _ ?_ hp ?_; (focus omega))))); have bz1 := J1.out.below.size; (first | (have X10 : Hid (Box7 w1 (D.heap.size)) := Box7.call (Box7.drew (Box7.new D)) hb1) | (have X10 : Hid (Box7 w1 (D.heap.size)) := Box7.call (Box7.new D.drew) hb1) | skip); clear hb1) | (go_at_call_has 44 b; refine (Sma.toSum b.r b.k b.t b.lb b.l b.hb b.h _).mono ?_; rintro e w2 ⟨rfl, hb2⟩; have J2 : Hid (Inv2 D w.heap.size a b w2) := (by refine Inv2.call ?_ hb2; (repeat (first | with_reducible exact J3.out | with_reducible exact J2.out | with_reducible exact J1.out | with_reducible exact I0.out | with_reducible apply Inv2.made | with_reducible apply Inv2.drawn | (with_reducible refine Inv2.set _ _ _ ?_ hp ?_; (focus omega))))); have bz2 := J2.out.below.size; (first | (have X20 : Hid (Box7 w2 (D.heap.size)) := Box7.call X10.out hb2) | skip); (first | (have X21 : Hid (Box7 w2 (w1.heap.size)) := Box7.call (Box7.new w1) hb2) | skip); clear hb2) | (go_at_call 18; refine (spec_AddSums a b _).mono ?_; rintro e w3 ⟨rfl, hb3⟩; have J3 : Hid (Inv2 D w.heap.size a b w3) := (by refine Inv2.call ?_ hb3; (repeat (first | with_reducible exact J3.out | with_reducible exact J2.out | with_reducible exact J1.out | with_reducible exact I0.out | with_reducible apply Inv2.made | with_reducible apply Inv2.drawn | (with_reducible refine Inv2.set _ _ _ ?_ hp ?_; (focus omega))))); have bz3 := J3.out.below.size; (first | (have X30 : Hid (Box7 w3 (D.heap.size)) := Box7.call X20.out hb3) | skip); (first | (obtain ⟨a00, a01, a02, a03, a04, a05, a06⟩ := X30.out.c; have g0 := X30.out.f; have n0 := Nat.ne_of_gt X30.out.c.lt; have l0 := X30.out.c.lt) | skip); (first | (have X31 : Hid (Box7 w3 (w1.heap.size)) := Box7.call X21.out hb3) | skip); (first | (obtain ⟨a10, a11, a12, a13, a14, a15, a16⟩ := X31.out.c; have g1 := X31.out.f; have n1 := Nat.ne_of_gt X31.out.c.lt; have l1 := X31.out.c.lt) | skip); (first | (have X32 : Hid (Box7 w3 (w2.heap.size)) := Box7.call (Box7.new w2) hb3) | skip); (first | (obtain ⟨a20, a21, a22, a23, a24, a25, a26⟩ := X32.out.c; have g2 := X32.out.f; have n2 := Nat.ne_of_gt X32.out.c.lt; have l2 := X32.out.c.lt) | skip); clear hb3))
    · go_wp2_with fail
      go_meet
      exact ⟨_, rfl, rfl, mkA _ J3.out.below⟩
    · go_wp2_with fail
      go_meet
      exact ⟨_, rfl, rfl, mkB J3.out.below X32.out.c (J2.out.below.size)⟩
    · go_wp2_with fail
      go_meet
      exact ⟨_, rfl, rfl, mkB J3.out.below X31.out.c (J1.out.below.size)⟩
    · go_wp2_with fail
      go_meet
      exact ⟨_, rfl, rfl, mkB J3.out.below X30.out.c (Nat.le_refl _)⟩
  case rest =>
  obtain ⟨c5, rfl, rfl, hm⟩ := hcut
  have M5 : Hid (At wc c5 (addV a b)) := hm.2
  have I1 : Hid (Inv2 wc w.heap.size a b wc) := ⟨I0.out.one.call hm.1, I0.out.two.call hm.1, Below.refl _ _⟩
  have BW' : Hid (Below w.heap.size w wc) := Frame.next BW.out hm.1 BW.out.size
  have hp' : w.heap.size + 1 < wc.heap.size := I1.out.two.lt
  clear hm I0 HD HS hp BW
  go_upto_region 2 with fail
  go_cut [7, 8] (fun s5 s6 wx => ∃ c, s5 = .pointer (some ⟨c, 0, none⟩) ∧ s6 = .bool (addB a b) ∧ Mk7 wc (addV a b) wx c)
  case first =>
    go_region_held3 (fun W => W.cell? ⟨w.heap.size, 0, none⟩ = some (.int .i64 a.r) ∧ W.cell? ⟨w.heap.size, 1, none⟩ = some (.int .i64 a.k) ∧ W.cell? ⟨w.heap.size, 2, none⟩ = some (.int .i64 a.t) ∧ W.cell? ⟨w.heap.size, 3, none⟩ = some (.bool a.lb) ∧ W.cell? ⟨w.heap.size, 4, none⟩ = some (.int .i64 a.l) ∧ W.cell? ⟨w.heap.size, 5, none⟩ = some (.bool a.hb) ∧ W.cell? ⟨w.heap.size, 6, none⟩ = some (.int .i64 a.h) ∧ W.cell? ⟨w.heap.size + 1, 0, none⟩ = some (.int .i64 b.r) ∧ W.cell? ⟨w.heap.size + 1, 1, none⟩ = some (.int .i64 b.k) ∧ W.cell? ⟨w.heap.size + 1, 2, none⟩ = some (.int .i64 b.t) ∧ W.cell? ⟨w.heap.size + 1, 3, none⟩ = some (.bool b.lb) ∧ W.cell? ⟨w.heap.size + 1, 4, none⟩ = some (.int .i64 b.l) ∧ W.cell? ⟨w.heap.size + 1, 5, none⟩ = some (.bool b.hb) ∧ W.cell? ⟨w.heap.size + 1, 6, none⟩ = some (.int .i64 b.h)) (first | (refine (fun (h : Inv2 wc w.heap.size a b _) => ⟨h.one.1, h.one.2.1, h.one.2.2.1, h.one.2.2.2.1, h.one.2.2.2.2.1, h.one.2.2.2.2.2.1, h.one.2.2.2.2.2.2, h.two⟩) ?_; (repeat (first | with_reducible exact J3.out | with_reducible exact J2.out | with_reducible exact J1.out | with_reducible exact I1.out | with_reducible apply Inv2.made | with_reducible apply Inv2.drawn | (with_reducible refine Inv2.set _ _ _ ?_ hp' ?_; (focus omega)))))) (first | (go_at_call_has 44 a; refine (Sma.toSum a.r a.k a.t a.lb a.l a.hb a.h _).mono ?_; rintro e w1 ⟨rfl, hb1⟩; have J1 : Hid (Inv2 wc w.heap.size a b w1) := (by refine Inv2.call ?_ hb1; (repeat (first | with_reducible exact J3.out | with_reducible exact J2.out | with_reducible exact J1.out | with_reducible exact I1.out | with_reducible apply Inv2.made | with_reducible apply Inv2.drawn | (with_reducible refine Inv2.set _ _ _ ?_ hp' ?_; (focus omega))))); have bz1 := J1.out.below.size; (first | (have X10 : Hid (Box7 w1 (wc.heap.size)) := Box7.call (Box7.drew (Box7.new wc)) hb1) | (have X10 : Hid (Box7 w1 (wc.heap.size)) := Box7.call (Box7.new wc.drew) hb1) | skip); clear hb1) | (go_at_call_has 44 b; refine (Sma.toSum b.r b.k b.t b.lb b.l b.hb b.h _).mono ?_; rintro e w2 ⟨rfl, hb2⟩; have J2 : Hid (Inv2 wc w.heap.size a b w2) := (by refine Inv2.call ?_ hb2; (repeat (first | with_reducible exact J3.out | with_reducible exact J2.out | with_reducible exact J1.out | with_reducible exact I1.out | with_reducible apply Inv2.made | with_reducible apply Inv2.drawn | (with_reducible refine Inv2.set _ _ _ ?_ hp' ?_; (focus omega))))); have bz2 := J2.out.below.size; (first | (have X20 : Hid (Box7 w2 (wc.heap.size)) := Box7.call X10.out hb2) | skip); (first | (have X21 : Hid (Box7 w2 (w1.heap.size)) := Box7.call (Box7.new w1) hb2) | skip); clear hb2) | (go_at_call 14; refine (impl_AddSums a b _ (HT.out.below (by refine Frame.next BW'.out (Inv2.below (p := w.heap.size) (a := a) (b := b) ?_) BW'.out.size; (repeat (first | with_reducible exact J3.out | with_reducible exact J2.out | with_reducible exact J1.out | with_reducible exact I1.out | with_reducible apply Inv2.made | with_reducible apply Inv2.drawn | (with_reducible refine Inv2.set _ _ _ ?_ hp' ?_; (focus omega))))))).mono ?_; rintro e w3 ⟨rfl, hb3⟩; have J3 : Hid (Inv2 wc w.heap.size a b w3) := (by refine Inv2.call ?_ hb3; (repeat (first | with_reducible exact J3.out | with_reducible exact J2.out | with_reducible exact J1.out | with_reducible exact I1.out | with_reducible apply Inv2.made | with_reducible apply Inv2.drawn | (with_reducible refine Inv2.set _ _ _ ?_ hp' ?_; (focus omega))))); have bz3 := J3.out.below.size; (first | (have X30 : Hid (Box7 w3 (wc.heap.size)) := Box7.call X20.out hb3) | skip); (first | (obtain ⟨a00, a01, a02, a03, a04, a05, a06⟩ := X30.out.c; have g0 := X30.out.f; have n0 := Nat.ne_of_gt X30.out.c.lt; have l0 := X30.out.c.lt) | skip); (first | (have X31 : Hid (Box7 w3 (w1.heap.size)) := Box7.call X21.out hb3) | skip); (first | (obtain ⟨a10, a11, a12, a13, a14, a15, a16⟩ := X31.out.c; have g1 := X31.out.f; have n1 := Nat.ne_of_gt X31.out.c.lt; have l1 := X31.out.c.lt) | skip); (first | (have X32 : Hid (Box7 w3 (w2.heap.size)) := Box7.call (Box7.new w2) hb3) | skip); (first | (obtain ⟨a20, a21, a22, a23, a24, a25, a26⟩ := X32.out.c; have g2 := X32.out.f; have n2 := Nat.ne_of_gt X32.out.c.lt; have l2 := X32.out.c.lt) | skip); clear hb3))
    · go_wp2_with fail
      go_meet
      exact ⟨_, rfl, rfl, mkA _ J3.out.below⟩
    · go_wp2_with fail
      go_meet
      exact ⟨_, rfl, rfl, mkB J3.out.below X32.out.c (J2.out.below.size)⟩
    · go_wp2_with fail
      go_meet
      exact ⟨_, rfl, rfl, mkB J3.out.below X31.out.c (J1.out.below.size)⟩
    · go_wp2_with fail
      go_meet
      exact ⟨_, rfl, rfl, mkB J3.out.below X30.out.c (Nat.le_refl _)⟩
  case rest =>
  obtain ⟨c7, rfl, rfl, hm⟩ := hcut
  obtain ⟨p0, p1, p2, p3, p4, p5, p6⟩ := hm.2
  obtain ⟨q0, q1, q2, q3, q4, q5, q6⟩ := M5.out.call hm.1
  have B7 := Frame.next BW'.out hm.1 BW'.out.size
  have B8 : Hid _ := B7
  clear hm B7
  go_wp2_with fail
  refine (eqSum (addV a b) _).mono ?_
  rintro e w9 ⟨rfl, hb9⟩
  have B9 : Hid (Below w.heap.size w w9) := Frame.next B8.out hb9 B8.out.size
  clear hb9 p0 p1 p2 p3 p4 p5 p6 q0 q1 q2 q3 q4 q5 q6
  go_wp2
  go_ret
  exact ⟨rfl, B9.out⟩

theorem walk (r0 k0 t0 : Int) (lb0 : Bool) (l0 : Int) (hb0 : Bool) (h0 : Int) (r1 k1 t1 : Int) (lb1 : Bool) (l1 : Int) (hb1 : Bool) (h1 : Int) (w : World) (_f0r : (Lit.int .i64 r0).wf = true) (_f0k : (Lit.int .i64 k0).wf = true) (_f0t : (Lit.int .i64 t0).wf = true) (_f0l : (Lit.int .i64 l0).wf = true) (_f0h : (Lit.int .i64 h0).wf = true) (_f1r : (Lit.int .i64 r1).wf = true) (_f1k : (Lit.int .i64 k1).wf = true) (_f1t : (Lit.int .i64 t1).wf = true) (_f1l : (Lit.int .i64 l1).wf = true) (_f1h : (Lit.int .i64 h1).wf = true) (hT : Cmp.CmpTab w) :
    Calls Tryd.prog 7 #[.agg #[.int .i64 r0, .int .i64 k0, .int .i64 t0, .bool lb0, .int .i64 l0, .bool hb0, .int .i64 h0], .agg #[.int .i64 r1, .int .i64 k1, .int .i64 t1, .bool lb1, .int .i64 l1, .bool hb1, .int .i64 h1]] w fun e w' => e = .returned (.bool true) ∧ Below w.heap.size w w' :=
  walk' ⟨r0, k0, t0, lb0, l0, hb0, h0⟩ ⟨r1, k1, t1, lb1, l1, hb1, h1⟩ w hT

set_option maxRecDepth 100000 in
theorem contract (H : Type) (enc : TypeId × Value → H) (W : World) (base : Nat) (args : Array Value) (ds gs : List (DataW H)) (before : List MemPlace)
    (hval0 : ∀ (j : Nat) t v, Tryd.f7.params[j]? = some t → args[j]? = some v → Value.okWide Tryd.prog W .any base t v)
    (hW : DataW.Whole enc Tryd.prog Tryd.f7.params.toList Rows.fnExactAddSumsSpec.vars false W args.toList ds gs before) (hL : laidMetH Tryd.prog Rows.fnExactAddSumsRow.laid W) :
    Calls Tryd.prog 7 args W fun e W' => ∃ v, e = .returned v ∧ Rows.fnExactAddSumsSpec.post enc Tryd.prog Tryd.f7 false true false false W args v W' := by
  refine Frame.law_calls (tb := 4) laidOut (by kernel_rfl) (by kernel_rfl) (by kernel_rfl) Tryd.underlying4 hW (fun ds gs h1 h2 => ?_) ?_
  · rw [Tryd.params7] at h1
    match ds, gs, h1, h2 with
    | [_, _], [_], _, _ => rfl
  · obtain ⟨p, q, hA0, _, _, _, _⟩ := hW
    have hval : ∀ (j : Nat) t v, Tryd.f7.params[j]? = some t → args[j]? = some v → Value.okWide Tryd.prog W .any base t v := hval0
    have hA : DataW.TrodAll enc Tryd.prog W 0 (fun _ => true) true Tryd.f7.params.toList args.toList ds p := hA0
    rw [Tryd.params7] at hA hval
    obtain ⟨v0, vs0, d0, ds0, p0, q0, hargs, rfl, rfl, h0, r0⟩ := trodAll_cons hA
    obtain ⟨v1, vs1, d1, ds1, p1, q1, rfl, rfl, rfl, h1, r1⟩ := trodAll_cons r0
    obtain ⟨rfl, rfl, rfl⟩ := trodAll_nil r1
    obtain rfl : args = #[v0, v1] := by cases args; simp_all
    obtain ⟨sr0, sk0, st0, slb0, sl0, shb0, sh0, rfl, wr0, wk0, wt0, wl0, wh0⟩ := Smb.sum_of (hval 0 75 v0 rfl rfl) h0
    obtain ⟨sr1, sk1, st1, slb1, sl1, shb1, sh1, rfl, wr1, wk1, wt1, wl1, wh1⟩ := Smb.sum_of (hval 1 75 v1 rfl rfl) h1
    exact walk sr0 sk0 st0 slb0 sl0 shb0 sh0 sr1 sk1 st1 slb1 sl1 shb1 sh1 W wr0 wk0 wt0 wl0 wh0 wr1 wk1 wt1 wl1 wh1 (table0 hL)

theorem laid_met (os : Os) : laidMetH Tryd.prog Rows.fnExactAddSumsRow.laid ((World.doorLaid Tryd.prog 400 os).forCall (fun _ _ => 0) ⟨#[], #[.agg #[.int .i64 0, .int .i64 0, .int .i64 0, .bool false, .int .i64 0, .bool false, .int .i64 0], .agg #[.int .i64 0, .int .i64 0, .int .i64 0, .bool false, .int .i64 0, .bool false, .int .i64 0]], []⟩).memory :=
  laidMetH_of_parts3 (fuel := 8) (laidMet_of_run' 8 (by kernel_rfl) (by kernel_rfl)) (by kernel_rfl) (by kernel_rfl)

set_option maxRecDepth 100000 in
theorem lifted (os : Os) (started : os.Started) (H : Type) (enc : TypeId × Value → H) (F : Stop.Interp) :
    ReturnsInHanded {} Tryd.checked os 7 .any ((OpenSpec.ofChange Rows.fnExactAddSumsSpec).preRow enc Tryd.prog Tryd.f7 Rows.fnExactAddSumsRow.domain false Rows.fnExactAddSumsRow.laid) (((OpenSpec.ofChange Rows.fnExactAddSumsSpec).at F).post enc Tryd.prog Tryd.f7 false true false false) := by
  obtain ⟨places, hx⟩ : ∃ places, DataW.whole enc Tryd.prog ((World.doorLaid Tryd.prog 400 os).forCall (fun _ _ => 0) ⟨#[], #[.agg #[.int .i64 0, .int .i64 0, .int .i64 0, .bool false, .int .i64 0, .bool false, .int .i64 0], .agg #[.int .i64 0, .int .i64 0, .int .i64 0, .bool false, .int .i64 0, .bool false, .int .i64 0]], []⟩).memory Tryd.f7.params.toList Rows.fnExactAddSumsSpec.vars false #[Value.agg #[.int .i64 0, .int .i64 0, .int .i64 0, .bool false, .int .i64 0, .bool false, .int .i64 0], Value.agg #[.int .i64 0, .int .i64 0, .int .i64 0, .bool false, .int .i64 0, .bool false, .int .i64 0]].toList 8 = some ([.agg [.lit (.int .i64 0), .lit (.int .i64 0), .lit (.int .i64 0), .agg [.lit (.bool false), .lit (.int .i64 0)], .agg [.lit (.bool false), .lit (.int .i64 0)]], .agg [.lit (.int .i64 0), .lit (.int .i64 0), .lit (.int .i64 0), .agg [.lit (.bool false), .lit (.int .i64 0)], .agg [.lit (.bool false), .lit (.int .i64 0)]]], [Rows.laid_loop_example_g00641_impl_toldByKind], places) := ⟨MemPlace.row ⟨0, 0, none⟩ 9, by kernel_rfl⟩
  refine returnsInHanded_of_row (C := Tryd.checked) (s := OpenSpec.ofChange Rows.fnExactAddSumsSpec) own started (by kernel_rfl) Tryd.func7
    (witness_row_at (enc := enc) (C := Tryd.checked) false (World.doorLaid Tryd.prog 400 os) #[.agg #[.int .i64 0, .int .i64 0, .int .i64 0, .bool false, .int .i64 0, .bool false, .int .i64 0], .agg #[.int .i64 0, .int .i64 0, .int .i64 0, .bool false, .int .i64 0, .bool false, .int .i64 0]] rfl (by kernel_rfl) (by kernel_rfl) (by kernel_rfl)
      (OpenSpec.preRow_of_cond 8 hx (by kernel_rfl) (fun k hk => by cases hk) (by kernel_rfl) (laid_met os))) ?_
  intro W base args ds gs before hval hW _ _ _ hL _ _
  exact contract H enc W base args ds gs before hval hW hL

theorem said : Rows.FnExactAddSumsSaid :=
  OpenClaim.holds_of_cond 7 Tryd.f7 rfl rfl rfl rfl rfl rfl rfl ⟨rfl, rfl, rfl, rfl, rfl⟩ rfl rfl rfl rfl rfl (by kernel_rfl) Tryd.func7 (by kernel_rfl)
    (of_decide_eq_true (by kernel_rfl)) (by unfold Func.isWrapper; first | (rw [if_pos (by decide +kernel)]; kernel_rfl) | (rw [if_neg (by decide +kernel)]; exact ⟨rfl, rfl⟩))
    (fun os started H enc _ F => by rw [OpenClaim.pre_eq_preRow]; exact lifted os started H enc F)

theorem plain (f : FuncId) (fn : Func) (hf : Tryd.pinned.checked.prog.funcNamed "loop.example/g00641/laws.FnExactAddSums" = some f) (hfn : Tryd.pinned.checked.prog.funcs[f]? = some fn) :
    false = Tryd.pinned.checked.prog.looks [] ∧ ∀ (j : Nat) t, fn.params[j]? = some t → Tryd.pinned.checked.prog.wantsStandIn t = false := by
  obtain rfl : f = 7 := Option.some.inj ((show Tryd.prog.funcNamed "loop.example/g00641/laws.FnExactAddSums" = some 7 by kernel_rfl).symm.trans hf) |>.symm
  obtain rfl : fn = Tryd.f7 := (Option.some.inj (Tryd.func7.symm.trans hfn)).symm
  refine ⟨by kernel_rfl, fun j t ht => ?_⟩
  have hm := Array.mem_of_getElem? ht
  have hall : (Tryd.f7.params.toList.all fun u => !Tryd.prog.wantsStandIn u) = true := by kernel_rfl
  exact (show Tryd.prog.wantsStandIn t = false by simpa using List.all_eq_true.1 hall t (by simpa using hm))

/-- The card. -/
theorem proved : Rows.FnExactAddSumsCardSaid :=
  Claim7.holds_tied_plain_at .later [] _ _ _ _ said (fun _ h => by cases h) (by kernel_rfl) (fun _ h => by cases h) fnExactAddSums_row_tie rfl ⟨rfl, rfl⟩ (by kernel_rfl) rfl plain (by kernel_rfl)
#print axioms proved

end Go.Proofs.YtdlcjcobfckncaaDoor.fnExactAddSums
