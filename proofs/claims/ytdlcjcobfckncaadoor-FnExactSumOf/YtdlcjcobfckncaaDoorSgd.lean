/-
  Sums that fit; AddSums, of the program and of the model.
-/
import Derived.Test.YtdlcjcobfckncaaDoorSgb
namespace Go.Proofs.YtdlcjcobfckncaaDoor.Sgd
open Go.RowKit
open Go.Proofs.YtdlcjcobfckncaaDoor.Frame Go.Proofs.YtdlcjcobfckncaaDoor.Mem Go.Proofs.YtdlcjcobfckncaaDoor.Val Go.Proofs.YtdlcjcobfckncaaDoor.Sma Go.Proofs.YtdlcjcobfckncaaDoor.Flt Go.Proofs.YtdlcjcobfckncaaDoor.Sga Go.Proofs.YtdlcjcobfckncaaDoor.Sgb

/-- A sum as data. -/
structure Sm where
  r : Int
  k : Int
  t : Int
  lb : Bool
  l : Int
  hb : Bool
  h : Int
def Sm.good (s : Sm) : Bool := goodS s.r s.k s.t s.lb s.l s.hb s.h
def zeroS : Sm := ⟨0, 0, 0, false, 0, false, 0⟩
def tog (a b : Sm) : Sm := ⟨a.r + b.r, a.k + b.k, IntKind.i64.wrap (a.t + b.t), (endN 1 a.lb a.l b.lb b.l).1, (endN 1 a.lb a.l b.lb b.l).2, (endN 2 a.hb a.h b.hb b.h).1, (endN 2 a.hb a.h b.hb b.h).2⟩
def fit (s : Sm) : Sm := if s.good then s else zeroS
def addB (a b : Sm) : Bool := a.good && (b.good && (tog a b).good)
def addV (a b : Sm) : Sm := if a.good && b.good then fit (tog a b) else zeroS

set_option maxRecDepth 4000 in
set_option maxHeartbeats 1600000 in
theorem fitted (s : Sm) (w : World) : Calls Tryd.prog 53 #[.agg #[.int .i64 s.r, .int .i64 s.k, .int .i64 s.t, .bool s.lb, .int .i64 s.l, .bool s.hb, .int .i64 s.h]] w fun e w' => e = .returned (.tuple #[.agg #[.int .i64 (fit s).r, .int .i64 (fit s).k, .int .i64 (fit s).t, .bool (fit s).lb, .int .i64 (fit s).l, .bool (fit s).hb, .int .i64 (fit s).h], .bool s.good]) ∧ Below w.heap.size w w' := by
  have B0 : Hid (Below w.heap.size w ((w.alloc (.cells #[.int .i64 s.r, .int .i64 s.k, .int .i64 s.t, .bool s.lb, .int .i64 s.l, .bool s.hb, .int .i64 s.h] 28)).alloc (.cells #[.int .i64 0, .int .i64 0, .int .i64 0, .bool false, .int .i64 0, .bool false, .int .i64 0] 28))) := ((Below.refl _ _).alloc (Nat.le_refl _) _).alloc (by simp) _
  have Ks1 : Hid (((w.alloc (.cells #[.int .i64 s.r, .int .i64 s.k, .int .i64 s.t, .bool s.lb, .int .i64 s.l, .bool s.hb, .int .i64 s.h] 28)).alloc (.cells #[.int .i64 0, .int .i64 0, .int .i64 0, .bool false, .int .i64 0, .bool false, .int .i64 0] 28)).cell? ⟨w.heap.size, 0, none⟩ = some (.int .i64 s.r) ∧ ((w.alloc (.cells #[.int .i64 s.r, .int .i64 s.k, .int .i64 s.t, .bool s.lb, .int .i64 s.l, .bool s.hb, .int .i64 s.h] 28)).alloc (.cells #[.int .i64 0, .int .i64 0, .int .i64 0, .bool false, .int .i64 0, .bool false, .int .i64 0] 28)).cell? ⟨w.heap.size, 1, none⟩ = some (.int .i64 s.k) ∧ ((w.alloc (.cells #[.int .i64 s.r, .int .i64 s.k, .int .i64 s.t, .bool s.lb, .int .i64 s.l, .bool s.hb, .int .i64 s.h] 28)).alloc (.cells #[.int .i64 0, .int .i64 0, .int .i64 0, .bool false, .int .i64 0, .bool false, .int .i64 0] 28)).cell? ⟨w.heap.size, 2, none⟩ = some (.int .i64 s.t) ∧ ((w.alloc (.cells #[.int .i64 s.r, .int .i64 s.k, .int .i64 s.t, .bool s.lb, .int .i64 s.l, .bool s.hb, .int .i64 s.h] 28)).alloc (.cells #[.int .i64 0, .int .i64 0, .int .i64 0, .bool false, .int .i64 0, .bool false, .int .i64 0] 28)).cell? ⟨w.heap.size, 3, none⟩ = some (.bool s.lb) ∧ ((w.alloc (.cells #[.int .i64 s.r, .int .i64 s.k, .int .i64 s.t, .bool s.lb, .int .i64 s.l, .bool s.hb, .int .i64 s.h] 28)).alloc (.cells #[.int .i64 0, .int .i64 0, .int .i64 0, .bool false, .int .i64 0, .bool false, .int .i64 0] 28)).cell? ⟨w.heap.size, 4, none⟩ = some (.int .i64 s.l) ∧ ((w.alloc (.cells #[.int .i64 s.r, .int .i64 s.k, .int .i64 s.t, .bool s.lb, .int .i64 s.l, .bool s.hb, .int .i64 s.h] 28)).alloc (.cells #[.int .i64 0, .int .i64 0, .int .i64 0, .bool false, .int .i64 0, .bool false, .int .i64 0] 28)).cell? ⟨w.heap.size, 5, none⟩ = some (.bool s.hb) ∧ ((w.alloc (.cells #[.int .i64 s.r, .int .i64 s.k, .int .i64 s.t, .bool s.lb, .int .i64 s.l, .bool s.hb, .int .i64 s.h] 28)).alloc (.cells #[.int .i64 0, .int .i64 0, .int .i64 0, .bool false, .int .i64 0, .bool false, .int .i64 0] 28)).cell? ⟨w.heap.size, 6, none⟩ = some (.int .i64 s.h)) := by
    refine ⟨?_, ?_, ?_, ?_, ?_, ?_, ?_⟩ <;> go_simp
  have Kr2 : Hid (((w.alloc (.cells #[.int .i64 s.r, .int .i64 s.k, .int .i64 s.t, .bool s.lb, .int .i64 s.l, .bool s.hb, .int .i64 s.h] 28)).alloc (.cells #[.int .i64 0, .int .i64 0, .int .i64 0, .bool false, .int .i64 0, .bool false, .int .i64 0] 28)).cell? ⟨w.heap.size + 1, 0, none⟩ = some (.int .i64 0) ∧ ((w.alloc (.cells #[.int .i64 s.r, .int .i64 s.k, .int .i64 s.t, .bool s.lb, .int .i64 s.l, .bool s.hb, .int .i64 s.h] 28)).alloc (.cells #[.int .i64 0, .int .i64 0, .int .i64 0, .bool false, .int .i64 0, .bool false, .int .i64 0] 28)).cell? ⟨w.heap.size + 1, 1, none⟩ = some (.int .i64 0) ∧ ((w.alloc (.cells #[.int .i64 s.r, .int .i64 s.k, .int .i64 s.t, .bool s.lb, .int .i64 s.l, .bool s.hb, .int .i64 s.h] 28)).alloc (.cells #[.int .i64 0, .int .i64 0, .int .i64 0, .bool false, .int .i64 0, .bool false, .int .i64 0] 28)).cell? ⟨w.heap.size + 1, 2, none⟩ = some (.int .i64 0) ∧ ((w.alloc (.cells #[.int .i64 s.r, .int .i64 s.k, .int .i64 s.t, .bool s.lb, .int .i64 s.l, .bool s.hb, .int .i64 s.h] 28)).alloc (.cells #[.int .i64 0, .int .i64 0, .int .i64 0, .bool false, .int .i64 0, .bool false, .int .i64 0] 28)).cell? ⟨w.heap.size + 1, 3, none⟩ = some (.bool false) ∧ ((w.alloc (.cells #[.int .i64 s.r, .int .i64 s.k, .int .i64 s.t, .bool s.lb, .int .i64 s.l, .bool s.hb, .int .i64 s.h] 28)).alloc (.cells #[.int .i64 0, .int .i64 0, .int .i64 0, .bool false, .int .i64 0, .bool false, .int .i64 0] 28)).cell? ⟨w.heap.size + 1, 4, none⟩ = some (.int .i64 0) ∧ ((w.alloc (.cells #[.int .i64 s.r, .int .i64 s.k, .int .i64 s.t, .bool s.lb, .int .i64 s.l, .bool s.hb, .int .i64 s.h] 28)).alloc (.cells #[.int .i64 0, .int .i64 0, .int .i64 0, .bool false, .int .i64 0, .bool false, .int .i64 0] 28)).cell? ⟨w.heap.size + 1, 5, none⟩ = some (.bool false) ∧ ((w.alloc (.cells #[.int .i64 s.r, .int .i64 s.k, .int .i64 s.t, .bool s.lb, .int .i64 s.l, .bool s.hb, .int .i64 s.h] 28)).alloc (.cells #[.int .i64 0, .int .i64 0, .int .i64 0, .bool false, .int .i64 0, .bool false, .int .i64 0] 28)).cell? ⟨w.heap.size + 1, 6, none⟩ = some (.int .i64 0) ∧ ((w.alloc (.cells #[.int .i64 s.r, .int .i64 s.k, .int .i64 s.t, .bool s.lb, .int .i64 s.l, .bool s.hb, .int .i64 s.h] 28)).alloc (.cells #[.int .i64 0, .int .i64 0, .int .i64 0, .bool false, .int .i64 0, .bool false, .int .i64 0] 28)).frozen? ⟨w.heap.size + 1, 0, none⟩ = false ∧ ((w.alloc (.cells #[.int .i64 s.r, .int .i64 s.k, .int .i64 s.t, .bool s.lb, .int .i64 s.l, .bool s.hb, .int .i64 s.h] 28)).alloc (.cells #[.int .i64 0, .int .i64 0, .int .i64 0, .bool false, .int .i64 0, .bool false, .int .i64 0] 28)).frozen? ⟨w.heap.size + 1, 1, none⟩ = false ∧ ((w.alloc (.cells #[.int .i64 s.r, .int .i64 s.k, .int .i64 s.t, .bool s.lb, .int .i64 s.l, .bool s.hb, .int .i64 s.h] 28)).alloc (.cells #[.int .i64 0, .int .i64 0, .int .i64 0, .bool false, .int .i64 0, .bool false, .int .i64 0] 28)).frozen? ⟨w.heap.size + 1, 2, none⟩ = false ∧ ((w.alloc (.cells #[.int .i64 s.r, .int .i64 s.k, .int .i64 s.t, .bool s.lb, .int .i64 s.l, .bool s.hb, .int .i64 s.h] 28)).alloc (.cells #[.int .i64 0, .int .i64 0, .int .i64 0, .bool false, .int .i64 0, .bool false, .int .i64 0] 28)).frozen? ⟨w.heap.size + 1, 3, none⟩ = false ∧ ((w.alloc (.cells #[.int .i64 s.r, .int .i64 s.k, .int .i64 s.t, .bool s.lb, .int .i64 s.l, .bool s.hb, .int .i64 s.h] 28)).alloc (.cells #[.int .i64 0, .int .i64 0, .int .i64 0, .bool false, .int .i64 0, .bool false, .int .i64 0] 28)).frozen? ⟨w.heap.size + 1, 4, none⟩ = false ∧ ((w.alloc (.cells #[.int .i64 s.r, .int .i64 s.k, .int .i64 s.t, .bool s.lb, .int .i64 s.l, .bool s.hb, .int .i64 s.h] 28)).alloc (.cells #[.int .i64 0, .int .i64 0, .int .i64 0, .bool false, .int .i64 0, .bool false, .int .i64 0] 28)).frozen? ⟨w.heap.size + 1, 5, none⟩ = false ∧ ((w.alloc (.cells #[.int .i64 s.r, .int .i64 s.k, .int .i64 s.t, .bool s.lb, .int .i64 s.l, .bool s.hb, .int .i64 s.h] 28)).alloc (.cells #[.int .i64 0, .int .i64 0, .int .i64 0, .bool false, .int .i64 0, .bool false, .int .i64 0] 28)).frozen? ⟨w.heap.size + 1, 6, none⟩ = false) := by
    refine ⟨?_, ?_, ?_, ?_, ?_, ?_, ?_, ?_, ?_, ?_, ?_, ?_, ?_, ?_⟩ <;> go_simp
  have hr : w.heap.size ≤ w.heap.size + 1 := by omega
  cases hg : s.good
  · have HG : Hid (goodS s.r s.k s.t s.lb s.l s.hb s.h = false) := hg
    have e : fit s = zeroS := if_neg (by rw [hg]; exact Bool.false_ne_true)
    rw [e]
    clear e hg
    go_enter Tryd.func53, Tryd.ntmps53
    go_wp2_with fail
    refine (impl_GoodSum _ _ _ _ _ _ _ _).mono ?_
    rintro e w1 ⟨rfl, hb1⟩
    rw [HG.out]
    have Ks3 : Hid (w1.cell? ⟨w.heap.size, 0, none⟩ = some (.int .i64 s.r) ∧ w1.cell? ⟨w.heap.size, 1, none⟩ = some (.int .i64 s.k) ∧ w1.cell? ⟨w.heap.size, 2, none⟩ = some (.int .i64 s.t) ∧ w1.cell? ⟨w.heap.size, 3, none⟩ = some (.bool s.lb) ∧ w1.cell? ⟨w.heap.size, 4, none⟩ = some (.int .i64 s.l) ∧ w1.cell? ⟨w.heap.size, 5, none⟩ = some (.bool s.hb) ∧ w1.cell? ⟨w.heap.size, 6, none⟩ = some (.int .i64 s.h)) := ⟨Frame.held_cell hb1 Ks1.out.1, Frame.held_cell hb1 Ks1.out.2.1, Frame.held_cell hb1 Ks1.out.2.2.1, Frame.held_cell hb1 Ks1.out.2.2.2.1, Frame.held_cell hb1 Ks1.out.2.2.2.2.1, Frame.held_cell hb1 Ks1.out.2.2.2.2.2.1, Frame.held_cell hb1 Ks1.out.2.2.2.2.2.2⟩
    have Kr4 : Hid (w1.cell? ⟨w.heap.size + 1, 0, none⟩ = some (.int .i64 0) ∧ w1.cell? ⟨w.heap.size + 1, 1, none⟩ = some (.int .i64 0) ∧ w1.cell? ⟨w.heap.size + 1, 2, none⟩ = some (.int .i64 0) ∧ w1.cell? ⟨w.heap.size + 1, 3, none⟩ = some (.bool false) ∧ w1.cell? ⟨w.heap.size + 1, 4, none⟩ = some (.int .i64 0) ∧ w1.cell? ⟨w.heap.size + 1, 5, none⟩ = some (.bool false) ∧ w1.cell? ⟨w.heap.size + 1, 6, none⟩ = some (.int .i64 0) ∧ w1.frozen? ⟨w.heap.size + 1, 0, none⟩ = false ∧ w1.frozen? ⟨w.heap.size + 1, 1, none⟩ = false ∧ w1.frozen? ⟨w.heap.size + 1, 2, none⟩ = false ∧ w1.frozen? ⟨w.heap.size + 1, 3, none⟩ = false ∧ w1.frozen? ⟨w.heap.size + 1, 4, none⟩ = false ∧ w1.frozen? ⟨w.heap.size + 1, 5, none⟩ = false ∧ w1.frozen? ⟨w.heap.size + 1, 6, none⟩ = false) := ⟨Frame.held_cell hb1 Kr2.out.1, Frame.held_cell hb1 Kr2.out.2.1, Frame.held_cell hb1 Kr2.out.2.2.1, Frame.held_cell hb1 Kr2.out.2.2.2.1, Frame.held_cell hb1 Kr2.out.2.2.2.2.1, Frame.held_cell hb1 Kr2.out.2.2.2.2.2.1, Frame.held_cell hb1 Kr2.out.2.2.2.2.2.2.1, (hb1.frozen (p := ⟨w.heap.size + 1, 0, none⟩) (Frame.cell_lt Kr2.out.1)).trans Kr2.out.2.2.2.2.2.2.2.1, (hb1.frozen (p := ⟨w.heap.size + 1, 1, none⟩) (Frame.cell_lt Kr2.out.2.1)).trans Kr2.out.2.2.2.2.2.2.2.2.1, (hb1.frozen (p := ⟨w.heap.size + 1, 2, none⟩) (Frame.cell_lt Kr2.out.2.2.1)).trans Kr2.out.2.2.2.2.2.2.2.2.2.1, (hb1.frozen (p := ⟨w.heap.size + 1, 3, none⟩) (Frame.cell_lt Kr2.out.2.2.2.1)).trans Kr2.out.2.2.2.2.2.2.2.2.2.2.1, (hb1.frozen (p := ⟨w.heap.size + 1, 4, none⟩) (Frame.cell_lt Kr2.out.2.2.2.2.1)).trans Kr2.out.2.2.2.2.2.2.2.2.2.2.2.1, (hb1.frozen (p := ⟨w.heap.size + 1, 5, none⟩) (Frame.cell_lt Kr2.out.2.2.2.2.2.1)).trans Kr2.out.2.2.2.2.2.2.2.2.2.2.2.2.1, (hb1.frozen (p := ⟨w.heap.size + 1, 6, none⟩) (Frame.cell_lt Kr2.out.2.2.2.2.2.2.1)).trans Kr2.out.2.2.2.2.2.2.2.2.2.2.2.2.2⟩
    have B1 : Hid (Below w.heap.size w w1) := Frame.next B0.out hb1 B0.out.size
    clear hb1
    have qs5 := Ks3.out.1
    have qs6 := Ks3.out.2.1
    have qs7 := Ks3.out.2.2.1
    have qs8 := Ks3.out.2.2.2.1
    have qs9 := Ks3.out.2.2.2.2.1
    have qs10 := Ks3.out.2.2.2.2.2.1
    have qs11 := Ks3.out.2.2.2.2.2.2
    have qr12 := Kr4.out.1
    have qr13 := Kr4.out.2.1
    have qr14 := Kr4.out.2.2.1
    have qr15 := Kr4.out.2.2.2.1
    have qr16 := Kr4.out.2.2.2.2.1
    have qr17 := Kr4.out.2.2.2.2.2.1
    have qr18 := Kr4.out.2.2.2.2.2.2.1
    have qr19 := Kr4.out.2.2.2.2.2.2.2.1
    have qr20 := Kr4.out.2.2.2.2.2.2.2.2.1
    have qr21 := Kr4.out.2.2.2.2.2.2.2.2.2.1
    have qr22 := Kr4.out.2.2.2.2.2.2.2.2.2.2.1
    have qr23 := Kr4.out.2.2.2.2.2.2.2.2.2.2.2.1
    have qr24 := Kr4.out.2.2.2.2.2.2.2.2.2.2.2.2.1
    have qr25 := Kr4.out.2.2.2.2.2.2.2.2.2.2.2.2.2
    go_wp2
    refine bodyPost_ret (v := .tuple #[.agg #[.int .i64 0, .int .i64 0, .int .i64 0, .bool false, .int .i64 0, .bool false, .int .i64 0], .bool false]) (by simp [results, Tryd.results53, go_sem, qr12, qr13, qr14, qr15, qr16, qr17, qr18]) rfl ?_
    exact ⟨rfl, (((((((B1.out.setCell hr _).setCell hr _).setCell hr _).setCell hr _).setCell hr _).setCell hr _).setCell hr _)⟩
  · have HG : Hid (goodS s.r s.k s.t s.lb s.l s.hb s.h = true) := hg
    have e : fit s = s := if_pos hg
    rw [e]
    clear e hg
    go_enter Tryd.func53, Tryd.ntmps53
    go_wp2_with fail
    refine (impl_GoodSum _ _ _ _ _ _ _ _).mono ?_
    rintro e w1 ⟨rfl, hb1⟩
    rw [HG.out]
    have Ks26 : Hid (w1.cell? ⟨w.heap.size, 0, none⟩ = some (.int .i64 s.r) ∧ w1.cell? ⟨w.heap.size, 1, none⟩ = some (.int .i64 s.k) ∧ w1.cell? ⟨w.heap.size, 2, none⟩ = some (.int .i64 s.t) ∧ w1.cell? ⟨w.heap.size, 3, none⟩ = some (.bool s.lb) ∧ w1.cell? ⟨w.heap.size, 4, none⟩ = some (.int .i64 s.l) ∧ w1.cell? ⟨w.heap.size, 5, none⟩ = some (.bool s.hb) ∧ w1.cell? ⟨w.heap.size, 6, none⟩ = some (.int .i64 s.h)) := ⟨Frame.held_cell hb1 Ks1.out.1, Frame.held_cell hb1 Ks1.out.2.1, Frame.held_cell hb1 Ks1.out.2.2.1, Frame.held_cell hb1 Ks1.out.2.2.2.1, Frame.held_cell hb1 Ks1.out.2.2.2.2.1, Frame.held_cell hb1 Ks1.out.2.2.2.2.2.1, Frame.held_cell hb1 Ks1.out.2.2.2.2.2.2⟩
    have Kr27 : Hid (w1.cell? ⟨w.heap.size + 1, 0, none⟩ = some (.int .i64 0) ∧ w1.cell? ⟨w.heap.size + 1, 1, none⟩ = some (.int .i64 0) ∧ w1.cell? ⟨w.heap.size + 1, 2, none⟩ = some (.int .i64 0) ∧ w1.cell? ⟨w.heap.size + 1, 3, none⟩ = some (.bool false) ∧ w1.cell? ⟨w.heap.size + 1, 4, none⟩ = some (.int .i64 0) ∧ w1.cell? ⟨w.heap.size + 1, 5, none⟩ = some (.bool false) ∧ w1.cell? ⟨w.heap.size + 1, 6, none⟩ = some (.int .i64 0) ∧ w1.frozen? ⟨w.heap.size + 1, 0, none⟩ = false ∧ w1.frozen? ⟨w.heap.size + 1, 1, none⟩ = false ∧ w1.frozen? ⟨w.heap.size + 1, 2, none⟩ = false ∧ w1.frozen? ⟨w.heap.size + 1, 3, none⟩ = false ∧ w1.frozen? ⟨w.heap.size + 1, 4, none⟩ = false ∧ w1.frozen? ⟨w.heap.size + 1, 5, none⟩ = false ∧ w1.frozen? ⟨w.heap.size + 1, 6, none⟩ = false) := ⟨Frame.held_cell hb1 Kr2.out.1, Frame.held_cell hb1 Kr2.out.2.1, Frame.held_cell hb1 Kr2.out.2.2.1, Frame.held_cell hb1 Kr2.out.2.2.2.1, Frame.held_cell hb1 Kr2.out.2.2.2.2.1, Frame.held_cell hb1 Kr2.out.2.2.2.2.2.1, Frame.held_cell hb1 Kr2.out.2.2.2.2.2.2.1, (hb1.frozen (p := ⟨w.heap.size + 1, 0, none⟩) (Frame.cell_lt Kr2.out.1)).trans Kr2.out.2.2.2.2.2.2.2.1, (hb1.frozen (p := ⟨w.heap.size + 1, 1, none⟩) (Frame.cell_lt Kr2.out.2.1)).trans Kr2.out.2.2.2.2.2.2.2.2.1, (hb1.frozen (p := ⟨w.heap.size + 1, 2, none⟩) (Frame.cell_lt Kr2.out.2.2.1)).trans Kr2.out.2.2.2.2.2.2.2.2.2.1, (hb1.frozen (p := ⟨w.heap.size + 1, 3, none⟩) (Frame.cell_lt Kr2.out.2.2.2.1)).trans Kr2.out.2.2.2.2.2.2.2.2.2.2.1, (hb1.frozen (p := ⟨w.heap.size + 1, 4, none⟩) (Frame.cell_lt Kr2.out.2.2.2.2.1)).trans Kr2.out.2.2.2.2.2.2.2.2.2.2.2.1, (hb1.frozen (p := ⟨w.heap.size + 1, 5, none⟩) (Frame.cell_lt Kr2.out.2.2.2.2.2.1)).trans Kr2.out.2.2.2.2.2.2.2.2.2.2.2.2.1, (hb1.frozen (p := ⟨w.heap.size + 1, 6, none⟩) (Frame.cell_lt Kr2.out.2.2.2.2.2.2.1)).trans Kr2.out.2.2.2.2.2.2.2.2.2.2.2.2.2⟩
    have B1 : Hid (Below w.heap.size w w1) := Frame.next B0.out hb1 B0.out.size
    clear hb1
    have qs28 := Ks26.out.1
    have qs29 := Ks26.out.2.1
    have qs30 := Ks26.out.2.2.1
    have qs31 := Ks26.out.2.2.2.1
    have qs32 := Ks26.out.2.2.2.2.1
    have qs33 := Ks26.out.2.2.2.2.2.1
    have qs34 := Ks26.out.2.2.2.2.2.2
    have qr35 := Kr27.out.1
    have qr36 := Kr27.out.2.1
    have qr37 := Kr27.out.2.2.1
    have qr38 := Kr27.out.2.2.2.1
    have qr39 := Kr27.out.2.2.2.2.1
    have qr40 := Kr27.out.2.2.2.2.2.1
    have qr41 := Kr27.out.2.2.2.2.2.2.1
    have qr42 := Kr27.out.2.2.2.2.2.2.2.1
    have qr43 := Kr27.out.2.2.2.2.2.2.2.2.1
    have qr44 := Kr27.out.2.2.2.2.2.2.2.2.2.1
    have qr45 := Kr27.out.2.2.2.2.2.2.2.2.2.2.1
    have qr46 := Kr27.out.2.2.2.2.2.2.2.2.2.2.2.1
    have qr47 := Kr27.out.2.2.2.2.2.2.2.2.2.2.2.2.1
    have qr48 := Kr27.out.2.2.2.2.2.2.2.2.2.2.2.2.2
    go_wp2
    refine bodyPost_ret (v := .tuple #[.agg #[.int .i64 s.r, .int .i64 s.k, .int .i64 s.t, .bool s.lb, .int .i64 s.l, .bool s.hb, .int .i64 s.h], .bool true]) (by simp [results, Tryd.results53, go_sem, qr35, qr36, qr37, qr38, qr39, qr40, qr41]) rfl ?_
    exact ⟨rfl, (((((((B1.out.setCell hr _).setCell hr _).setCell hr _).setCell hr _).setCell hr _).setCell hr _).setCell hr _)⟩

theorem good_counts {s : Sm} (h : s.good = true) : 0 ≤ s.r ∧ s.r ≤ 10000 ∧ 0 ≤ s.k ∧ s.k ≤ 10000 := by
  unfold Sm.good goodS at h
  simp only [Bool.and_eq_true] at h
  have h1 := (of_decide_eq_true h.1 : 0 ≤ s.r ∧ s.r ≤ 10000)
  have h2 := (of_decide_eq_true h.2.1 : 0 ≤ s.k ∧ s.k ≤ s.r)
  omega

set_option maxRecDepth 8000 in
set_option maxHeartbeats 6400000 in
theorem impl_AddSums (a b : Sm) (w : World) (hT : Cmp.CmpTab w) : Calls Tryd.prog 14 #[.agg #[.int .i64 a.r, .int .i64 a.k, .int .i64 a.t, .bool a.lb, .int .i64 a.l, .bool a.hb, .int .i64 a.h], .agg #[.int .i64 b.r, .int .i64 b.k, .int .i64 b.t, .bool b.lb, .int .i64 b.l, .bool b.hb, .int .i64 b.h]] w fun e w' => e = .returned (.tuple #[.agg #[.int .i64 (addV a b).r, .int .i64 (addV a b).k, .int .i64 (addV a b).t, .bool (addV a b).lb, .int .i64 (addV a b).l, .bool (addV a b).hb, .int .i64 (addV a b).h], .bool (addB a b)]) ∧ Below w.heap.size w w' := by
  have B0 : Hid (Below w.heap.size w (((w.alloc (.cells #[.int .i64 a.r, .int .i64 a.k, .int .i64 a.t, .bool a.lb, .int .i64 a.l, .bool a.hb, .int .i64 a.h] 28)).alloc (.cells #[.int .i64 b.r, .int .i64 b.k, .int .i64 b.t, .bool b.lb, .int .i64 b.l, .bool b.hb, .int .i64 b.h] 28)).alloc (.cells #[.int .i64 0, .int .i64 0, .int .i64 0, .bool false, .int .i64 0, .bool false, .int .i64 0] 28))) := (((Below.refl _ _).alloc (Nat.le_refl _) _).alloc (by simp) _).alloc (by simp; omega) _
  have HT : Hid (Cmp.CmpTab w) := hT
  clear hT
  have Ka1 : Hid ((((w.alloc (.cells #[.int .i64 a.r, .int .i64 a.k, .int .i64 a.t, .bool a.lb, .int .i64 a.l, .bool a.hb, .int .i64 a.h] 28)).alloc (.cells #[.int .i64 b.r, .int .i64 b.k, .int .i64 b.t, .bool b.lb, .int .i64 b.l, .bool b.hb, .int .i64 b.h] 28)).alloc (.cells #[.int .i64 0, .int .i64 0, .int .i64 0, .bool false, .int .i64 0, .bool false, .int .i64 0] 28)).cell? ⟨w.heap.size, 0, none⟩ = some (.int .i64 a.r) ∧ (((w.alloc (.cells #[.int .i64 a.r, .int .i64 a.k, .int .i64 a.t, .bool a.lb, .int .i64 a.l, .bool a.hb, .int .i64 a.h] 28)).alloc (.cells #[.int .i64 b.r, .int .i64 b.k, .int .i64 b.t, .bool b.lb, .int .i64 b.l, .bool b.hb, .int .i64 b.h] 28)).alloc (.cells #[.int .i64 0, .int .i64 0, .int .i64 0, .bool false, .int .i64 0, .bool false, .int .i64 0] 28)).cell? ⟨w.heap.size, 1, none⟩ = some (.int .i64 a.k) ∧ (((w.alloc (.cells #[.int .i64 a.r, .int .i64 a.k, .int .i64 a.t, .bool a.lb, .int .i64 a.l, .bool a.hb, .int .i64 a.h] 28)).alloc (.cells #[.int .i64 b.r, .int .i64 b.k, .int .i64 b.t, .bool b.lb, .int .i64 b.l, .bool b.hb, .int .i64 b.h] 28)).alloc (.cells #[.int .i64 0, .int .i64 0, .int .i64 0, .bool false, .int .i64 0, .bool false, .int .i64 0] 28)).cell? ⟨w.heap.size, 2, none⟩ = some (.int .i64 a.t) ∧ (((w.alloc (.cells #[.int .i64 a.r, .int .i64 a.k, .int .i64 a.t, .bool a.lb, .int .i64 a.l, .bool a.hb, .int .i64 a.h] 28)).alloc (.cells #[.int .i64 b.r, .int .i64 b.k, .int .i64 b.t, .bool b.lb, .int .i64 b.l, .bool b.hb, .int .i64 b.h] 28)).alloc (.cells #[.int .i64 0, .int .i64 0, .int .i64 0, .bool false, .int .i64 0, .bool false, .int .i64 0] 28)).cell? ⟨w.heap.size, 3, none⟩ = some (.bool a.lb) ∧ (((w.alloc (.cells #[.int .i64 a.r, .int .i64 a.k, .int .i64 a.t, .bool a.lb, .int .i64 a.l, .bool a.hb, .int .i64 a.h] 28)).alloc (.cells #[.int .i64 b.r, .int .i64 b.k, .int .i64 b.t, .bool b.lb, .int .i64 b.l, .bool b.hb, .int .i64 b.h] 28)).alloc (.cells #[.int .i64 0, .int .i64 0, .int .i64 0, .bool false, .int .i64 0, .bool false, .int .i64 0] 28)).cell? ⟨w.heap.size, 4, none⟩ = some (.int .i64 a.l) ∧ (((w.alloc (.cells #[.int .i64 a.r, .int .i64 a.k, .int .i64 a.t, .bool a.lb, .int .i64 a.l, .bool a.hb, .int .i64 a.h] 28)).alloc (.cells #[.int .i64 b.r, .int .i64 b.k, .int .i64 b.t, .bool b.lb, .int .i64 b.l, .bool b.hb, .int .i64 b.h] 28)).alloc (.cells #[.int .i64 0, .int .i64 0, .int .i64 0, .bool false, .int .i64 0, .bool false, .int .i64 0] 28)).cell? ⟨w.heap.size, 5, none⟩ = some (.bool a.hb) ∧ (((w.alloc (.cells #[.int .i64 a.r, .int .i64 a.k, .int .i64 a.t, .bool a.lb, .int .i64 a.l, .bool a.hb, .int .i64 a.h] 28)).alloc (.cells #[.int .i64 b.r, .int .i64 b.k, .int .i64 b.t, .bool b.lb, .int .i64 b.l, .bool b.hb, .int .i64 b.h] 28)).alloc (.cells #[.int .i64 0, .int .i64 0, .int .i64 0, .bool false, .int .i64 0, .bool false, .int .i64 0] 28)).cell? ⟨w.heap.size, 6, none⟩ = some (.int .i64 a.h)) := by
    refine ⟨?_, ?_, ?_, ?_, ?_, ?_, ?_⟩ <;> go_simp
  have Kb2 : Hid ((((w.alloc (.cells #[.int .i64 a.r, .int .i64 a.k, .int .i64 a.t, .bool a.lb, .int .i64 a.l, .bool a.hb, .int .i64 a.h] 28)).alloc (.cells #[.int .i64 b.r, .int .i64 b.k, .int .i64 b.t, .bool b.lb, .int .i64 b.l, .bool b.hb, .int .i64 b.h] 28)).alloc (.cells #[.int .i64 0, .int .i64 0, .int .i64 0, .bool false, .int .i64 0, .bool false, .int .i64 0] 28)).cell? ⟨w.heap.size + 1, 0, none⟩ = some (.int .i64 b.r) ∧ (((w.alloc (.cells #[.int .i64 a.r, .int .i64 a.k, .int .i64 a.t, .bool a.lb, .int .i64 a.l, .bool a.hb, .int .i64 a.h] 28)).alloc (.cells #[.int .i64 b.r, .int .i64 b.k, .int .i64 b.t, .bool b.lb, .int .i64 b.l, .bool b.hb, .int .i64 b.h] 28)).alloc (.cells #[.int .i64 0, .int .i64 0, .int .i64 0, .bool false, .int .i64 0, .bool false, .int .i64 0] 28)).cell? ⟨w.heap.size + 1, 1, none⟩ = some (.int .i64 b.k) ∧ (((w.alloc (.cells #[.int .i64 a.r, .int .i64 a.k, .int .i64 a.t, .bool a.lb, .int .i64 a.l, .bool a.hb, .int .i64 a.h] 28)).alloc (.cells #[.int .i64 b.r, .int .i64 b.k, .int .i64 b.t, .bool b.lb, .int .i64 b.l, .bool b.hb, .int .i64 b.h] 28)).alloc (.cells #[.int .i64 0, .int .i64 0, .int .i64 0, .bool false, .int .i64 0, .bool false, .int .i64 0] 28)).cell? ⟨w.heap.size + 1, 2, none⟩ = some (.int .i64 b.t) ∧ (((w.alloc (.cells #[.int .i64 a.r, .int .i64 a.k, .int .i64 a.t, .bool a.lb, .int .i64 a.l, .bool a.hb, .int .i64 a.h] 28)).alloc (.cells #[.int .i64 b.r, .int .i64 b.k, .int .i64 b.t, .bool b.lb, .int .i64 b.l, .bool b.hb, .int .i64 b.h] 28)).alloc (.cells #[.int .i64 0, .int .i64 0, .int .i64 0, .bool false, .int .i64 0, .bool false, .int .i64 0] 28)).cell? ⟨w.heap.size + 1, 3, none⟩ = some (.bool b.lb) ∧ (((w.alloc (.cells #[.int .i64 a.r, .int .i64 a.k, .int .i64 a.t, .bool a.lb, .int .i64 a.l, .bool a.hb, .int .i64 a.h] 28)).alloc (.cells #[.int .i64 b.r, .int .i64 b.k, .int .i64 b.t, .bool b.lb, .int .i64 b.l, .bool b.hb, .int .i64 b.h] 28)).alloc (.cells #[.int .i64 0, .int .i64 0, .int .i64 0, .bool false, .int .i64 0, .bool false, .int .i64 0] 28)).cell? ⟨w.heap.size + 1, 4, none⟩ = some (.int .i64 b.l) ∧ (((w.alloc (.cells #[.int .i64 a.r, .int .i64 a.k, .int .i64 a.t, .bool a.lb, .int .i64 a.l, .bool a.hb, .int .i64 a.h] 28)).alloc (.cells #[.int .i64 b.r, .int .i64 b.k, .int .i64 b.t, .bool b.lb, .int .i64 b.l, .bool b.hb, .int .i64 b.h] 28)).alloc (.cells #[.int .i64 0, .int .i64 0, .int .i64 0, .bool false, .int .i64 0, .bool false, .int .i64 0] 28)).cell? ⟨w.heap.size + 1, 5, none⟩ = some (.bool b.hb) ∧ (((w.alloc (.cells #[.int .i64 a.r, .int .i64 a.k, .int .i64 a.t, .bool a.lb, .int .i64 a.l, .bool a.hb, .int .i64 a.h] 28)).alloc (.cells #[.int .i64 b.r, .int .i64 b.k, .int .i64 b.t, .bool b.lb, .int .i64 b.l, .bool b.hb, .int .i64 b.h] 28)).alloc (.cells #[.int .i64 0, .int .i64 0, .int .i64 0, .bool false, .int .i64 0, .bool false, .int .i64 0] 28)).cell? ⟨w.heap.size + 1, 6, none⟩ = some (.int .i64 b.h)) := by
    refine ⟨?_, ?_, ?_, ?_, ?_, ?_, ?_⟩ <;> go_simp
  have Kr3 : Hid ((((w.alloc (.cells #[.int .i64 a.r, .int .i64 a.k, .int .i64 a.t, .bool a.lb, .int .i64 a.l, .bool a.hb, .int .i64 a.h] 28)).alloc (.cells #[.int .i64 b.r, .int .i64 b.k, .int .i64 b.t, .bool b.lb, .int .i64 b.l, .bool b.hb, .int .i64 b.h] 28)).alloc (.cells #[.int .i64 0, .int .i64 0, .int .i64 0, .bool false, .int .i64 0, .bool false, .int .i64 0] 28)).cell? ⟨w.heap.size + 1 + 1, 0, none⟩ = some (.int .i64 0) ∧ (((w.alloc (.cells #[.int .i64 a.r, .int .i64 a.k, .int .i64 a.t, .bool a.lb, .int .i64 a.l, .bool a.hb, .int .i64 a.h] 28)).alloc (.cells #[.int .i64 b.r, .int .i64 b.k, .int .i64 b.t, .bool b.lb, .int .i64 b.l, .bool b.hb, .int .i64 b.h] 28)).alloc (.cells #[.int .i64 0, .int .i64 0, .int .i64 0, .bool false, .int .i64 0, .bool false, .int .i64 0] 28)).cell? ⟨w.heap.size + 1 + 1, 1, none⟩ = some (.int .i64 0) ∧ (((w.alloc (.cells #[.int .i64 a.r, .int .i64 a.k, .int .i64 a.t, .bool a.lb, .int .i64 a.l, .bool a.hb, .int .i64 a.h] 28)).alloc (.cells #[.int .i64 b.r, .int .i64 b.k, .int .i64 b.t, .bool b.lb, .int .i64 b.l, .bool b.hb, .int .i64 b.h] 28)).alloc (.cells #[.int .i64 0, .int .i64 0, .int .i64 0, .bool false, .int .i64 0, .bool false, .int .i64 0] 28)).cell? ⟨w.heap.size + 1 + 1, 2, none⟩ = some (.int .i64 0) ∧ (((w.alloc (.cells #[.int .i64 a.r, .int .i64 a.k, .int .i64 a.t, .bool a.lb, .int .i64 a.l, .bool a.hb, .int .i64 a.h] 28)).alloc (.cells #[.int .i64 b.r, .int .i64 b.k, .int .i64 b.t, .bool b.lb, .int .i64 b.l, .bool b.hb, .int .i64 b.h] 28)).alloc (.cells #[.int .i64 0, .int .i64 0, .int .i64 0, .bool false, .int .i64 0, .bool false, .int .i64 0] 28)).cell? ⟨w.heap.size + 1 + 1, 3, none⟩ = some (.bool false) ∧ (((w.alloc (.cells #[.int .i64 a.r, .int .i64 a.k, .int .i64 a.t, .bool a.lb, .int .i64 a.l, .bool a.hb, .int .i64 a.h] 28)).alloc (.cells #[.int .i64 b.r, .int .i64 b.k, .int .i64 b.t, .bool b.lb, .int .i64 b.l, .bool b.hb, .int .i64 b.h] 28)).alloc (.cells #[.int .i64 0, .int .i64 0, .int .i64 0, .bool false, .int .i64 0, .bool false, .int .i64 0] 28)).cell? ⟨w.heap.size + 1 + 1, 4, none⟩ = some (.int .i64 0) ∧ (((w.alloc (.cells #[.int .i64 a.r, .int .i64 a.k, .int .i64 a.t, .bool a.lb, .int .i64 a.l, .bool a.hb, .int .i64 a.h] 28)).alloc (.cells #[.int .i64 b.r, .int .i64 b.k, .int .i64 b.t, .bool b.lb, .int .i64 b.l, .bool b.hb, .int .i64 b.h] 28)).alloc (.cells #[.int .i64 0, .int .i64 0, .int .i64 0, .bool false, .int .i64 0, .bool false, .int .i64 0] 28)).cell? ⟨w.heap.size + 1 + 1, 5, none⟩ = some (.bool false) ∧ (((w.alloc (.cells #[.int .i64 a.r, .int .i64 a.k, .int .i64 a.t, .bool a.lb, .int .i64 a.l, .bool a.hb, .int .i64 a.h] 28)).alloc (.cells #[.int .i64 b.r, .int .i64 b.k, .int .i64 b.t, .bool b.lb, .int .i64 b.l, .bool b.hb, .int .i64 b.h] 28)).alloc (.cells #[.int .i64 0, .int .i64 0, .int .i64 0, .bool false, .int .i64 0, .bool false, .int .i64 0] 28)).cell? ⟨w.heap.size + 1 + 1, 6, none⟩ = some (.int .i64 0) ∧ (((w.alloc (.cells #[.int .i64 a.r, .int .i64 a.k, .int .i64 a.t, .bool a.lb, .int .i64 a.l, .bool a.hb, .int .i64 a.h] 28)).alloc (.cells #[.int .i64 b.r, .int .i64 b.k, .int .i64 b.t, .bool b.lb, .int .i64 b.l, .bool b.hb, .int .i64 b.h] 28)).alloc (.cells #[.int .i64 0, .int .i64 0, .int .i64 0, .bool false, .int .i64 0, .bool false, .int .i64 0] 28)).frozen? ⟨w.heap.size + 1 + 1, 0, none⟩ = false ∧ (((w.alloc (.cells #[.int .i64 a.r, .int .i64 a.k, .int .i64 a.t, .bool a.lb, .int .i64 a.l, .bool a.hb, .int .i64 a.h] 28)).alloc (.cells #[.int .i64 b.r, .int .i64 b.k, .int .i64 b.t, .bool b.lb, .int .i64 b.l, .bool b.hb, .int .i64 b.h] 28)).alloc (.cells #[.int .i64 0, .int .i64 0, .int .i64 0, .bool false, .int .i64 0, .bool false, .int .i64 0] 28)).frozen? ⟨w.heap.size + 1 + 1, 1, none⟩ = false ∧ (((w.alloc (.cells #[.int .i64 a.r, .int .i64 a.k, .int .i64 a.t, .bool a.lb, .int .i64 a.l, .bool a.hb, .int .i64 a.h] 28)).alloc (.cells #[.int .i64 b.r, .int .i64 b.k, .int .i64 b.t, .bool b.lb, .int .i64 b.l, .bool b.hb, .int .i64 b.h] 28)).alloc (.cells #[.int .i64 0, .int .i64 0, .int .i64 0, .bool false, .int .i64 0, .bool false, .int .i64 0] 28)).frozen? ⟨w.heap.size + 1 + 1, 2, none⟩ = false ∧ (((w.alloc (.cells #[.int .i64 a.r, .int .i64 a.k, .int .i64 a.t, .bool a.lb, .int .i64 a.l, .bool a.hb, .int .i64 a.h] 28)).alloc (.cells #[.int .i64 b.r, .int .i64 b.k, .int .i64 b.t, .bool b.lb, .int .i64 b.l, .bool b.hb, .int .i64 b.h] 28)).alloc (.cells #[.int .i64 0, .int .i64 0, .int .i64 0, .bool false, .int .i64 0, .bool false, .int .i64 0] 28)).frozen? ⟨w.heap.size + 1 + 1, 3, none⟩ = false ∧ (((w.alloc (.cells #[.int .i64 a.r, .int .i64 a.k, .int .i64 a.t, .bool a.lb, .int .i64 a.l, .bool a.hb, .int .i64 a.h] 28)).alloc (.cells #[.int .i64 b.r, .int .i64 b.k, .int .i64 b.t, .bool b.lb, .int .i64 b.l, .bool b.hb, .int .i64 b.h] 28)).alloc (.cells #[.int .i64 0, .int .i64 0, .int .i64 0, .bool false, .int .i64 0, .bool false, .int .i64 0] 28)).frozen? ⟨w.heap.size + 1 + 1, 4, none⟩ = false ∧ (((w.alloc (.cells #[.int .i64 a.r, .int .i64 a.k, .int .i64 a.t, .bool a.lb, .int .i64 a.l, .bool a.hb, .int .i64 a.h] 28)).alloc (.cells #[.int .i64 b.r, .int .i64 b.k, .int .i64 b.t, .bool b.lb, .int .i64 b.l, .bool b.hb, .int .i64 b.h] 28)).alloc (.cells #[.int .i64 0, .int .i64 0, .int .i64 0, .bool false, .int .i64 0, .bool false, .int .i64 0] 28)).frozen? ⟨w.heap.size + 1 + 1, 5, none⟩ = false ∧ (((w.alloc (.cells #[.int .i64 a.r, .int .i64 a.k, .int .i64 a.t, .bool a.lb, .int .i64 a.l, .bool a.hb, .int .i64 a.h] 28)).alloc (.cells #[.int .i64 b.r, .int .i64 b.k, .int .i64 b.t, .bool b.lb, .int .i64 b.l, .bool b.hb, .int .i64 b.h] 28)).alloc (.cells #[.int .i64 0, .int .i64 0, .int .i64 0, .bool false, .int .i64 0, .bool false, .int .i64 0] 28)).frozen? ⟨w.heap.size + 1 + 1, 6, none⟩ = false) := by
    refine ⟨?_, ?_, ?_, ?_, ?_, ?_, ?_, ?_, ?_, ?_, ?_, ?_, ?_, ?_⟩ <;> go_simp
  have hr : w.heap.size ≤ w.heap.size + 1 + 1 := by omega
  cases hA : a.good
  · have HA : Hid (goodS a.r a.k a.t a.lb a.l a.hb a.h = false) := hA
    have e : addB a b = false := by unfold addB; rw [hA]; rfl
    have e2 : addV a b = zeroS := if_neg (by rw [hA]; exact Bool.false_ne_true)
    rw [e, e2]
    clear e e2 hA
    go_enter Tryd.func14, Tryd.ntmps14
    go_wp2_with fail
    refine (impl_GoodSum a.r a.k a.t a.lb a.l a.hb a.h _).mono ?_
    rintro e w1 ⟨rfl, hb1⟩
    rw [HA.out]
    have Ka4 : Hid (w1.cell? ⟨w.heap.size, 0, none⟩ = some (.int .i64 a.r) ∧ w1.cell? ⟨w.heap.size, 1, none⟩ = some (.int .i64 a.k) ∧ w1.cell? ⟨w.heap.size, 2, none⟩ = some (.int .i64 a.t) ∧ w1.cell? ⟨w.heap.size, 3, none⟩ = some (.bool a.lb) ∧ w1.cell? ⟨w.heap.size, 4, none⟩ = some (.int .i64 a.l) ∧ w1.cell? ⟨w.heap.size, 5, none⟩ = some (.bool a.hb) ∧ w1.cell? ⟨w.heap.size, 6, none⟩ = some (.int .i64 a.h)) := ⟨Frame.held_cell hb1 Ka1.out.1, Frame.held_cell hb1 Ka1.out.2.1, Frame.held_cell hb1 Ka1.out.2.2.1, Frame.held_cell hb1 Ka1.out.2.2.2.1, Frame.held_cell hb1 Ka1.out.2.2.2.2.1, Frame.held_cell hb1 Ka1.out.2.2.2.2.2.1, Frame.held_cell hb1 Ka1.out.2.2.2.2.2.2⟩
    have Kb5 : Hid (w1.cell? ⟨w.heap.size + 1, 0, none⟩ = some (.int .i64 b.r) ∧ w1.cell? ⟨w.heap.size + 1, 1, none⟩ = some (.int .i64 b.k) ∧ w1.cell? ⟨w.heap.size + 1, 2, none⟩ = some (.int .i64 b.t) ∧ w1.cell? ⟨w.heap.size + 1, 3, none⟩ = some (.bool b.lb) ∧ w1.cell? ⟨w.heap.size + 1, 4, none⟩ = some (.int .i64 b.l) ∧ w1.cell? ⟨w.heap.size + 1, 5, none⟩ = some (.bool b.hb) ∧ w1.cell? ⟨w.heap.size + 1, 6, none⟩ = some (.int .i64 b.h)) := ⟨Frame.held_cell hb1 Kb2.out.1, Frame.held_cell hb1 Kb2.out.2.1, Frame.held_cell hb1 Kb2.out.2.2.1, Frame.held_cell hb1 Kb2.out.2.2.2.1, Frame.held_cell hb1 Kb2.out.2.2.2.2.1, Frame.held_cell hb1 Kb2.out.2.2.2.2.2.1, Frame.held_cell hb1 Kb2.out.2.2.2.2.2.2⟩
    have Kr6 : Hid (w1.cell? ⟨w.heap.size + 1 + 1, 0, none⟩ = some (.int .i64 0) ∧ w1.cell? ⟨w.heap.size + 1 + 1, 1, none⟩ = some (.int .i64 0) ∧ w1.cell? ⟨w.heap.size + 1 + 1, 2, none⟩ = some (.int .i64 0) ∧ w1.cell? ⟨w.heap.size + 1 + 1, 3, none⟩ = some (.bool false) ∧ w1.cell? ⟨w.heap.size + 1 + 1, 4, none⟩ = some (.int .i64 0) ∧ w1.cell? ⟨w.heap.size + 1 + 1, 5, none⟩ = some (.bool false) ∧ w1.cell? ⟨w.heap.size + 1 + 1, 6, none⟩ = some (.int .i64 0) ∧ w1.frozen? ⟨w.heap.size + 1 + 1, 0, none⟩ = false ∧ w1.frozen? ⟨w.heap.size + 1 + 1, 1, none⟩ = false ∧ w1.frozen? ⟨w.heap.size + 1 + 1, 2, none⟩ = false ∧ w1.frozen? ⟨w.heap.size + 1 + 1, 3, none⟩ = false ∧ w1.frozen? ⟨w.heap.size + 1 + 1, 4, none⟩ = false ∧ w1.frozen? ⟨w.heap.size + 1 + 1, 5, none⟩ = false ∧ w1.frozen? ⟨w.heap.size + 1 + 1, 6, none⟩ = false) := ⟨Frame.held_cell hb1 Kr3.out.1, Frame.held_cell hb1 Kr3.out.2.1, Frame.held_cell hb1 Kr3.out.2.2.1, Frame.held_cell hb1 Kr3.out.2.2.2.1, Frame.held_cell hb1 Kr3.out.2.2.2.2.1, Frame.held_cell hb1 Kr3.out.2.2.2.2.2.1, Frame.held_cell hb1 Kr3.out.2.2.2.2.2.2.1, (hb1.frozen (p := ⟨w.heap.size + 1 + 1, 0, none⟩) (Frame.cell_lt Kr3.out.1)).trans Kr3.out.2.2.2.2.2.2.2.1, (hb1.frozen (p := ⟨w.heap.size + 1 + 1, 1, none⟩) (Frame.cell_lt Kr3.out.2.1)).trans Kr3.out.2.2.2.2.2.2.2.2.1, (hb1.frozen (p := ⟨w.heap.size + 1 + 1, 2, none⟩) (Frame.cell_lt Kr3.out.2.2.1)).trans Kr3.out.2.2.2.2.2.2.2.2.2.1, (hb1.frozen (p := ⟨w.heap.size + 1 + 1, 3, none⟩) (Frame.cell_lt Kr3.out.2.2.2.1)).trans Kr3.out.2.2.2.2.2.2.2.2.2.2.1, (hb1.frozen (p := ⟨w.heap.size + 1 + 1, 4, none⟩) (Frame.cell_lt Kr3.out.2.2.2.2.1)).trans Kr3.out.2.2.2.2.2.2.2.2.2.2.2.1, (hb1.frozen (p := ⟨w.heap.size + 1 + 1, 5, none⟩) (Frame.cell_lt Kr3.out.2.2.2.2.2.1)).trans Kr3.out.2.2.2.2.2.2.2.2.2.2.2.2.1, (hb1.frozen (p := ⟨w.heap.size + 1 + 1, 6, none⟩) (Frame.cell_lt Kr3.out.2.2.2.2.2.2.1)).trans Kr3.out.2.2.2.2.2.2.2.2.2.2.2.2.2⟩
    have B1 : Hid (Below w.heap.size w w1) := Frame.next B0.out hb1 B0.out.size
    clear hb1
    have qr7 := Kr6.out.1
    have qr8 := Kr6.out.2.1
    have qr9 := Kr6.out.2.2.1
    have qr10 := Kr6.out.2.2.2.1
    have qr11 := Kr6.out.2.2.2.2.1
    have qr12 := Kr6.out.2.2.2.2.2.1
    have qr13 := Kr6.out.2.2.2.2.2.2.1
    have qr14 := Kr6.out.2.2.2.2.2.2.2.1
    have qr15 := Kr6.out.2.2.2.2.2.2.2.2.1
    have qr16 := Kr6.out.2.2.2.2.2.2.2.2.2.1
    have qr17 := Kr6.out.2.2.2.2.2.2.2.2.2.2.1
    have qr18 := Kr6.out.2.2.2.2.2.2.2.2.2.2.2.1
    have qr19 := Kr6.out.2.2.2.2.2.2.2.2.2.2.2.2.1
    have qr20 := Kr6.out.2.2.2.2.2.2.2.2.2.2.2.2.2
    go_wp2
    refine bodyPost_ret (v := .tuple #[.agg #[.int .i64 0, .int .i64 0, .int .i64 0, .bool false, .int .i64 0, .bool false, .int .i64 0], .bool false]) (by simp [results, Tryd.results14, go_sem, qr7, qr8, qr9, qr10, qr11, qr12, qr13]) rfl ?_
    exact ⟨rfl, (((((((B1.out.setCell hr _).setCell hr _).setCell hr _).setCell hr _).setCell hr _).setCell hr _).setCell hr _)⟩
  have HA : Hid (goodS a.r a.k a.t a.lb a.l a.hb a.h = true) := hA
  cases hB : b.good
  · have HB : Hid (goodS b.r b.k b.t b.lb b.l b.hb b.h = false) := hB
    have e : addB a b = false := by unfold addB; rw [hB, Bool.false_and, Bool.and_false]
    have e2 : addV a b = zeroS := if_neg (by rw [hB, Bool.and_false]; exact Bool.false_ne_true)
    rw [e, e2]
    clear e e2 hA hB
    go_enter Tryd.func14, Tryd.ntmps14
    go_wp2_with fail
    refine (impl_GoodSum a.r a.k a.t a.lb a.l a.hb a.h _).mono ?_
    rintro e w1 ⟨rfl, hb1⟩
    rw [HA.out]
    have Ka21 : Hid (w1.cell? ⟨w.heap.size, 0, none⟩ = some (.int .i64 a.r) ∧ w1.cell? ⟨w.heap.size, 1, none⟩ = some (.int .i64 a.k) ∧ w1.cell? ⟨w.heap.size, 2, none⟩ = some (.int .i64 a.t) ∧ w1.cell? ⟨w.heap.size, 3, none⟩ = some (.bool a.lb) ∧ w1.cell? ⟨w.heap.size, 4, none⟩ = some (.int .i64 a.l) ∧ w1.cell? ⟨w.heap.size, 5, none⟩ = some (.bool a.hb) ∧ w1.cell? ⟨w.heap.size, 6, none⟩ = some (.int .i64 a.h)) := ⟨Frame.held_cell hb1 Ka1.out.1, Frame.held_cell hb1 Ka1.out.2.1, Frame.held_cell hb1 Ka1.out.2.2.1, Frame.held_cell hb1 Ka1.out.2.2.2.1, Frame.held_cell hb1 Ka1.out.2.2.2.2.1, Frame.held_cell hb1 Ka1.out.2.2.2.2.2.1, Frame.held_cell hb1 Ka1.out.2.2.2.2.2.2⟩
    have Kb22 : Hid (w1.cell? ⟨w.heap.size + 1, 0, none⟩ = some (.int .i64 b.r) ∧ w1.cell? ⟨w.heap.size + 1, 1, none⟩ = some (.int .i64 b.k) ∧ w1.cell? ⟨w.heap.size + 1, 2, none⟩ = some (.int .i64 b.t) ∧ w1.cell? ⟨w.heap.size + 1, 3, none⟩ = some (.bool b.lb) ∧ w1.cell? ⟨w.heap.size + 1, 4, none⟩ = some (.int .i64 b.l) ∧ w1.cell? ⟨w.heap.size + 1, 5, none⟩ = some (.bool b.hb) ∧ w1.cell? ⟨w.heap.size + 1, 6, none⟩ = some (.int .i64 b.h)) := ⟨Frame.held_cell hb1 Kb2.out.1, Frame.held_cell hb1 Kb2.out.2.1, Frame.held_cell hb1 Kb2.out.2.2.1, Frame.held_cell hb1 Kb2.out.2.2.2.1, Frame.held_cell hb1 Kb2.out.2.2.2.2.1, Frame.held_cell hb1 Kb2.out.2.2.2.2.2.1, Frame.held_cell hb1 Kb2.out.2.2.2.2.2.2⟩
    have Kr23 : Hid (w1.cell? ⟨w.heap.size + 1 + 1, 0, none⟩ = some (.int .i64 0) ∧ w1.cell? ⟨w.heap.size + 1 + 1, 1, none⟩ = some (.int .i64 0) ∧ w1.cell? ⟨w.heap.size + 1 + 1, 2, none⟩ = some (.int .i64 0) ∧ w1.cell? ⟨w.heap.size + 1 + 1, 3, none⟩ = some (.bool false) ∧ w1.cell? ⟨w.heap.size + 1 + 1, 4, none⟩ = some (.int .i64 0) ∧ w1.cell? ⟨w.heap.size + 1 + 1, 5, none⟩ = some (.bool false) ∧ w1.cell? ⟨w.heap.size + 1 + 1, 6, none⟩ = some (.int .i64 0) ∧ w1.frozen? ⟨w.heap.size + 1 + 1, 0, none⟩ = false ∧ w1.frozen? ⟨w.heap.size + 1 + 1, 1, none⟩ = false ∧ w1.frozen? ⟨w.heap.size + 1 + 1, 2, none⟩ = false ∧ w1.frozen? ⟨w.heap.size + 1 + 1, 3, none⟩ = false ∧ w1.frozen? ⟨w.heap.size + 1 + 1, 4, none⟩ = false ∧ w1.frozen? ⟨w.heap.size + 1 + 1, 5, none⟩ = false ∧ w1.frozen? ⟨w.heap.size + 1 + 1, 6, none⟩ = false) := ⟨Frame.held_cell hb1 Kr3.out.1, Frame.held_cell hb1 Kr3.out.2.1, Frame.held_cell hb1 Kr3.out.2.2.1, Frame.held_cell hb1 Kr3.out.2.2.2.1, Frame.held_cell hb1 Kr3.out.2.2.2.2.1, Frame.held_cell hb1 Kr3.out.2.2.2.2.2.1, Frame.held_cell hb1 Kr3.out.2.2.2.2.2.2.1, (hb1.frozen (p := ⟨w.heap.size + 1 + 1, 0, none⟩) (Frame.cell_lt Kr3.out.1)).trans Kr3.out.2.2.2.2.2.2.2.1, (hb1.frozen (p := ⟨w.heap.size + 1 + 1, 1, none⟩) (Frame.cell_lt Kr3.out.2.1)).trans Kr3.out.2.2.2.2.2.2.2.2.1, (hb1.frozen (p := ⟨w.heap.size + 1 + 1, 2, none⟩) (Frame.cell_lt Kr3.out.2.2.1)).trans Kr3.out.2.2.2.2.2.2.2.2.2.1, (hb1.frozen (p := ⟨w.heap.size + 1 + 1, 3, none⟩) (Frame.cell_lt Kr3.out.2.2.2.1)).trans Kr3.out.2.2.2.2.2.2.2.2.2.2.1, (hb1.frozen (p := ⟨w.heap.size + 1 + 1, 4, none⟩) (Frame.cell_lt Kr3.out.2.2.2.2.1)).trans Kr3.out.2.2.2.2.2.2.2.2.2.2.2.1, (hb1.frozen (p := ⟨w.heap.size + 1 + 1, 5, none⟩) (Frame.cell_lt Kr3.out.2.2.2.2.2.1)).trans Kr3.out.2.2.2.2.2.2.2.2.2.2.2.2.1, (hb1.frozen (p := ⟨w.heap.size + 1 + 1, 6, none⟩) (Frame.cell_lt Kr3.out.2.2.2.2.2.2.1)).trans Kr3.out.2.2.2.2.2.2.2.2.2.2.2.2.2⟩
    have B1 : Hid (Below w.heap.size w w1) := Frame.next B0.out hb1 B0.out.size
    clear hb1
    have qb24 := Kb22.out.1
    have qb25 := Kb22.out.2.1
    have qb26 := Kb22.out.2.2.1
    have qb27 := Kb22.out.2.2.2.1
    have qb28 := Kb22.out.2.2.2.2.1
    have qb29 := Kb22.out.2.2.2.2.2.1
    have qb30 := Kb22.out.2.2.2.2.2.2
    go_wp2_with fail
    refine (impl_GoodSum b.r b.k b.t b.lb b.l b.hb b.h _).mono ?_
    rintro e w2 ⟨rfl, hb2⟩
    rw [HB.out]
    clear qb24 qb25 qb26 qb27 qb28 qb29 qb30
    have Ka31 : Hid (w2.cell? ⟨w.heap.size, 0, none⟩ = some (.int .i64 a.r) ∧ w2.cell? ⟨w.heap.size, 1, none⟩ = some (.int .i64 a.k) ∧ w2.cell? ⟨w.heap.size, 2, none⟩ = some (.int .i64 a.t) ∧ w2.cell? ⟨w.heap.size, 3, none⟩ = some (.bool a.lb) ∧ w2.cell? ⟨w.heap.size, 4, none⟩ = some (.int .i64 a.l) ∧ w2.cell? ⟨w.heap.size, 5, none⟩ = some (.bool a.hb) ∧ w2.cell? ⟨w.heap.size, 6, none⟩ = some (.int .i64 a.h)) := ⟨Frame.held_cell hb2 Ka21.out.1, Frame.held_cell hb2 Ka21.out.2.1, Frame.held_cell hb2 Ka21.out.2.2.1, Frame.held_cell hb2 Ka21.out.2.2.2.1, Frame.held_cell hb2 Ka21.out.2.2.2.2.1, Frame.held_cell hb2 Ka21.out.2.2.2.2.2.1, Frame.held_cell hb2 Ka21.out.2.2.2.2.2.2⟩
    have Kb32 : Hid (w2.cell? ⟨w.heap.size + 1, 0, none⟩ = some (.int .i64 b.r) ∧ w2.cell? ⟨w.heap.size + 1, 1, none⟩ = some (.int .i64 b.k) ∧ w2.cell? ⟨w.heap.size + 1, 2, none⟩ = some (.int .i64 b.t) ∧ w2.cell? ⟨w.heap.size + 1, 3, none⟩ = some (.bool b.lb) ∧ w2.cell? ⟨w.heap.size + 1, 4, none⟩ = some (.int .i64 b.l) ∧ w2.cell? ⟨w.heap.size + 1, 5, none⟩ = some (.bool b.hb) ∧ w2.cell? ⟨w.heap.size + 1, 6, none⟩ = some (.int .i64 b.h)) := ⟨Frame.held_cell hb2 Kb22.out.1, Frame.held_cell hb2 Kb22.out.2.1, Frame.held_cell hb2 Kb22.out.2.2.1, Frame.held_cell hb2 Kb22.out.2.2.2.1, Frame.held_cell hb2 Kb22.out.2.2.2.2.1, Frame.held_cell hb2 Kb22.out.2.2.2.2.2.1, Frame.held_cell hb2 Kb22.out.2.2.2.2.2.2⟩
    have Kr33 : Hid (w2.cell? ⟨w.heap.size + 1 + 1, 0, none⟩ = some (.int .i64 0) ∧ w2.cell? ⟨w.heap.size + 1 + 1, 1, none⟩ = some (.int .i64 0) ∧ w2.cell? ⟨w.heap.size + 1 + 1, 2, none⟩ = some (.int .i64 0) ∧ w2.cell? ⟨w.heap.size + 1 + 1, 3, none⟩ = some (.bool false) ∧ w2.cell? ⟨w.heap.size + 1 + 1, 4, none⟩ = some (.int .i64 0) ∧ w2.cell? ⟨w.heap.size + 1 + 1, 5, none⟩ = some (.bool false) ∧ w2.cell? ⟨w.heap.size + 1 + 1, 6, none⟩ = some (.int .i64 0) ∧ w2.frozen? ⟨w.heap.size + 1 + 1, 0, none⟩ = false ∧ w2.frozen? ⟨w.heap.size + 1 + 1, 1, none⟩ = false ∧ w2.frozen? ⟨w.heap.size + 1 + 1, 2, none⟩ = false ∧ w2.frozen? ⟨w.heap.size + 1 + 1, 3, none⟩ = false ∧ w2.frozen? ⟨w.heap.size + 1 + 1, 4, none⟩ = false ∧ w2.frozen? ⟨w.heap.size + 1 + 1, 5, none⟩ = false ∧ w2.frozen? ⟨w.heap.size + 1 + 1, 6, none⟩ = false) := ⟨Frame.held_cell hb2 Kr23.out.1, Frame.held_cell hb2 Kr23.out.2.1, Frame.held_cell hb2 Kr23.out.2.2.1, Frame.held_cell hb2 Kr23.out.2.2.2.1, Frame.held_cell hb2 Kr23.out.2.2.2.2.1, Frame.held_cell hb2 Kr23.out.2.2.2.2.2.1, Frame.held_cell hb2 Kr23.out.2.2.2.2.2.2.1, (hb2.frozen (p := ⟨w.heap.size + 1 + 1, 0, none⟩) (Frame.cell_lt Kr23.out.1)).trans Kr23.out.2.2.2.2.2.2.2.1, (hb2.frozen (p := ⟨w.heap.size + 1 + 1, 1, none⟩) (Frame.cell_lt Kr23.out.2.1)).trans Kr23.out.2.2.2.2.2.2.2.2.1, (hb2.frozen (p := ⟨w.heap.size + 1 + 1, 2, none⟩) (Frame.cell_lt Kr23.out.2.2.1)).trans Kr23.out.2.2.2.2.2.2.2.2.2.1, (hb2.frozen (p := ⟨w.heap.size + 1 + 1, 3, none⟩) (Frame.cell_lt Kr23.out.2.2.2.1)).trans Kr23.out.2.2.2.2.2.2.2.2.2.2.1, (hb2.frozen (p := ⟨w.heap.size + 1 + 1, 4, none⟩) (Frame.cell_lt Kr23.out.2.2.2.2.1)).trans Kr23.out.2.2.2.2.2.2.2.2.2.2.2.1, (hb2.frozen (p := ⟨w.heap.size + 1 + 1, 5, none⟩) (Frame.cell_lt Kr23.out.2.2.2.2.2.1)).trans Kr23.out.2.2.2.2.2.2.2.2.2.2.2.2.1, (hb2.frozen (p := ⟨w.heap.size + 1 + 1, 6, none⟩) (Frame.cell_lt Kr23.out.2.2.2.2.2.2.1)).trans Kr23.out.2.2.2.2.2.2.2.2.2.2.2.2.2⟩
    have B2 : Hid (Below w.heap.size w w2) := Frame.next B1.out hb2 B1.out.size
    clear hb2
    have qr34 := Kr33.out.1
    have qr35 := Kr33.out.2.1
    have qr36 := Kr33.out.2.2.1
    have qr37 := Kr33.out.2.2.2.1
    have qr38 := Kr33.out.2.2.2.2.1
    have qr39 := Kr33.out.2.2.2.2.2.1
    have qr40 := Kr33.out.2.2.2.2.2.2.1
    have qr41 := Kr33.out.2.2.2.2.2.2.2.1
    have qr42 := Kr33.out.2.2.2.2.2.2.2.2.1
    have qr43 := Kr33.out.2.2.2.2.2.2.2.2.2.1
    have qr44 := Kr33.out.2.2.2.2.2.2.2.2.2.2.1
    have qr45 := Kr33.out.2.2.2.2.2.2.2.2.2.2.2.1
    have qr46 := Kr33.out.2.2.2.2.2.2.2.2.2.2.2.2.1
    have qr47 := Kr33.out.2.2.2.2.2.2.2.2.2.2.2.2.2
    go_wp2
    refine bodyPost_ret (v := .tuple #[.agg #[.int .i64 0, .int .i64 0, .int .i64 0, .bool false, .int .i64 0, .bool false, .int .i64 0], .bool false]) (by simp [results, Tryd.results14, go_sem, qr34, qr35, qr36, qr37, qr38, qr39, qr40]) rfl ?_
    exact ⟨rfl, (((((((B2.out.setCell hr _).setCell hr _).setCell hr _).setCell hr _).setCell hr _).setCell hr _).setCell hr _)⟩
  have HB : Hid (goodS b.r b.k b.t b.lb b.l b.hb b.h = true) := hB
  have e : addB a b = (tog a b).good := by unfold addB; rw [hA, hB]; rfl
  have e2 : addV a b = fit (tog a b) := if_pos (by rw [hA, hB]; rfl)
  rw [e, e2]
  clear e e2
  obtain ⟨a1, a2, a3, a4⟩ := good_counts hA
  obtain ⟨b1, b2, b3, b4⟩ := good_counts hB
  have ha1 : (a.r.toNat : Int) = a.r := Int.toNat_of_nonneg a1
  have ha2 : (a.k.toNat : Int) = a.k := Int.toNat_of_nonneg a3
  have hb1 : (b.r.toNat : Int) = b.r := Int.toNat_of_nonneg b1
  have hb2 : (b.k.toNat : Int) = b.k := Int.toNat_of_nonneg b3
  have s1 : a.r.toNat + b.r.toNat < 2 ^ 53 := by omega
  have s2 : a.k.toNat + b.k.toNat < 2 ^ 53 := by omega
  have CT : Hid (∀ W : World, Cmp.CmpTab W → Calls Tryd.prog 58 #[.agg #[.int .i64 a.r, .int .i64 a.k, .int .i64 a.t, .bool a.lb, .int .i64 a.l, .bool a.hb, .int .i64 a.h], .agg #[.int .i64 b.r, .int .i64 b.k, .int .i64 b.t, .bool b.lb, .int .i64 b.l, .bool b.hb, .int .i64 b.h]] W fun e w' => e = .returned (.agg #[.int .i64 (tog a b).r, .int .i64 (tog a b).k, .int .i64 (tog a b).t, .bool (tog a b).lb, .int .i64 (tog a b).l, .bool (tog a b).hb, .int .i64 (tog a b).h]) ∧ Below W.heap.size W w') := fun W hW => by
    have h := together a.r.toNat a.k.toNat b.r.toNat b.k.toNat a.t b.t a.lb a.l a.hb a.h b.lb b.l b.hb b.h W hW s1 s2
    rw [Int.natCast_add, Int.natCast_add, ha1, ha2, hb1, hb2] at h
    exact h
  clear hA hB a1 a2 a3 a4 b1 b2 b3 b4 ha1 ha2 hb1 hb2 s1 s2
  go_enter Tryd.func14, Tryd.ntmps14
  go_wp2_with fail
  refine (impl_GoodSum a.r a.k a.t a.lb a.l a.hb a.h _).mono ?_
  rintro e w1 ⟨rfl, hb1⟩
  rw [HA.out]
  have Ka48 : Hid (w1.cell? ⟨w.heap.size, 0, none⟩ = some (.int .i64 a.r) ∧ w1.cell? ⟨w.heap.size, 1, none⟩ = some (.int .i64 a.k) ∧ w1.cell? ⟨w.heap.size, 2, none⟩ = some (.int .i64 a.t) ∧ w1.cell? ⟨w.heap.size, 3, none⟩ = some (.bool a.lb) ∧ w1.cell? ⟨w.heap.size, 4, none⟩ = some (.int .i64 a.l) ∧ w1.cell? ⟨w.heap.size, 5, none⟩ = some (.bool a.hb) ∧ w1.cell? ⟨w.heap.size, 6, none⟩ = some (.int .i64 a.h)) := ⟨Frame.held_cell hb1 Ka1.out.1, Frame.held_cell hb1 Ka1.out.2.1, Frame.held_cell hb1 Ka1.out.2.2.1, Frame.held_cell hb1 Ka1.out.2.2.2.1, Frame.held_cell hb1 Ka1.out.2.2.2.2.1, Frame.held_cell hb1 Ka1.out.2.2.2.2.2.1, Frame.held_cell hb1 Ka1.out.2.2.2.2.2.2⟩
  have Kb49 : Hid (w1.cell? ⟨w.heap.size + 1, 0, none⟩ = some (.int .i64 b.r) ∧ w1.cell? ⟨w.heap.size + 1, 1, none⟩ = some (.int .i64 b.k) ∧ w1.cell? ⟨w.heap.size + 1, 2, none⟩ = some (.int .i64 b.t) ∧ w1.cell? ⟨w.heap.size + 1, 3, none⟩ = some (.bool b.lb) ∧ w1.cell? ⟨w.heap.size + 1, 4, none⟩ = some (.int .i64 b.l) ∧ w1.cell? ⟨w.heap.size + 1, 5, none⟩ = some (.bool b.hb) ∧ w1.cell? ⟨w.heap.size + 1, 6, none⟩ = some (.int .i64 b.h)) := ⟨Frame.held_cell hb1 Kb2.out.1, Frame.held_cell hb1 Kb2.out.2.1, Frame.held_cell hb1 Kb2.out.2.2.1, Frame.held_cell hb1 Kb2.out.2.2.2.1, Frame.held_cell hb1 Kb2.out.2.2.2.2.1, Frame.held_cell hb1 Kb2.out.2.2.2.2.2.1, Frame.held_cell hb1 Kb2.out.2.2.2.2.2.2⟩
  have Kr50 : Hid (w1.cell? ⟨w.heap.size + 1 + 1, 0, none⟩ = some (.int .i64 0) ∧ w1.cell? ⟨w.heap.size + 1 + 1, 1, none⟩ = some (.int .i64 0) ∧ w1.cell? ⟨w.heap.size + 1 + 1, 2, none⟩ = some (.int .i64 0) ∧ w1.cell? ⟨w.heap.size + 1 + 1, 3, none⟩ = some (.bool false) ∧ w1.cell? ⟨w.heap.size + 1 + 1, 4, none⟩ = some (.int .i64 0) ∧ w1.cell? ⟨w.heap.size + 1 + 1, 5, none⟩ = some (.bool false) ∧ w1.cell? ⟨w.heap.size + 1 + 1, 6, none⟩ = some (.int .i64 0) ∧ w1.frozen? ⟨w.heap.size + 1 + 1, 0, none⟩ = false ∧ w1.frozen? ⟨w.heap.size + 1 + 1, 1, none⟩ = false ∧ w1.frozen? ⟨w.heap.size + 1 + 1, 2, none⟩ = false ∧ w1.frozen? ⟨w.heap.size + 1 + 1, 3, none⟩ = false ∧ w1.frozen? ⟨w.heap.size + 1 + 1, 4, none⟩ = false ∧ w1.frozen? ⟨w.heap.size + 1 + 1, 5, none⟩ = false ∧ w1.frozen? ⟨w.heap.size + 1 + 1, 6, none⟩ = false) := ⟨Frame.held_cell hb1 Kr3.out.1, Frame.held_cell hb1 Kr3.out.2.1, Frame.held_cell hb1 Kr3.out.2.2.1, Frame.held_cell hb1 Kr3.out.2.2.2.1, Frame.held_cell hb1 Kr3.out.2.2.2.2.1, Frame.held_cell hb1 Kr3.out.2.2.2.2.2.1, Frame.held_cell hb1 Kr3.out.2.2.2.2.2.2.1, (hb1.frozen (p := ⟨w.heap.size + 1 + 1, 0, none⟩) (Frame.cell_lt Kr3.out.1)).trans Kr3.out.2.2.2.2.2.2.2.1, (hb1.frozen (p := ⟨w.heap.size + 1 + 1, 1, none⟩) (Frame.cell_lt Kr3.out.2.1)).trans Kr3.out.2.2.2.2.2.2.2.2.1, (hb1.frozen (p := ⟨w.heap.size + 1 + 1, 2, none⟩) (Frame.cell_lt Kr3.out.2.2.1)).trans Kr3.out.2.2.2.2.2.2.2.2.2.1, (hb1.frozen (p := ⟨w.heap.size + 1 + 1, 3, none⟩) (Frame.cell_lt Kr3.out.2.2.2.1)).trans Kr3.out.2.2.2.2.2.2.2.2.2.2.1, (hb1.frozen (p := ⟨w.heap.size + 1 + 1, 4, none⟩) (Frame.cell_lt Kr3.out.2.2.2.2.1)).trans Kr3.out.2.2.2.2.2.2.2.2.2.2.2.1, (hb1.frozen (p := ⟨w.heap.size + 1 + 1, 5, none⟩) (Frame.cell_lt Kr3.out.2.2.2.2.2.1)).trans Kr3.out.2.2.2.2.2.2.2.2.2.2.2.2.1, (hb1.frozen (p := ⟨w.heap.size + 1 + 1, 6, none⟩) (Frame.cell_lt Kr3.out.2.2.2.2.2.2.1)).trans Kr3.out.2.2.2.2.2.2.2.2.2.2.2.2.2⟩
  have B1 : Hid (Below w.heap.size w w1) := Frame.next B0.out hb1 B0.out.size
  clear hb1
  have qb51 := Kb49.out.1
  have qb52 := Kb49.out.2.1
  have qb53 := Kb49.out.2.2.1
  have qb54 := Kb49.out.2.2.2.1
  have qb55 := Kb49.out.2.2.2.2.1
  have qb56 := Kb49.out.2.2.2.2.2.1
  have qb57 := Kb49.out.2.2.2.2.2.2
  go_wp2_with fail
  refine (impl_GoodSum b.r b.k b.t b.lb b.l b.hb b.h _).mono ?_
  rintro e w2 ⟨rfl, hb2⟩
  rw [HB.out]
  clear qb51 qb52 qb53 qb54 qb55 qb56 qb57
  have Ka58 : Hid (w2.cell? ⟨w.heap.size, 0, none⟩ = some (.int .i64 a.r) ∧ w2.cell? ⟨w.heap.size, 1, none⟩ = some (.int .i64 a.k) ∧ w2.cell? ⟨w.heap.size, 2, none⟩ = some (.int .i64 a.t) ∧ w2.cell? ⟨w.heap.size, 3, none⟩ = some (.bool a.lb) ∧ w2.cell? ⟨w.heap.size, 4, none⟩ = some (.int .i64 a.l) ∧ w2.cell? ⟨w.heap.size, 5, none⟩ = some (.bool a.hb) ∧ w2.cell? ⟨w.heap.size, 6, none⟩ = some (.int .i64 a.h)) := ⟨Frame.held_cell hb2 Ka48.out.1, Frame.held_cell hb2 Ka48.out.2.1, Frame.held_cell hb2 Ka48.out.2.2.1, Frame.held_cell hb2 Ka48.out.2.2.2.1, Frame.held_cell hb2 Ka48.out.2.2.2.2.1, Frame.held_cell hb2 Ka48.out.2.2.2.2.2.1, Frame.held_cell hb2 Ka48.out.2.2.2.2.2.2⟩
  have Kb59 : Hid (w2.cell? ⟨w.heap.size + 1, 0, none⟩ = some (.int .i64 b.r) ∧ w2.cell? ⟨w.heap.size + 1, 1, none⟩ = some (.int .i64 b.k) ∧ w2.cell? ⟨w.heap.size + 1, 2, none⟩ = some (.int .i64 b.t) ∧ w2.cell? ⟨w.heap.size + 1, 3, none⟩ = some (.bool b.lb) ∧ w2.cell? ⟨w.heap.size + 1, 4, none⟩ = some (.int .i64 b.l) ∧ w2.cell? ⟨w.heap.size + 1, 5, none⟩ = some (.bool b.hb) ∧ w2.cell? ⟨w.heap.size + 1, 6, none⟩ = some (.int .i64 b.h)) := ⟨Frame.held_cell hb2 Kb49.out.1, Frame.held_cell hb2 Kb49.out.2.1, Frame.held_cell hb2 Kb49.out.2.2.1, Frame.held_cell hb2 Kb49.out.2.2.2.1, Frame.held_cell hb2 Kb49.out.2.2.2.2.1, Frame.held_cell hb2 Kb49.out.2.2.2.2.2.1, Frame.held_cell hb2 Kb49.out.2.2.2.2.2.2⟩
  have Kr60 : Hid (w2.cell? ⟨w.heap.size + 1 + 1, 0, none⟩ = some (.int .i64 0) ∧ w2.cell? ⟨w.heap.size + 1 + 1, 1, none⟩ = some (.int .i64 0) ∧ w2.cell? ⟨w.heap.size + 1 + 1, 2, none⟩ = some (.int .i64 0) ∧ w2.cell? ⟨w.heap.size + 1 + 1, 3, none⟩ = some (.bool false) ∧ w2.cell? ⟨w.heap.size + 1 + 1, 4, none⟩ = some (.int .i64 0) ∧ w2.cell? ⟨w.heap.size + 1 + 1, 5, none⟩ = some (.bool false) ∧ w2.cell? ⟨w.heap.size + 1 + 1, 6, none⟩ = some (.int .i64 0) ∧ w2.frozen? ⟨w.heap.size + 1 + 1, 0, none⟩ = false ∧ w2.frozen? ⟨w.heap.size + 1 + 1, 1, none⟩ = false ∧ w2.frozen? ⟨w.heap.size + 1 + 1, 2, none⟩ = false ∧ w2.frozen? ⟨w.heap.size + 1 + 1, 3, none⟩ = false ∧ w2.frozen? ⟨w.heap.size + 1 + 1, 4, none⟩ = false ∧ w2.frozen? ⟨w.heap.size + 1 + 1, 5, none⟩ = false ∧ w2.frozen? ⟨w.heap.size + 1 + 1, 6, none⟩ = false) := ⟨Frame.held_cell hb2 Kr50.out.1, Frame.held_cell hb2 Kr50.out.2.1, Frame.held_cell hb2 Kr50.out.2.2.1, Frame.held_cell hb2 Kr50.out.2.2.2.1, Frame.held_cell hb2 Kr50.out.2.2.2.2.1, Frame.held_cell hb2 Kr50.out.2.2.2.2.2.1, Frame.held_cell hb2 Kr50.out.2.2.2.2.2.2.1, (hb2.frozen (p := ⟨w.heap.size + 1 + 1, 0, none⟩) (Frame.cell_lt Kr50.out.1)).trans Kr50.out.2.2.2.2.2.2.2.1, (hb2.frozen (p := ⟨w.heap.size + 1 + 1, 1, none⟩) (Frame.cell_lt Kr50.out.2.1)).trans Kr50.out.2.2.2.2.2.2.2.2.1, (hb2.frozen (p := ⟨w.heap.size + 1 + 1, 2, none⟩) (Frame.cell_lt Kr50.out.2.2.1)).trans Kr50.out.2.2.2.2.2.2.2.2.2.1, (hb2.frozen (p := ⟨w.heap.size + 1 + 1, 3, none⟩) (Frame.cell_lt Kr50.out.2.2.2.1)).trans Kr50.out.2.2.2.2.2.2.2.2.2.2.1, (hb2.frozen (p := ⟨w.heap.size + 1 + 1, 4, none⟩) (Frame.cell_lt Kr50.out.2.2.2.2.1)).trans Kr50.out.2.2.2.2.2.2.2.2.2.2.2.1, (hb2.frozen (p := ⟨w.heap.size + 1 + 1, 5, none⟩) (Frame.cell_lt Kr50.out.2.2.2.2.2.1)).trans Kr50.out.2.2.2.2.2.2.2.2.2.2.2.2.1, (hb2.frozen (p := ⟨w.heap.size + 1 + 1, 6, none⟩) (Frame.cell_lt Kr50.out.2.2.2.2.2.2.1)).trans Kr50.out.2.2.2.2.2.2.2.2.2.2.2.2.2⟩
  have B2 : Hid (Below w.heap.size w w2) := Frame.next B1.out hb2 B1.out.size
  clear hb2
  have qa61 := Ka58.out.1
  have qa62 := Ka58.out.2.1
  have qa63 := Ka58.out.2.2.1
  have qa64 := Ka58.out.2.2.2.1
  have qa65 := Ka58.out.2.2.2.2.1
  have qa66 := Ka58.out.2.2.2.2.2.1
  have qa67 := Ka58.out.2.2.2.2.2.2
  have qb68 := Kb59.out.1
  have qb69 := Kb59.out.2.1
  have qb70 := Kb59.out.2.2.1
  have qb71 := Kb59.out.2.2.2.1
  have qb72 := Kb59.out.2.2.2.2.1
  have qb73 := Kb59.out.2.2.2.2.2.1
  have qb74 := Kb59.out.2.2.2.2.2.2
  go_wp2_with fail
  refine (CT.out _ (HT.out.below B2.out)).mono ?_
  rintro e w3 ⟨rfl, hb3⟩
  clear qa61 qa62 qa63 qa64 qa65 qa66 qa67 qb68 qb69 qb70 qb71 qb72 qb73 qb74
  have Ka75 : Hid (w3.cell? ⟨w.heap.size, 0, none⟩ = some (.int .i64 a.r) ∧ w3.cell? ⟨w.heap.size, 1, none⟩ = some (.int .i64 a.k) ∧ w3.cell? ⟨w.heap.size, 2, none⟩ = some (.int .i64 a.t) ∧ w3.cell? ⟨w.heap.size, 3, none⟩ = some (.bool a.lb) ∧ w3.cell? ⟨w.heap.size, 4, none⟩ = some (.int .i64 a.l) ∧ w3.cell? ⟨w.heap.size, 5, none⟩ = some (.bool a.hb) ∧ w3.cell? ⟨w.heap.size, 6, none⟩ = some (.int .i64 a.h)) := ⟨Frame.held_cell hb3 Ka58.out.1, Frame.held_cell hb3 Ka58.out.2.1, Frame.held_cell hb3 Ka58.out.2.2.1, Frame.held_cell hb3 Ka58.out.2.2.2.1, Frame.held_cell hb3 Ka58.out.2.2.2.2.1, Frame.held_cell hb3 Ka58.out.2.2.2.2.2.1, Frame.held_cell hb3 Ka58.out.2.2.2.2.2.2⟩
  have Kb76 : Hid (w3.cell? ⟨w.heap.size + 1, 0, none⟩ = some (.int .i64 b.r) ∧ w3.cell? ⟨w.heap.size + 1, 1, none⟩ = some (.int .i64 b.k) ∧ w3.cell? ⟨w.heap.size + 1, 2, none⟩ = some (.int .i64 b.t) ∧ w3.cell? ⟨w.heap.size + 1, 3, none⟩ = some (.bool b.lb) ∧ w3.cell? ⟨w.heap.size + 1, 4, none⟩ = some (.int .i64 b.l) ∧ w3.cell? ⟨w.heap.size + 1, 5, none⟩ = some (.bool b.hb) ∧ w3.cell? ⟨w.heap.size + 1, 6, none⟩ = some (.int .i64 b.h)) := ⟨Frame.held_cell hb3 Kb59.out.1, Frame.held_cell hb3 Kb59.out.2.1, Frame.held_cell hb3 Kb59.out.2.2.1, Frame.held_cell hb3 Kb59.out.2.2.2.1, Frame.held_cell hb3 Kb59.out.2.2.2.2.1, Frame.held_cell hb3 Kb59.out.2.2.2.2.2.1, Frame.held_cell hb3 Kb59.out.2.2.2.2.2.2⟩
  have Kr77 : Hid (w3.cell? ⟨w.heap.size + 1 + 1, 0, none⟩ = some (.int .i64 0) ∧ w3.cell? ⟨w.heap.size + 1 + 1, 1, none⟩ = some (.int .i64 0) ∧ w3.cell? ⟨w.heap.size + 1 + 1, 2, none⟩ = some (.int .i64 0) ∧ w3.cell? ⟨w.heap.size + 1 + 1, 3, none⟩ = some (.bool false) ∧ w3.cell? ⟨w.heap.size + 1 + 1, 4, none⟩ = some (.int .i64 0) ∧ w3.cell? ⟨w.heap.size + 1 + 1, 5, none⟩ = some (.bool false) ∧ w3.cell? ⟨w.heap.size + 1 + 1, 6, none⟩ = some (.int .i64 0) ∧ w3.frozen? ⟨w.heap.size + 1 + 1, 0, none⟩ = false ∧ w3.frozen? ⟨w.heap.size + 1 + 1, 1, none⟩ = false ∧ w3.frozen? ⟨w.heap.size + 1 + 1, 2, none⟩ = false ∧ w3.frozen? ⟨w.heap.size + 1 + 1, 3, none⟩ = false ∧ w3.frozen? ⟨w.heap.size + 1 + 1, 4, none⟩ = false ∧ w3.frozen? ⟨w.heap.size + 1 + 1, 5, none⟩ = false ∧ w3.frozen? ⟨w.heap.size + 1 + 1, 6, none⟩ = false) := ⟨Frame.held_cell hb3 Kr60.out.1, Frame.held_cell hb3 Kr60.out.2.1, Frame.held_cell hb3 Kr60.out.2.2.1, Frame.held_cell hb3 Kr60.out.2.2.2.1, Frame.held_cell hb3 Kr60.out.2.2.2.2.1, Frame.held_cell hb3 Kr60.out.2.2.2.2.2.1, Frame.held_cell hb3 Kr60.out.2.2.2.2.2.2.1, (hb3.frozen (p := ⟨w.heap.size + 1 + 1, 0, none⟩) (Frame.cell_lt Kr60.out.1)).trans Kr60.out.2.2.2.2.2.2.2.1, (hb3.frozen (p := ⟨w.heap.size + 1 + 1, 1, none⟩) (Frame.cell_lt Kr60.out.2.1)).trans Kr60.out.2.2.2.2.2.2.2.2.1, (hb3.frozen (p := ⟨w.heap.size + 1 + 1, 2, none⟩) (Frame.cell_lt Kr60.out.2.2.1)).trans Kr60.out.2.2.2.2.2.2.2.2.2.1, (hb3.frozen (p := ⟨w.heap.size + 1 + 1, 3, none⟩) (Frame.cell_lt Kr60.out.2.2.2.1)).trans Kr60.out.2.2.2.2.2.2.2.2.2.2.1, (hb3.frozen (p := ⟨w.heap.size + 1 + 1, 4, none⟩) (Frame.cell_lt Kr60.out.2.2.2.2.1)).trans Kr60.out.2.2.2.2.2.2.2.2.2.2.2.1, (hb3.frozen (p := ⟨w.heap.size + 1 + 1, 5, none⟩) (Frame.cell_lt Kr60.out.2.2.2.2.2.1)).trans Kr60.out.2.2.2.2.2.2.2.2.2.2.2.2.1, (hb3.frozen (p := ⟨w.heap.size + 1 + 1, 6, none⟩) (Frame.cell_lt Kr60.out.2.2.2.2.2.2.1)).trans Kr60.out.2.2.2.2.2.2.2.2.2.2.2.2.2⟩
  have B3 : Hid (Below w.heap.size w w3) := Frame.next B2.out hb3 B2.out.size
  clear hb3
  go_wp2_with fail
  refine (fitted (tog a b) _).mono ?_
  rintro e w4 ⟨rfl, hb4⟩
  have Ka78 : Hid (w4.cell? ⟨w.heap.size, 0, none⟩ = some (.int .i64 a.r) ∧ w4.cell? ⟨w.heap.size, 1, none⟩ = some (.int .i64 a.k) ∧ w4.cell? ⟨w.heap.size, 2, none⟩ = some (.int .i64 a.t) ∧ w4.cell? ⟨w.heap.size, 3, none⟩ = some (.bool a.lb) ∧ w4.cell? ⟨w.heap.size, 4, none⟩ = some (.int .i64 a.l) ∧ w4.cell? ⟨w.heap.size, 5, none⟩ = some (.bool a.hb) ∧ w4.cell? ⟨w.heap.size, 6, none⟩ = some (.int .i64 a.h)) := ⟨Frame.held_cell hb4 Ka75.out.1, Frame.held_cell hb4 Ka75.out.2.1, Frame.held_cell hb4 Ka75.out.2.2.1, Frame.held_cell hb4 Ka75.out.2.2.2.1, Frame.held_cell hb4 Ka75.out.2.2.2.2.1, Frame.held_cell hb4 Ka75.out.2.2.2.2.2.1, Frame.held_cell hb4 Ka75.out.2.2.2.2.2.2⟩
  have Kb79 : Hid (w4.cell? ⟨w.heap.size + 1, 0, none⟩ = some (.int .i64 b.r) ∧ w4.cell? ⟨w.heap.size + 1, 1, none⟩ = some (.int .i64 b.k) ∧ w4.cell? ⟨w.heap.size + 1, 2, none⟩ = some (.int .i64 b.t) ∧ w4.cell? ⟨w.heap.size + 1, 3, none⟩ = some (.bool b.lb) ∧ w4.cell? ⟨w.heap.size + 1, 4, none⟩ = some (.int .i64 b.l) ∧ w4.cell? ⟨w.heap.size + 1, 5, none⟩ = some (.bool b.hb) ∧ w4.cell? ⟨w.heap.size + 1, 6, none⟩ = some (.int .i64 b.h)) := ⟨Frame.held_cell hb4 Kb76.out.1, Frame.held_cell hb4 Kb76.out.2.1, Frame.held_cell hb4 Kb76.out.2.2.1, Frame.held_cell hb4 Kb76.out.2.2.2.1, Frame.held_cell hb4 Kb76.out.2.2.2.2.1, Frame.held_cell hb4 Kb76.out.2.2.2.2.2.1, Frame.held_cell hb4 Kb76.out.2.2.2.2.2.2⟩
  have Kr80 : Hid (w4.cell? ⟨w.heap.size + 1 + 1, 0, none⟩ = some (.int .i64 0) ∧ w4.cell? ⟨w.heap.size + 1 + 1, 1, none⟩ = some (.int .i64 0) ∧ w4.cell? ⟨w.heap.size + 1 + 1, 2, none⟩ = some (.int .i64 0) ∧ w4.cell? ⟨w.heap.size + 1 + 1, 3, none⟩ = some (.bool false) ∧ w4.cell? ⟨w.heap.size + 1 + 1, 4, none⟩ = some (.int .i64 0) ∧ w4.cell? ⟨w.heap.size + 1 + 1, 5, none⟩ = some (.bool false) ∧ w4.cell? ⟨w.heap.size + 1 + 1, 6, none⟩ = some (.int .i64 0) ∧ w4.frozen? ⟨w.heap.size + 1 + 1, 0, none⟩ = false ∧ w4.frozen? ⟨w.heap.size + 1 + 1, 1, none⟩ = false ∧ w4.frozen? ⟨w.heap.size + 1 + 1, 2, none⟩ = false ∧ w4.frozen? ⟨w.heap.size + 1 + 1, 3, none⟩ = false ∧ w4.frozen? ⟨w.heap.size + 1 + 1, 4, none⟩ = false ∧ w4.frozen? ⟨w.heap.size + 1 + 1, 5, none⟩ = false ∧ w4.frozen? ⟨w.heap.size + 1 + 1, 6, none⟩ = false) := ⟨Frame.held_cell hb4 Kr77.out.1, Frame.held_cell hb4 Kr77.out.2.1, Frame.held_cell hb4 Kr77.out.2.2.1, Frame.held_cell hb4 Kr77.out.2.2.2.1, Frame.held_cell hb4 Kr77.out.2.2.2.2.1, Frame.held_cell hb4 Kr77.out.2.2.2.2.2.1, Frame.held_cell hb4 Kr77.out.2.2.2.2.2.2.1, (hb4.frozen (p := ⟨w.heap.size + 1 + 1, 0, none⟩) (Frame.cell_lt Kr77.out.1)).trans Kr77.out.2.2.2.2.2.2.2.1, (hb4.frozen (p := ⟨w.heap.size + 1 + 1, 1, none⟩) (Frame.cell_lt Kr77.out.2.1)).trans Kr77.out.2.2.2.2.2.2.2.2.1, (hb4.frozen (p := ⟨w.heap.size + 1 + 1, 2, none⟩) (Frame.cell_lt Kr77.out.2.2.1)).trans Kr77.out.2.2.2.2.2.2.2.2.2.1, (hb4.frozen (p := ⟨w.heap.size + 1 + 1, 3, none⟩) (Frame.cell_lt Kr77.out.2.2.2.1)).trans Kr77.out.2.2.2.2.2.2.2.2.2.2.1, (hb4.frozen (p := ⟨w.heap.size + 1 + 1, 4, none⟩) (Frame.cell_lt Kr77.out.2.2.2.2.1)).trans Kr77.out.2.2.2.2.2.2.2.2.2.2.2.1, (hb4.frozen (p := ⟨w.heap.size + 1 + 1, 5, none⟩) (Frame.cell_lt Kr77.out.2.2.2.2.2.1)).trans Kr77.out.2.2.2.2.2.2.2.2.2.2.2.2.1, (hb4.frozen (p := ⟨w.heap.size + 1 + 1, 6, none⟩) (Frame.cell_lt Kr77.out.2.2.2.2.2.2.1)).trans Kr77.out.2.2.2.2.2.2.2.2.2.2.2.2.2⟩
  have B4 : Hid (Below w.heap.size w w4) := Frame.next B3.out hb4 B3.out.size
  clear hb4
  have qr81 := Kr80.out.1
  have qr82 := Kr80.out.2.1
  have qr83 := Kr80.out.2.2.1
  have qr84 := Kr80.out.2.2.2.1
  have qr85 := Kr80.out.2.2.2.2.1
  have qr86 := Kr80.out.2.2.2.2.2.1
  have qr87 := Kr80.out.2.2.2.2.2.2.1
  have qr88 := Kr80.out.2.2.2.2.2.2.2.1
  have qr89 := Kr80.out.2.2.2.2.2.2.2.2.1
  have qr90 := Kr80.out.2.2.2.2.2.2.2.2.2.1
  have qr91 := Kr80.out.2.2.2.2.2.2.2.2.2.2.1
  have qr92 := Kr80.out.2.2.2.2.2.2.2.2.2.2.2.1
  have qr93 := Kr80.out.2.2.2.2.2.2.2.2.2.2.2.2.1
  have qr94 := Kr80.out.2.2.2.2.2.2.2.2.2.2.2.2.2
  go_wp2
  refine bodyPost_ret (v := .tuple #[.agg #[.int .i64 (fit (tog a b)).r, .int .i64 (fit (tog a b)).k, .int .i64 (fit (tog a b)).t, .bool (fit (tog a b)).lb, .int .i64 (fit (tog a b)).l, .bool (fit (tog a b)).hb, .int .i64 (fit (tog a b)).h], .bool (tog a b).good]) (by simp [results, Tryd.results14, go_sem, qr81, qr82, qr83, qr84, qr85, qr86, qr87]) rfl ?_
  exact ⟨rfl, (((((((B4.out.setCell hr _).setCell hr _).setCell hr _).setCell hr _).setCell hr _).setCell hr _).setCell hr _)⟩

theorem good_parts {s : Sm} (h : s.good = true) : (-1000000 ≤ s.t ∧ s.t ≤ 1000000) ∧ goodV s.lb s.l = true ∧ goodV s.hb s.h = true ∧ ((s.k = 0 ∧ s.lb = true ∧ s.hb = true) ∨ (0 < s.k ∧ s.lb = false ∧ s.hb = false)) := by
  have hc := good_counts h
  unfold Sm.good goodS at h
  simp only [Bool.and_eq_true] at h
  obtain ⟨_, _, h3, h4, h5, h6⟩ := h
  refine ⟨(of_decide_eq_true h3 : -1000000 ≤ s.t ∧ s.t ≤ 1000000), h4, h5, ?_⟩
  by_cases h0 : s.k = 0
  · rw [if_pos h0] at h6
    unfold zeroB at h6
    simp only [Bool.and_eq_true] at h6
    exact Or.inl ⟨h0, h6.1, h6.2.1⟩
  · rw [if_neg h0] at h6
    unfold liesB at h6
    simp only [Bool.and_eq_true, Bool.not_eq_true'] at h6
    exact Or.inr ⟨by omega, h6.1, h6.2.1⟩
def lowB (a b : Sm) : Bool := (a.k == 0) || (decide (0 < b.k) && decide (b.l < a.l))
def highB (a b : Sm) : Bool := (a.k == 0) || (decide (0 < b.k) && decide (a.h < b.h))
theorem end_less {ab bb : Bool} {an bn : Int} (ha : goodV ab an = true) (hb : goodV bb bn = true) : endB 1 ab an bb bn = (ab || (!bb && decide (bn < an))) := by
  unfold endB Cmp.cmpV Cmp.cmpB
  rw [ha, hb]
  cases ab <;> cases bb <;> simp [Cmp.cmpT, inB] <;> split <;> simp_all
theorem end_more {ab bb : Bool} {an bn : Int} (ha : goodV ab an = true) (hb : goodV bb bn = true) : endB 2 ab an bb bn = (ab || (!bb && decide (an < bn))) := by
  unfold endB Cmp.cmpV Cmp.cmpB
  rw [ha, hb]
  cases ab <;> cases bb <;> simp [Cmp.cmpT, inB] <;> split <;> simp_all
theorem tog_is {a b : Sm} (ha : a.good = true) (hb : b.good = true) : tog a b = ⟨a.r + b.r, a.k + b.k, a.t + b.t, (if lowB a b then (b.lb, b.l) else (a.lb, a.l)).1, (if lowB a b then (b.lb, b.l) else (a.lb, a.l)).2, (if highB a b then (b.hb, b.h) else (a.hb, a.h)).1, (if highB a b then (b.hb, b.h) else (a.hb, a.h)).2⟩ := by
  obtain ⟨t1, l1, h1, k1⟩ := good_parts ha
  obtain ⟨t2, l2, h2, k2⟩ := good_parts hb
  have e1 : endB 1 a.lb a.l b.lb b.l = lowB a b := by
    rw [end_less l1 l2]
    unfold lowB
    rcases k1 with ⟨c1, c2, _⟩ | ⟨c1, c2, _⟩ <;> rcases k2 with ⟨d1, d2, _⟩ | ⟨d1, d2, _⟩ <;> rw [c2, d2] <;> simp [c1, d1] <;> omega
  have e2 : endB 2 a.hb a.h b.hb b.h = highB a b := by
    rw [end_more h1 h2]
    unfold highB
    rcases k1 with ⟨c1, _, c2⟩ | ⟨c1, _, c2⟩ <;> rcases k2 with ⟨d1, _, d2⟩ | ⟨d1, _, d2⟩ <;> rw [c2, d2] <;> simp [c1, d1] <;> omega
  have e3 : IntKind.i64.wrap (a.t + b.t) = a.t + b.t := by rw [IntKind.wrap_i64]; omega
  unfold tog endN
  rw [e1, e2, e3]

set_option maxRecDepth 8000 in
set_option maxHeartbeats 12800000 in
theorem spec_AddSums (a b : Sm) (w : World) : Calls Tryd.prog 18 #[.agg #[.int .i64 a.r, .int .i64 a.k, .int .i64 a.t, .bool a.lb, .int .i64 a.l, .bool a.hb, .int .i64 a.h], .agg #[.int .i64 b.r, .int .i64 b.k, .int .i64 b.t, .bool b.lb, .int .i64 b.l, .bool b.hb, .int .i64 b.h]] w fun e w' => e = .returned (.tuple #[.agg #[.int .i64 (addV a b).r, .int .i64 (addV a b).k, .int .i64 (addV a b).t, .bool (addV a b).lb, .int .i64 (addV a b).l, .bool (addV a b).hb, .int .i64 (addV a b).h], .bool (addB a b)]) ∧ Below w.heap.size w w' := by
  have B0 : Hid (Below w.heap.size w (((w.alloc (.cells #[.int .i64 a.r, .int .i64 a.k, .int .i64 a.t, .bool a.lb, .int .i64 a.l, .bool a.hb, .int .i64 a.h] 28)).alloc (.cells #[.int .i64 b.r, .int .i64 b.k, .int .i64 b.t, .bool b.lb, .int .i64 b.l, .bool b.hb, .int .i64 b.h] 28)).alloc (.cells #[.int .i64 0, .int .i64 0, .int .i64 0, .bool false, .int .i64 0, .bool false, .int .i64 0] 28))) := (((Below.refl _ _).alloc (Nat.le_refl _) _).alloc (by simp) _).alloc (by simp; omega) _
  have Ka1 : Hid ((((w.alloc (.cells #[.int .i64 a.r, .int .i64 a.k, .int .i64 a.t, .bool a.lb, .int .i64 a.l, .bool a.hb, .int .i64 a.h] 28)).alloc (.cells #[.int .i64 b.r, .int .i64 b.k, .int .i64 b.t, .bool b.lb, .int .i64 b.l, .bool b.hb, .int .i64 b.h] 28)).alloc (.cells #[.int .i64 0, .int .i64 0, .int .i64 0, .bool false, .int .i64 0, .bool false, .int .i64 0] 28)).cell? ⟨w.heap.size, 0, none⟩ = some (.int .i64 a.r) ∧ (((w.alloc (.cells #[.int .i64 a.r, .int .i64 a.k, .int .i64 a.t, .bool a.lb, .int .i64 a.l, .bool a.hb, .int .i64 a.h] 28)).alloc (.cells #[.int .i64 b.r, .int .i64 b.k, .int .i64 b.t, .bool b.lb, .int .i64 b.l, .bool b.hb, .int .i64 b.h] 28)).alloc (.cells #[.int .i64 0, .int .i64 0, .int .i64 0, .bool false, .int .i64 0, .bool false, .int .i64 0] 28)).cell? ⟨w.heap.size, 1, none⟩ = some (.int .i64 a.k) ∧ (((w.alloc (.cells #[.int .i64 a.r, .int .i64 a.k, .int .i64 a.t, .bool a.lb, .int .i64 a.l, .bool a.hb, .int .i64 a.h] 28)).alloc (.cells #[.int .i64 b.r, .int .i64 b.k, .int .i64 b.t, .bool b.lb, .int .i64 b.l, .bool b.hb, .int .i64 b.h] 28)).alloc (.cells #[.int .i64 0, .int .i64 0, .int .i64 0, .bool false, .int .i64 0, .bool false, .int .i64 0] 28)).cell? ⟨w.heap.size, 2, none⟩ = some (.int .i64 a.t) ∧ (((w.alloc (.cells #[.int .i64 a.r, .int .i64 a.k, .int .i64 a.t, .bool a.lb, .int .i64 a.l, .bool a.hb, .int .i64 a.h] 28)).alloc (.cells #[.int .i64 b.r, .int .i64 b.k, .int .i64 b.t, .bool b.lb, .int .i64 b.l, .bool b.hb, .int .i64 b.h] 28)).alloc (.cells #[.int .i64 0, .int .i64 0, .int .i64 0, .bool false, .int .i64 0, .bool false, .int .i64 0] 28)).cell? ⟨w.heap.size, 3, none⟩ = some (.bool a.lb) ∧ (((w.alloc (.cells #[.int .i64 a.r, .int .i64 a.k, .int .i64 a.t, .bool a.lb, .int .i64 a.l, .bool a.hb, .int .i64 a.h] 28)).alloc (.cells #[.int .i64 b.r, .int .i64 b.k, .int .i64 b.t, .bool b.lb, .int .i64 b.l, .bool b.hb, .int .i64 b.h] 28)).alloc (.cells #[.int .i64 0, .int .i64 0, .int .i64 0, .bool false, .int .i64 0, .bool false, .int .i64 0] 28)).cell? ⟨w.heap.size, 4, none⟩ = some (.int .i64 a.l) ∧ (((w.alloc (.cells #[.int .i64 a.r, .int .i64 a.k, .int .i64 a.t, .bool a.lb, .int .i64 a.l, .bool a.hb, .int .i64 a.h] 28)).alloc (.cells #[.int .i64 b.r, .int .i64 b.k, .int .i64 b.t, .bool b.lb, .int .i64 b.l, .bool b.hb, .int .i64 b.h] 28)).alloc (.cells #[.int .i64 0, .int .i64 0, .int .i64 0, .bool false, .int .i64 0, .bool false, .int .i64 0] 28)).cell? ⟨w.heap.size, 5, none⟩ = some (.bool a.hb) ∧ (((w.alloc (.cells #[.int .i64 a.r, .int .i64 a.k, .int .i64 a.t, .bool a.lb, .int .i64 a.l, .bool a.hb, .int .i64 a.h] 28)).alloc (.cells #[.int .i64 b.r, .int .i64 b.k, .int .i64 b.t, .bool b.lb, .int .i64 b.l, .bool b.hb, .int .i64 b.h] 28)).alloc (.cells #[.int .i64 0, .int .i64 0, .int .i64 0, .bool false, .int .i64 0, .bool false, .int .i64 0] 28)).cell? ⟨w.heap.size, 6, none⟩ = some (.int .i64 a.h)) := by
    refine ⟨?_, ?_, ?_, ?_, ?_, ?_, ?_⟩ <;> go_simp
  have Kb2 : Hid ((((w.alloc (.cells #[.int .i64 a.r, .int .i64 a.k, .int .i64 a.t, .bool a.lb, .int .i64 a.l, .bool a.hb, .int .i64 a.h] 28)).alloc (.cells #[.int .i64 b.r, .int .i64 b.k, .int .i64 b.t, .bool b.lb, .int .i64 b.l, .bool b.hb, .int .i64 b.h] 28)).alloc (.cells #[.int .i64 0, .int .i64 0, .int .i64 0, .bool false, .int .i64 0, .bool false, .int .i64 0] 28)).cell? ⟨w.heap.size + 1, 0, none⟩ = some (.int .i64 b.r) ∧ (((w.alloc (.cells #[.int .i64 a.r, .int .i64 a.k, .int .i64 a.t, .bool a.lb, .int .i64 a.l, .bool a.hb, .int .i64 a.h] 28)).alloc (.cells #[.int .i64 b.r, .int .i64 b.k, .int .i64 b.t, .bool b.lb, .int .i64 b.l, .bool b.hb, .int .i64 b.h] 28)).alloc (.cells #[.int .i64 0, .int .i64 0, .int .i64 0, .bool false, .int .i64 0, .bool false, .int .i64 0] 28)).cell? ⟨w.heap.size + 1, 1, none⟩ = some (.int .i64 b.k) ∧ (((w.alloc (.cells #[.int .i64 a.r, .int .i64 a.k, .int .i64 a.t, .bool a.lb, .int .i64 a.l, .bool a.hb, .int .i64 a.h] 28)).alloc (.cells #[.int .i64 b.r, .int .i64 b.k, .int .i64 b.t, .bool b.lb, .int .i64 b.l, .bool b.hb, .int .i64 b.h] 28)).alloc (.cells #[.int .i64 0, .int .i64 0, .int .i64 0, .bool false, .int .i64 0, .bool false, .int .i64 0] 28)).cell? ⟨w.heap.size + 1, 2, none⟩ = some (.int .i64 b.t) ∧ (((w.alloc (.cells #[.int .i64 a.r, .int .i64 a.k, .int .i64 a.t, .bool a.lb, .int .i64 a.l, .bool a.hb, .int .i64 a.h] 28)).alloc (.cells #[.int .i64 b.r, .int .i64 b.k, .int .i64 b.t, .bool b.lb, .int .i64 b.l, .bool b.hb, .int .i64 b.h] 28)).alloc (.cells #[.int .i64 0, .int .i64 0, .int .i64 0, .bool false, .int .i64 0, .bool false, .int .i64 0] 28)).cell? ⟨w.heap.size + 1, 3, none⟩ = some (.bool b.lb) ∧ (((w.alloc (.cells #[.int .i64 a.r, .int .i64 a.k, .int .i64 a.t, .bool a.lb, .int .i64 a.l, .bool a.hb, .int .i64 a.h] 28)).alloc (.cells #[.int .i64 b.r, .int .i64 b.k, .int .i64 b.t, .bool b.lb, .int .i64 b.l, .bool b.hb, .int .i64 b.h] 28)).alloc (.cells #[.int .i64 0, .int .i64 0, .int .i64 0, .bool false, .int .i64 0, .bool false, .int .i64 0] 28)).cell? ⟨w.heap.size + 1, 4, none⟩ = some (.int .i64 b.l) ∧ (((w.alloc (.cells #[.int .i64 a.r, .int .i64 a.k, .int .i64 a.t, .bool a.lb, .int .i64 a.l, .bool a.hb, .int .i64 a.h] 28)).alloc (.cells #[.int .i64 b.r, .int .i64 b.k, .int .i64 b.t, .bool b.lb, .int .i64 b.l, .bool b.hb, .int .i64 b.h] 28)).alloc (.cells #[.int .i64 0, .int .i64 0, .int .i64 0, .bool false, .int .i64 0, .bool false, .int .i64 0] 28)).cell? ⟨w.heap.size + 1, 5, none⟩ = some (.bool b.hb) ∧ (((w.alloc (.cells #[.int .i64 a.r, .int .i64 a.k, .int .i64 a.t, .bool a.lb, .int .i64 a.l, .bool a.hb, .int .i64 a.h] 28)).alloc (.cells #[.int .i64 b.r, .int .i64 b.k, .int .i64 b.t, .bool b.lb, .int .i64 b.l, .bool b.hb, .int .i64 b.h] 28)).alloc (.cells #[.int .i64 0, .int .i64 0, .int .i64 0, .bool false, .int .i64 0, .bool false, .int .i64 0] 28)).cell? ⟨w.heap.size + 1, 6, none⟩ = some (.int .i64 b.h)) := by
    refine ⟨?_, ?_, ?_, ?_, ?_, ?_, ?_⟩ <;> go_simp
  have Kr3 : Hid ((((w.alloc (.cells #[.int .i64 a.r, .int .i64 a.k, .int .i64 a.t, .bool a.lb, .int .i64 a.l, .bool a.hb, .int .i64 a.h] 28)).alloc (.cells #[.int .i64 b.r, .int .i64 b.k, .int .i64 b.t, .bool b.lb, .int .i64 b.l, .bool b.hb, .int .i64 b.h] 28)).alloc (.cells #[.int .i64 0, .int .i64 0, .int .i64 0, .bool false, .int .i64 0, .bool false, .int .i64 0] 28)).cell? ⟨w.heap.size + 1 + 1, 0, none⟩ = some (.int .i64 0) ∧ (((w.alloc (.cells #[.int .i64 a.r, .int .i64 a.k, .int .i64 a.t, .bool a.lb, .int .i64 a.l, .bool a.hb, .int .i64 a.h] 28)).alloc (.cells #[.int .i64 b.r, .int .i64 b.k, .int .i64 b.t, .bool b.lb, .int .i64 b.l, .bool b.hb, .int .i64 b.h] 28)).alloc (.cells #[.int .i64 0, .int .i64 0, .int .i64 0, .bool false, .int .i64 0, .bool false, .int .i64 0] 28)).cell? ⟨w.heap.size + 1 + 1, 1, none⟩ = some (.int .i64 0) ∧ (((w.alloc (.cells #[.int .i64 a.r, .int .i64 a.k, .int .i64 a.t, .bool a.lb, .int .i64 a.l, .bool a.hb, .int .i64 a.h] 28)).alloc (.cells #[.int .i64 b.r, .int .i64 b.k, .int .i64 b.t, .bool b.lb, .int .i64 b.l, .bool b.hb, .int .i64 b.h] 28)).alloc (.cells #[.int .i64 0, .int .i64 0, .int .i64 0, .bool false, .int .i64 0, .bool false, .int .i64 0] 28)).cell? ⟨w.heap.size + 1 + 1, 2, none⟩ = some (.int .i64 0) ∧ (((w.alloc (.cells #[.int .i64 a.r, .int .i64 a.k, .int .i64 a.t, .bool a.lb, .int .i64 a.l, .bool a.hb, .int .i64 a.h] 28)).alloc (.cells #[.int .i64 b.r, .int .i64 b.k, .int .i64 b.t, .bool b.lb, .int .i64 b.l, .bool b.hb, .int .i64 b.h] 28)).alloc (.cells #[.int .i64 0, .int .i64 0, .int .i64 0, .bool false, .int .i64 0, .bool false, .int .i64 0] 28)).cell? ⟨w.heap.size + 1 + 1, 3, none⟩ = some (.bool false) ∧ (((w.alloc (.cells #[.int .i64 a.r, .int .i64 a.k, .int .i64 a.t, .bool a.lb, .int .i64 a.l, .bool a.hb, .int .i64 a.h] 28)).alloc (.cells #[.int .i64 b.r, .int .i64 b.k, .int .i64 b.t, .bool b.lb, .int .i64 b.l, .bool b.hb, .int .i64 b.h] 28)).alloc (.cells #[.int .i64 0, .int .i64 0, .int .i64 0, .bool false, .int .i64 0, .bool false, .int .i64 0] 28)).cell? ⟨w.heap.size + 1 + 1, 4, none⟩ = some (.int .i64 0) ∧ (((w.alloc (.cells #[.int .i64 a.r, .int .i64 a.k, .int .i64 a.t, .bool a.lb, .int .i64 a.l, .bool a.hb, .int .i64 a.h] 28)).alloc (.cells #[.int .i64 b.r, .int .i64 b.k, .int .i64 b.t, .bool b.lb, .int .i64 b.l, .bool b.hb, .int .i64 b.h] 28)).alloc (.cells #[.int .i64 0, .int .i64 0, .int .i64 0, .bool false, .int .i64 0, .bool false, .int .i64 0] 28)).cell? ⟨w.heap.size + 1 + 1, 5, none⟩ = some (.bool false) ∧ (((w.alloc (.cells #[.int .i64 a.r, .int .i64 a.k, .int .i64 a.t, .bool a.lb, .int .i64 a.l, .bool a.hb, .int .i64 a.h] 28)).alloc (.cells #[.int .i64 b.r, .int .i64 b.k, .int .i64 b.t, .bool b.lb, .int .i64 b.l, .bool b.hb, .int .i64 b.h] 28)).alloc (.cells #[.int .i64 0, .int .i64 0, .int .i64 0, .bool false, .int .i64 0, .bool false, .int .i64 0] 28)).cell? ⟨w.heap.size + 1 + 1, 6, none⟩ = some (.int .i64 0) ∧ (((w.alloc (.cells #[.int .i64 a.r, .int .i64 a.k, .int .i64 a.t, .bool a.lb, .int .i64 a.l, .bool a.hb, .int .i64 a.h] 28)).alloc (.cells #[.int .i64 b.r, .int .i64 b.k, .int .i64 b.t, .bool b.lb, .int .i64 b.l, .bool b.hb, .int .i64 b.h] 28)).alloc (.cells #[.int .i64 0, .int .i64 0, .int .i64 0, .bool false, .int .i64 0, .bool false, .int .i64 0] 28)).frozen? ⟨w.heap.size + 1 + 1, 0, none⟩ = false ∧ (((w.alloc (.cells #[.int .i64 a.r, .int .i64 a.k, .int .i64 a.t, .bool a.lb, .int .i64 a.l, .bool a.hb, .int .i64 a.h] 28)).alloc (.cells #[.int .i64 b.r, .int .i64 b.k, .int .i64 b.t, .bool b.lb, .int .i64 b.l, .bool b.hb, .int .i64 b.h] 28)).alloc (.cells #[.int .i64 0, .int .i64 0, .int .i64 0, .bool false, .int .i64 0, .bool false, .int .i64 0] 28)).frozen? ⟨w.heap.size + 1 + 1, 1, none⟩ = false ∧ (((w.alloc (.cells #[.int .i64 a.r, .int .i64 a.k, .int .i64 a.t, .bool a.lb, .int .i64 a.l, .bool a.hb, .int .i64 a.h] 28)).alloc (.cells #[.int .i64 b.r, .int .i64 b.k, .int .i64 b.t, .bool b.lb, .int .i64 b.l, .bool b.hb, .int .i64 b.h] 28)).alloc (.cells #[.int .i64 0, .int .i64 0, .int .i64 0, .bool false, .int .i64 0, .bool false, .int .i64 0] 28)).frozen? ⟨w.heap.size + 1 + 1, 2, none⟩ = false ∧ (((w.alloc (.cells #[.int .i64 a.r, .int .i64 a.k, .int .i64 a.t, .bool a.lb, .int .i64 a.l, .bool a.hb, .int .i64 a.h] 28)).alloc (.cells #[.int .i64 b.r, .int .i64 b.k, .int .i64 b.t, .bool b.lb, .int .i64 b.l, .bool b.hb, .int .i64 b.h] 28)).alloc (.cells #[.int .i64 0, .int .i64 0, .int .i64 0, .bool false, .int .i64 0, .bool false, .int .i64 0] 28)).frozen? ⟨w.heap.size + 1 + 1, 3, none⟩ = false ∧ (((w.alloc (.cells #[.int .i64 a.r, .int .i64 a.k, .int .i64 a.t, .bool a.lb, .int .i64 a.l, .bool a.hb, .int .i64 a.h] 28)).alloc (.cells #[.int .i64 b.r, .int .i64 b.k, .int .i64 b.t, .bool b.lb, .int .i64 b.l, .bool b.hb, .int .i64 b.h] 28)).alloc (.cells #[.int .i64 0, .int .i64 0, .int .i64 0, .bool false, .int .i64 0, .bool false, .int .i64 0] 28)).frozen? ⟨w.heap.size + 1 + 1, 4, none⟩ = false ∧ (((w.alloc (.cells #[.int .i64 a.r, .int .i64 a.k, .int .i64 a.t, .bool a.lb, .int .i64 a.l, .bool a.hb, .int .i64 a.h] 28)).alloc (.cells #[.int .i64 b.r, .int .i64 b.k, .int .i64 b.t, .bool b.lb, .int .i64 b.l, .bool b.hb, .int .i64 b.h] 28)).alloc (.cells #[.int .i64 0, .int .i64 0, .int .i64 0, .bool false, .int .i64 0, .bool false, .int .i64 0] 28)).frozen? ⟨w.heap.size + 1 + 1, 5, none⟩ = false ∧ (((w.alloc (.cells #[.int .i64 a.r, .int .i64 a.k, .int .i64 a.t, .bool a.lb, .int .i64 a.l, .bool a.hb, .int .i64 a.h] 28)).alloc (.cells #[.int .i64 b.r, .int .i64 b.k, .int .i64 b.t, .bool b.lb, .int .i64 b.l, .bool b.hb, .int .i64 b.h] 28)).alloc (.cells #[.int .i64 0, .int .i64 0, .int .i64 0, .bool false, .int .i64 0, .bool false, .int .i64 0] 28)).frozen? ⟨w.heap.size + 1 + 1, 6, none⟩ = false) := by
    refine ⟨?_, ?_, ?_, ?_, ?_, ?_, ?_, ?_, ?_, ?_, ?_, ?_, ?_, ?_⟩ <;> go_simp
  have hr : w.heap.size ≤ w.heap.size + 1 + 1 := by omega
  cases hA : a.good
  · have HA : Hid (goodS a.r a.k a.t a.lb a.l a.hb a.h = false) := hA
    have e : addB a b = false := by unfold addB; rw [hA]; rfl
    have e2 : addV a b = zeroS := if_neg (by rw [hA]; exact Bool.false_ne_true)
    rw [e, e2]
    clear e e2 hA
    go_enter Tryd.func18, Tryd.ntmps18
    go_wp2_with fail
    refine (spec_GoodSum a.r a.k a.t a.lb a.l a.hb a.h _).mono ?_
    rintro e w1 ⟨rfl, hb1⟩
    rw [HA.out]
    have Ka4 : Hid (w1.cell? ⟨w.heap.size, 0, none⟩ = some (.int .i64 a.r) ∧ w1.cell? ⟨w.heap.size, 1, none⟩ = some (.int .i64 a.k) ∧ w1.cell? ⟨w.heap.size, 2, none⟩ = some (.int .i64 a.t) ∧ w1.cell? ⟨w.heap.size, 3, none⟩ = some (.bool a.lb) ∧ w1.cell? ⟨w.heap.size, 4, none⟩ = some (.int .i64 a.l) ∧ w1.cell? ⟨w.heap.size, 5, none⟩ = some (.bool a.hb) ∧ w1.cell? ⟨w.heap.size, 6, none⟩ = some (.int .i64 a.h)) := ⟨Frame.held_cell hb1 Ka1.out.1, Frame.held_cell hb1 Ka1.out.2.1, Frame.held_cell hb1 Ka1.out.2.2.1, Frame.held_cell hb1 Ka1.out.2.2.2.1, Frame.held_cell hb1 Ka1.out.2.2.2.2.1, Frame.held_cell hb1 Ka1.out.2.2.2.2.2.1, Frame.held_cell hb1 Ka1.out.2.2.2.2.2.2⟩
    have Kb5 : Hid (w1.cell? ⟨w.heap.size + 1, 0, none⟩ = some (.int .i64 b.r) ∧ w1.cell? ⟨w.heap.size + 1, 1, none⟩ = some (.int .i64 b.k) ∧ w1.cell? ⟨w.heap.size + 1, 2, none⟩ = some (.int .i64 b.t) ∧ w1.cell? ⟨w.heap.size + 1, 3, none⟩ = some (.bool b.lb) ∧ w1.cell? ⟨w.heap.size + 1, 4, none⟩ = some (.int .i64 b.l) ∧ w1.cell? ⟨w.heap.size + 1, 5, none⟩ = some (.bool b.hb) ∧ w1.cell? ⟨w.heap.size + 1, 6, none⟩ = some (.int .i64 b.h)) := ⟨Frame.held_cell hb1 Kb2.out.1, Frame.held_cell hb1 Kb2.out.2.1, Frame.held_cell hb1 Kb2.out.2.2.1, Frame.held_cell hb1 Kb2.out.2.2.2.1, Frame.held_cell hb1 Kb2.out.2.2.2.2.1, Frame.held_cell hb1 Kb2.out.2.2.2.2.2.1, Frame.held_cell hb1 Kb2.out.2.2.2.2.2.2⟩
    have Kr6 : Hid (w1.cell? ⟨w.heap.size + 1 + 1, 0, none⟩ = some (.int .i64 0) ∧ w1.cell? ⟨w.heap.size + 1 + 1, 1, none⟩ = some (.int .i64 0) ∧ w1.cell? ⟨w.heap.size + 1 + 1, 2, none⟩ = some (.int .i64 0) ∧ w1.cell? ⟨w.heap.size + 1 + 1, 3, none⟩ = some (.bool false) ∧ w1.cell? ⟨w.heap.size + 1 + 1, 4, none⟩ = some (.int .i64 0) ∧ w1.cell? ⟨w.heap.size + 1 + 1, 5, none⟩ = some (.bool false) ∧ w1.cell? ⟨w.heap.size + 1 + 1, 6, none⟩ = some (.int .i64 0) ∧ w1.frozen? ⟨w.heap.size + 1 + 1, 0, none⟩ = false ∧ w1.frozen? ⟨w.heap.size + 1 + 1, 1, none⟩ = false ∧ w1.frozen? ⟨w.heap.size + 1 + 1, 2, none⟩ = false ∧ w1.frozen? ⟨w.heap.size + 1 + 1, 3, none⟩ = false ∧ w1.frozen? ⟨w.heap.size + 1 + 1, 4, none⟩ = false ∧ w1.frozen? ⟨w.heap.size + 1 + 1, 5, none⟩ = false ∧ w1.frozen? ⟨w.heap.size + 1 + 1, 6, none⟩ = false) := ⟨Frame.held_cell hb1 Kr3.out.1, Frame.held_cell hb1 Kr3.out.2.1, Frame.held_cell hb1 Kr3.out.2.2.1, Frame.held_cell hb1 Kr3.out.2.2.2.1, Frame.held_cell hb1 Kr3.out.2.2.2.2.1, Frame.held_cell hb1 Kr3.out.2.2.2.2.2.1, Frame.held_cell hb1 Kr3.out.2.2.2.2.2.2.1, (hb1.frozen (p := ⟨w.heap.size + 1 + 1, 0, none⟩) (Frame.cell_lt Kr3.out.1)).trans Kr3.out.2.2.2.2.2.2.2.1, (hb1.frozen (p := ⟨w.heap.size + 1 + 1, 1, none⟩) (Frame.cell_lt Kr3.out.2.1)).trans Kr3.out.2.2.2.2.2.2.2.2.1, (hb1.frozen (p := ⟨w.heap.size + 1 + 1, 2, none⟩) (Frame.cell_lt Kr3.out.2.2.1)).trans Kr3.out.2.2.2.2.2.2.2.2.2.1, (hb1.frozen (p := ⟨w.heap.size + 1 + 1, 3, none⟩) (Frame.cell_lt Kr3.out.2.2.2.1)).trans Kr3.out.2.2.2.2.2.2.2.2.2.2.1, (hb1.frozen (p := ⟨w.heap.size + 1 + 1, 4, none⟩) (Frame.cell_lt Kr3.out.2.2.2.2.1)).trans Kr3.out.2.2.2.2.2.2.2.2.2.2.2.1, (hb1.frozen (p := ⟨w.heap.size + 1 + 1, 5, none⟩) (Frame.cell_lt Kr3.out.2.2.2.2.2.1)).trans Kr3.out.2.2.2.2.2.2.2.2.2.2.2.2.1, (hb1.frozen (p := ⟨w.heap.size + 1 + 1, 6, none⟩) (Frame.cell_lt Kr3.out.2.2.2.2.2.2.1)).trans Kr3.out.2.2.2.2.2.2.2.2.2.2.2.2.2⟩
    have B1 : Hid (Below w.heap.size w w1) := Frame.next B0.out hb1 B0.out.size
    clear hb1
    have qr7 := Kr6.out.1
    have qr8 := Kr6.out.2.1
    have qr9 := Kr6.out.2.2.1
    have qr10 := Kr6.out.2.2.2.1
    have qr11 := Kr6.out.2.2.2.2.1
    have qr12 := Kr6.out.2.2.2.2.2.1
    have qr13 := Kr6.out.2.2.2.2.2.2.1
    have qr14 := Kr6.out.2.2.2.2.2.2.2.1
    have qr15 := Kr6.out.2.2.2.2.2.2.2.2.1
    have qr16 := Kr6.out.2.2.2.2.2.2.2.2.2.1
    have qr17 := Kr6.out.2.2.2.2.2.2.2.2.2.2.1
    have qr18 := Kr6.out.2.2.2.2.2.2.2.2.2.2.2.1
    have qr19 := Kr6.out.2.2.2.2.2.2.2.2.2.2.2.2.1
    have qr20 := Kr6.out.2.2.2.2.2.2.2.2.2.2.2.2.2
    go_wp2
    refine bodyPost_ret (v := .tuple #[.agg #[.int .i64 0, .int .i64 0, .int .i64 0, .bool false, .int .i64 0, .bool false, .int .i64 0], .bool false]) (by simp [results, Tryd.results18, go_sem, qr7, qr8, qr9, qr10, qr11, qr12, qr13]) rfl ?_
    exact ⟨rfl, (((((((B1.out.setCell hr _).setCell hr _).setCell hr _).setCell hr _).setCell hr _).setCell hr _).setCell hr _)⟩
  have HA : Hid (goodS a.r a.k a.t a.lb a.l a.hb a.h = true) := hA
  cases hB : b.good
  · have HB : Hid (goodS b.r b.k b.t b.lb b.l b.hb b.h = false) := hB
    have e : addB a b = false := by unfold addB; rw [hB, Bool.false_and, Bool.and_false]
    have e2 : addV a b = zeroS := if_neg (by rw [hB, Bool.and_false]; exact Bool.false_ne_true)
    rw [e, e2]
    clear e e2 hA hB
    go_enter Tryd.func18, Tryd.ntmps18
    go_wp2_with fail
    refine (spec_GoodSum a.r a.k a.t a.lb a.l a.hb a.h _).mono ?_
    rintro e w1 ⟨rfl, hb1⟩
    rw [HA.out]
    have Ka21 : Hid (w1.cell? ⟨w.heap.size, 0, none⟩ = some (.int .i64 a.r) ∧ w1.cell? ⟨w.heap.size, 1, none⟩ = some (.int .i64 a.k) ∧ w1.cell? ⟨w.heap.size, 2, none⟩ = some (.int .i64 a.t) ∧ w1.cell? ⟨w.heap.size, 3, none⟩ = some (.bool a.lb) ∧ w1.cell? ⟨w.heap.size, 4, none⟩ = some (.int .i64 a.l) ∧ w1.cell? ⟨w.heap.size, 5, none⟩ = some (.bool a.hb) ∧ w1.cell? ⟨w.heap.size, 6, none⟩ = some (.int .i64 a.h)) := ⟨Frame.held_cell hb1 Ka1.out.1, Frame.held_cell hb1 Ka1.out.2.1, Frame.held_cell hb1 Ka1.out.2.2.1, Frame.held_cell hb1 Ka1.out.2.2.2.1, Frame.held_cell hb1 Ka1.out.2.2.2.2.1, Frame.held_cell hb1 Ka1.out.2.2.2.2.2.1, Frame.held_cell hb1 Ka1.out.2.2.2.2.2.2⟩
    have Kb22 : Hid (w1.cell? ⟨w.heap.size + 1, 0, none⟩ = some (.int .i64 b.r) ∧ w1.cell? ⟨w.heap.size + 1, 1, none⟩ = some (.int .i64 b.k) ∧ w1.cell? ⟨w.heap.size + 1, 2, none⟩ = some (.int .i64 b.t) ∧ w1.cell? ⟨w.heap.size + 1, 3, none⟩ = some (.bool b.lb) ∧ w1.cell? ⟨w.heap.size + 1, 4, none⟩ = some (.int .i64 b.l) ∧ w1.cell? ⟨w.heap.size + 1, 5, none⟩ = some (.bool b.hb) ∧ w1.cell? ⟨w.heap.size + 1, 6, none⟩ = some (.int .i64 b.h)) := ⟨Frame.held_cell hb1 Kb2.out.1, Frame.held_cell hb1 Kb2.out.2.1, Frame.held_cell hb1 Kb2.out.2.2.1, Frame.held_cell hb1 Kb2.out.2.2.2.1, Frame.held_cell hb1 Kb2.out.2.2.2.2.1, Frame.held_cell hb1 Kb2.out.2.2.2.2.2.1, Frame.held_cell hb1 Kb2.out.2.2.2.2.2.2⟩
    have Kr23 : Hid (w1.cell? ⟨w.heap.size + 1 + 1, 0, none⟩ = some (.int .i64 0) ∧ w1.cell? ⟨w.heap.size + 1 + 1, 1, none⟩ = some (.int .i64 0) ∧ w1.cell? ⟨w.heap.size + 1 + 1, 2, none⟩ = some (.int .i64 0) ∧ w1.cell? ⟨w.heap.size + 1 + 1, 3, none⟩ = some (.bool false) ∧ w1.cell? ⟨w.heap.size + 1 + 1, 4, none⟩ = some (.int .i64 0) ∧ w1.cell? ⟨w.heap.size + 1 + 1, 5, none⟩ = some (.bool false) ∧ w1.cell? ⟨w.heap.size + 1 + 1, 6, none⟩ = some (.int .i64 0) ∧ w1.frozen? ⟨w.heap.size + 1 + 1, 0, none⟩ = false ∧ w1.frozen? ⟨w.heap.size + 1 + 1, 1, none⟩ = false ∧ w1.frozen? ⟨w.heap.size + 1 + 1, 2, none⟩ = false ∧ w1.frozen? ⟨w.heap.size + 1 + 1, 3, none⟩ = false ∧ w1.frozen? ⟨w.heap.size + 1 + 1, 4, none⟩ = false ∧ w1.frozen? ⟨w.heap.size + 1 + 1, 5, none⟩ = false ∧ w1.frozen? ⟨w.heap.size + 1 + 1, 6, none⟩ = false) := ⟨Frame.held_cell hb1 Kr3.out.1, Frame.held_cell hb1 Kr3.out.2.1, Frame.held_cell hb1 Kr3.out.2.2.1, Frame.held_cell hb1 Kr3.out.2.2.2.1, Frame.held_cell hb1 Kr3.out.2.2.2.2.1, Frame.held_cell hb1 Kr3.out.2.2.2.2.2.1, Frame.held_cell hb1 Kr3.out.2.2.2.2.2.2.1, (hb1.frozen (p := ⟨w.heap.size + 1 + 1, 0, none⟩) (Frame.cell_lt Kr3.out.1)).trans Kr3.out.2.2.2.2.2.2.2.1, (hb1.frozen (p := ⟨w.heap.size + 1 + 1, 1, none⟩) (Frame.cell_lt Kr3.out.2.1)).trans Kr3.out.2.2.2.2.2.2.2.2.1, (hb1.frozen (p := ⟨w.heap.size + 1 + 1, 2, none⟩) (Frame.cell_lt Kr3.out.2.2.1)).trans Kr3.out.2.2.2.2.2.2.2.2.2.1, (hb1.frozen (p := ⟨w.heap.size + 1 + 1, 3, none⟩) (Frame.cell_lt Kr3.out.2.2.2.1)).trans Kr3.out.2.2.2.2.2.2.2.2.2.2.1, (hb1.frozen (p := ⟨w.heap.size + 1 + 1, 4, none⟩) (Frame.cell_lt Kr3.out.2.2.2.2.1)).trans Kr3.out.2.2.2.2.2.2.2.2.2.2.2.1, (hb1.frozen (p := ⟨w.heap.size + 1 + 1, 5, none⟩) (Frame.cell_lt Kr3.out.2.2.2.2.2.1)).trans Kr3.out.2.2.2.2.2.2.2.2.2.2.2.2.1, (hb1.frozen (p := ⟨w.heap.size + 1 + 1, 6, none⟩) (Frame.cell_lt Kr3.out.2.2.2.2.2.2.1)).trans Kr3.out.2.2.2.2.2.2.2.2.2.2.2.2.2⟩
    have B1 : Hid (Below w.heap.size w w1) := Frame.next B0.out hb1 B0.out.size
    clear hb1
    have qb24 := Kb22.out.1
    have qb25 := Kb22.out.2.1
    have qb26 := Kb22.out.2.2.1
    have qb27 := Kb22.out.2.2.2.1
    have qb28 := Kb22.out.2.2.2.2.1
    have qb29 := Kb22.out.2.2.2.2.2.1
    have qb30 := Kb22.out.2.2.2.2.2.2
    go_wp2_with fail
    refine (spec_GoodSum b.r b.k b.t b.lb b.l b.hb b.h _).mono ?_
    rintro e w2 ⟨rfl, hb2⟩
    rw [HB.out]
    clear qb24 qb25 qb26 qb27 qb28 qb29 qb30
    have Ka31 : Hid (w2.cell? ⟨w.heap.size, 0, none⟩ = some (.int .i64 a.r) ∧ w2.cell? ⟨w.heap.size, 1, none⟩ = some (.int .i64 a.k) ∧ w2.cell? ⟨w.heap.size, 2, none⟩ = some (.int .i64 a.t) ∧ w2.cell? ⟨w.heap.size, 3, none⟩ = some (.bool a.lb) ∧ w2.cell? ⟨w.heap.size, 4, none⟩ = some (.int .i64 a.l) ∧ w2.cell? ⟨w.heap.size, 5, none⟩ = some (.bool a.hb) ∧ w2.cell? ⟨w.heap.size, 6, none⟩ = some (.int .i64 a.h)) := ⟨Frame.held_cell hb2 Ka21.out.1, Frame.held_cell hb2 Ka21.out.2.1, Frame.held_cell hb2 Ka21.out.2.2.1, Frame.held_cell hb2 Ka21.out.2.2.2.1, Frame.held_cell hb2 Ka21.out.2.2.2.2.1, Frame.held_cell hb2 Ka21.out.2.2.2.2.2.1, Frame.held_cell hb2 Ka21.out.2.2.2.2.2.2⟩
    have Kb32 : Hid (w2.cell? ⟨w.heap.size + 1, 0, none⟩ = some (.int .i64 b.r) ∧ w2.cell? ⟨w.heap.size + 1, 1, none⟩ = some (.int .i64 b.k) ∧ w2.cell? ⟨w.heap.size + 1, 2, none⟩ = some (.int .i64 b.t) ∧ w2.cell? ⟨w.heap.size + 1, 3, none⟩ = some (.bool b.lb) ∧ w2.cell? ⟨w.heap.size + 1, 4, none⟩ = some (.int .i64 b.l) ∧ w2.cell? ⟨w.heap.size + 1, 5, none⟩ = some (.bool b.hb) ∧ w2.cell? ⟨w.heap.size + 1, 6, none⟩ = some (.int .i64 b.h)) := ⟨Frame.held_cell hb2 Kb22.out.1, Frame.held_cell hb2 Kb22.out.2.1, Frame.held_cell hb2 Kb22.out.2.2.1, Frame.held_cell hb2 Kb22.out.2.2.2.1, Frame.held_cell hb2 Kb22.out.2.2.2.2.1, Frame.held_cell hb2 Kb22.out.2.2.2.2.2.1, Frame.held_cell hb2 Kb22.out.2.2.2.2.2.2⟩
    have Kr33 : Hid (w2.cell? ⟨w.heap.size + 1 + 1, 0, none⟩ = some (.int .i64 0) ∧ w2.cell? ⟨w.heap.size + 1 + 1, 1, none⟩ = some (.int .i64 0) ∧ w2.cell? ⟨w.heap.size + 1 + 1, 2, none⟩ = some (.int .i64 0) ∧ w2.cell? ⟨w.heap.size + 1 + 1, 3, none⟩ = some (.bool false) ∧ w2.cell? ⟨w.heap.size + 1 + 1, 4, none⟩ = some (.int .i64 0) ∧ w2.cell? ⟨w.heap.size + 1 + 1, 5, none⟩ = some (.bool false) ∧ w2.cell? ⟨w.heap.size + 1 + 1, 6, none⟩ = some (.int .i64 0) ∧ w2.frozen? ⟨w.heap.size + 1 + 1, 0, none⟩ = false ∧ w2.frozen? ⟨w.heap.size + 1 + 1, 1, none⟩ = false ∧ w2.frozen? ⟨w.heap.size + 1 + 1, 2, none⟩ = false ∧ w2.frozen? ⟨w.heap.size + 1 + 1, 3, none⟩ = false ∧ w2.frozen? ⟨w.heap.size + 1 + 1, 4, none⟩ = false ∧ w2.frozen? ⟨w.heap.size + 1 + 1, 5, none⟩ = false ∧ w2.frozen? ⟨w.heap.size + 1 + 1, 6, none⟩ = false) := ⟨Frame.held_cell hb2 Kr23.out.1, Frame.held_cell hb2 Kr23.out.2.1, Frame.held_cell hb2 Kr23.out.2.2.1, Frame.held_cell hb2 Kr23.out.2.2.2.1, Frame.held_cell hb2 Kr23.out.2.2.2.2.1, Frame.held_cell hb2 Kr23.out.2.2.2.2.2.1, Frame.held_cell hb2 Kr23.out.2.2.2.2.2.2.1, (hb2.frozen (p := ⟨w.heap.size + 1 + 1, 0, none⟩) (Frame.cell_lt Kr23.out.1)).trans Kr23.out.2.2.2.2.2.2.2.1, (hb2.frozen (p := ⟨w.heap.size + 1 + 1, 1, none⟩) (Frame.cell_lt Kr23.out.2.1)).trans Kr23.out.2.2.2.2.2.2.2.2.1, (hb2.frozen (p := ⟨w.heap.size + 1 + 1, 2, none⟩) (Frame.cell_lt Kr23.out.2.2.1)).trans Kr23.out.2.2.2.2.2.2.2.2.2.1, (hb2.frozen (p := ⟨w.heap.size + 1 + 1, 3, none⟩) (Frame.cell_lt Kr23.out.2.2.2.1)).trans Kr23.out.2.2.2.2.2.2.2.2.2.2.1, (hb2.frozen (p := ⟨w.heap.size + 1 + 1, 4, none⟩) (Frame.cell_lt Kr23.out.2.2.2.2.1)).trans Kr23.out.2.2.2.2.2.2.2.2.2.2.2.1, (hb2.frozen (p := ⟨w.heap.size + 1 + 1, 5, none⟩) (Frame.cell_lt Kr23.out.2.2.2.2.2.1)).trans Kr23.out.2.2.2.2.2.2.2.2.2.2.2.2.1, (hb2.frozen (p := ⟨w.heap.size + 1 + 1, 6, none⟩) (Frame.cell_lt Kr23.out.2.2.2.2.2.2.1)).trans Kr23.out.2.2.2.2.2.2.2.2.2.2.2.2.2⟩
    have B2 : Hid (Below w.heap.size w w2) := Frame.next B1.out hb2 B1.out.size
    clear hb2
    have qr34 := Kr33.out.1
    have qr35 := Kr33.out.2.1
    have qr36 := Kr33.out.2.2.1
    have qr37 := Kr33.out.2.2.2.1
    have qr38 := Kr33.out.2.2.2.2.1
    have qr39 := Kr33.out.2.2.2.2.2.1
    have qr40 := Kr33.out.2.2.2.2.2.2.1
    have qr41 := Kr33.out.2.2.2.2.2.2.2.1
    have qr42 := Kr33.out.2.2.2.2.2.2.2.2.1
    have qr43 := Kr33.out.2.2.2.2.2.2.2.2.2.1
    have qr44 := Kr33.out.2.2.2.2.2.2.2.2.2.2.1
    have qr45 := Kr33.out.2.2.2.2.2.2.2.2.2.2.2.1
    have qr46 := Kr33.out.2.2.2.2.2.2.2.2.2.2.2.2.1
    have qr47 := Kr33.out.2.2.2.2.2.2.2.2.2.2.2.2.2
    go_wp2
    refine bodyPost_ret (v := .tuple #[.agg #[.int .i64 0, .int .i64 0, .int .i64 0, .bool false, .int .i64 0, .bool false, .int .i64 0], .bool false]) (by simp [results, Tryd.results18, go_sem, qr34, qr35, qr36, qr37, qr38, qr39, qr40]) rfl ?_
    exact ⟨rfl, (((((((B2.out.setCell hr _).setCell hr _).setCell hr _).setCell hr _).setCell hr _).setCell hr _).setCell hr _)⟩
  have HB : Hid (goodS b.r b.k b.t b.lb b.l b.hb b.h = true) := hB
  have e : addB a b = (tog a b).good := by unfold addB; rw [hA, hB]; rfl
  have e2 : addV a b = fit (tog a b) := if_pos (by rw [hA, hB]; rfl)
  rw [e, e2]
  clear e e2
  have TI := tog_is hA hB
  obtain ⟨a1, a2, a3, a4⟩ := good_counts hA
  obtain ⟨b1, b2, b3, b4⟩ := good_counts hB
  have t1 := (good_parts hA).1
  have t2 := (good_parts hB).1
  have e1 : wrap64 (a.r + b.r) = a.r + b.r := by unfold wrap64; omega
  have e2 : wrap64 (a.k + b.k) = a.k + b.k := by unfold wrap64; omega
  have e3 : wrap64 (a.t + b.t) = a.t + b.t := by unfold wrap64; omega
  have EW : Hid (wrap64 (a.r + b.r) = a.r + b.r ∧ wrap64 (a.k + b.k) = a.k + b.k ∧ wrap64 (a.t + b.t) = a.t + b.t) := ⟨e1, e2, e3⟩
  clear hA hB a1 a2 a3 a4 b1 b2 b4 t1 t2 e1 e2 e3
  cases hk : (a.k == 0)
  · by_cases hb : 0 < b.k
    · by_cases hl : b.l < a.l
      · by_cases hh : a.h < b.h
        · skip
          have T : tog a b = (⟨a.r + b.r, a.k + b.k, a.t + b.t, b.lb, b.l, b.hb, b.h⟩ : Sm) := by rw [TI, show lowB a b = true from by unfold lowB; simp [hk, hb, hl], show highB a b = true from by unfold highB; simp [hk, hb, hh]]; rfl
          rw [T]
          clear T TI
          cases hG : goodS (a.r + b.r) (a.k + b.k) (a.t + b.t) b.lb b.l b.hb b.h
          · have HG : Hid (goodS (a.r + b.r) (a.k + b.k) (a.t + b.t) b.lb b.l b.hb b.h = false) := hG
            have e : fit (⟨a.r + b.r, a.k + b.k, a.t + b.t, b.lb, b.l, b.hb, b.h⟩ : Sm) = zeroS := if_neg (by unfold Sm.good; rw [hG]; exact Bool.false_ne_true)
            have e' : (⟨a.r + b.r, a.k + b.k, a.t + b.t, b.lb, b.l, b.hb, b.h⟩ : Sm).good = false := hG
            rw [e, e']
            clear e e' hG
            go_enter Tryd.func18, Tryd.ntmps18
            go_wp2_with fail
            refine (spec_GoodSum a.r a.k a.t a.lb a.l a.hb a.h _).mono ?_
            rintro e w1 ⟨rfl, hb1⟩
            rw [HA.out]
            have Ka48 : Hid (w1.cell? ⟨w.heap.size, 0, none⟩ = some (.int .i64 a.r) ∧ w1.cell? ⟨w.heap.size, 1, none⟩ = some (.int .i64 a.k) ∧ w1.cell? ⟨w.heap.size, 2, none⟩ = some (.int .i64 a.t) ∧ w1.cell? ⟨w.heap.size, 3, none⟩ = some (.bool a.lb) ∧ w1.cell? ⟨w.heap.size, 4, none⟩ = some (.int .i64 a.l) ∧ w1.cell? ⟨w.heap.size, 5, none⟩ = some (.bool a.hb) ∧ w1.cell? ⟨w.heap.size, 6, none⟩ = some (.int .i64 a.h)) := ⟨Frame.held_cell hb1 Ka1.out.1, Frame.held_cell hb1 Ka1.out.2.1, Frame.held_cell hb1 Ka1.out.2.2.1, Frame.held_cell hb1 Ka1.out.2.2.2.1, Frame.held_cell hb1 Ka1.out.2.2.2.2.1, Frame.held_cell hb1 Ka1.out.2.2.2.2.2.1, Frame.held_cell hb1 Ka1.out.2.2.2.2.2.2⟩
            have Kb49 : Hid (w1.cell? ⟨w.heap.size + 1, 0, none⟩ = some (.int .i64 b.r) ∧ w1.cell? ⟨w.heap.size + 1, 1, none⟩ = some (.int .i64 b.k) ∧ w1.cell? ⟨w.heap.size + 1, 2, none⟩ = some (.int .i64 b.t) ∧ w1.cell? ⟨w.heap.size + 1, 3, none⟩ = some (.bool b.lb) ∧ w1.cell? ⟨w.heap.size + 1, 4, none⟩ = some (.int .i64 b.l) ∧ w1.cell? ⟨w.heap.size + 1, 5, none⟩ = some (.bool b.hb) ∧ w1.cell? ⟨w.heap.size + 1, 6, none⟩ = some (.int .i64 b.h)) := ⟨Frame.held_cell hb1 Kb2.out.1, Frame.held_cell hb1 Kb2.out.2.1, Frame.held_cell hb1 Kb2.out.2.2.1, Frame.held_cell hb1 Kb2.out.2.2.2.1, Frame.held_cell hb1 Kb2.out.2.2.2.2.1, Frame.held_cell hb1 Kb2.out.2.2.2.2.2.1, Frame.held_cell hb1 Kb2.out.2.2.2.2.2.2⟩
            have Kr50 : Hid (w1.cell? ⟨w.heap.size + 1 + 1, 0, none⟩ = some (.int .i64 0) ∧ w1.cell? ⟨w.heap.size + 1 + 1, 1, none⟩ = some (.int .i64 0) ∧ w1.cell? ⟨w.heap.size + 1 + 1, 2, none⟩ = some (.int .i64 0) ∧ w1.cell? ⟨w.heap.size + 1 + 1, 3, none⟩ = some (.bool false) ∧ w1.cell? ⟨w.heap.size + 1 + 1, 4, none⟩ = some (.int .i64 0) ∧ w1.cell? ⟨w.heap.size + 1 + 1, 5, none⟩ = some (.bool false) ∧ w1.cell? ⟨w.heap.size + 1 + 1, 6, none⟩ = some (.int .i64 0) ∧ w1.frozen? ⟨w.heap.size + 1 + 1, 0, none⟩ = false ∧ w1.frozen? ⟨w.heap.size + 1 + 1, 1, none⟩ = false ∧ w1.frozen? ⟨w.heap.size + 1 + 1, 2, none⟩ = false ∧ w1.frozen? ⟨w.heap.size + 1 + 1, 3, none⟩ = false ∧ w1.frozen? ⟨w.heap.size + 1 + 1, 4, none⟩ = false ∧ w1.frozen? ⟨w.heap.size + 1 + 1, 5, none⟩ = false ∧ w1.frozen? ⟨w.heap.size + 1 + 1, 6, none⟩ = false) := ⟨Frame.held_cell hb1 Kr3.out.1, Frame.held_cell hb1 Kr3.out.2.1, Frame.held_cell hb1 Kr3.out.2.2.1, Frame.held_cell hb1 Kr3.out.2.2.2.1, Frame.held_cell hb1 Kr3.out.2.2.2.2.1, Frame.held_cell hb1 Kr3.out.2.2.2.2.2.1, Frame.held_cell hb1 Kr3.out.2.2.2.2.2.2.1, (hb1.frozen (p := ⟨w.heap.size + 1 + 1, 0, none⟩) (Frame.cell_lt Kr3.out.1)).trans Kr3.out.2.2.2.2.2.2.2.1, (hb1.frozen (p := ⟨w.heap.size + 1 + 1, 1, none⟩) (Frame.cell_lt Kr3.out.2.1)).trans Kr3.out.2.2.2.2.2.2.2.2.1, (hb1.frozen (p := ⟨w.heap.size + 1 + 1, 2, none⟩) (Frame.cell_lt Kr3.out.2.2.1)).trans Kr3.out.2.2.2.2.2.2.2.2.2.1, (hb1.frozen (p := ⟨w.heap.size + 1 + 1, 3, none⟩) (Frame.cell_lt Kr3.out.2.2.2.1)).trans Kr3.out.2.2.2.2.2.2.2.2.2.2.1, (hb1.frozen (p := ⟨w.heap.size + 1 + 1, 4, none⟩) (Frame.cell_lt Kr3.out.2.2.2.2.1)).trans Kr3.out.2.2.2.2.2.2.2.2.2.2.2.1, (hb1.frozen (p := ⟨w.heap.size + 1 + 1, 5, none⟩) (Frame.cell_lt Kr3.out.2.2.2.2.2.1)).trans Kr3.out.2.2.2.2.2.2.2.2.2.2.2.2.1, (hb1.frozen (p := ⟨w.heap.size + 1 + 1, 6, none⟩) (Frame.cell_lt Kr3.out.2.2.2.2.2.2.1)).trans Kr3.out.2.2.2.2.2.2.2.2.2.2.2.2.2⟩
            have B1 : Hid (Below w.heap.size w w1) := Frame.next B0.out hb1 B0.out.size
            clear hb1
            have qb51 := Kb49.out.1
            have qb52 := Kb49.out.2.1
            have qb53 := Kb49.out.2.2.1
            have qb54 := Kb49.out.2.2.2.1
            have qb55 := Kb49.out.2.2.2.2.1
            have qb56 := Kb49.out.2.2.2.2.2.1
            have qb57 := Kb49.out.2.2.2.2.2.2
            go_wp2_with fail
            refine (spec_GoodSum b.r b.k b.t b.lb b.l b.hb b.h _).mono ?_
            rintro e w2 ⟨rfl, hb2⟩
            rw [HB.out]
            clear qb51 qb52 qb53 qb54 qb55 qb56 qb57
            have Ka58 : Hid (w2.cell? ⟨w.heap.size, 0, none⟩ = some (.int .i64 a.r) ∧ w2.cell? ⟨w.heap.size, 1, none⟩ = some (.int .i64 a.k) ∧ w2.cell? ⟨w.heap.size, 2, none⟩ = some (.int .i64 a.t) ∧ w2.cell? ⟨w.heap.size, 3, none⟩ = some (.bool a.lb) ∧ w2.cell? ⟨w.heap.size, 4, none⟩ = some (.int .i64 a.l) ∧ w2.cell? ⟨w.heap.size, 5, none⟩ = some (.bool a.hb) ∧ w2.cell? ⟨w.heap.size, 6, none⟩ = some (.int .i64 a.h)) := ⟨Frame.held_cell hb2 Ka48.out.1, Frame.held_cell hb2 Ka48.out.2.1, Frame.held_cell hb2 Ka48.out.2.2.1, Frame.held_cell hb2 Ka48.out.2.2.2.1, Frame.held_cell hb2 Ka48.out.2.2.2.2.1, Frame.held_cell hb2 Ka48.out.2.2.2.2.2.1, Frame.held_cell hb2 Ka48.out.2.2.2.2.2.2⟩
            have Kb59 : Hid (w2.cell? ⟨w.heap.size + 1, 0, none⟩ = some (.int .i64 b.r) ∧ w2.cell? ⟨w.heap.size + 1, 1, none⟩ = some (.int .i64 b.k) ∧ w2.cell? ⟨w.heap.size + 1, 2, none⟩ = some (.int .i64 b.t) ∧ w2.cell? ⟨w.heap.size + 1, 3, none⟩ = some (.bool b.lb) ∧ w2.cell? ⟨w.heap.size + 1, 4, none⟩ = some (.int .i64 b.l) ∧ w2.cell? ⟨w.heap.size + 1, 5, none⟩ = some (.bool b.hb) ∧ w2.cell? ⟨w.heap.size + 1, 6, none⟩ = some (.int .i64 b.h)) := ⟨Frame.held_cell hb2 Kb49.out.1, Frame.held_cell hb2 Kb49.out.2.1, Frame.held_cell hb2 Kb49.out.2.2.1, Frame.held_cell hb2 Kb49.out.2.2.2.1, Frame.held_cell hb2 Kb49.out.2.2.2.2.1, Frame.held_cell hb2 Kb49.out.2.2.2.2.2.1, Frame.held_cell hb2 Kb49.out.2.2.2.2.2.2⟩
            have Kr60 : Hid (w2.cell? ⟨w.heap.size + 1 + 1, 0, none⟩ = some (.int .i64 0) ∧ w2.cell? ⟨w.heap.size + 1 + 1, 1, none⟩ = some (.int .i64 0) ∧ w2.cell? ⟨w.heap.size + 1 + 1, 2, none⟩ = some (.int .i64 0) ∧ w2.cell? ⟨w.heap.size + 1 + 1, 3, none⟩ = some (.bool false) ∧ w2.cell? ⟨w.heap.size + 1 + 1, 4, none⟩ = some (.int .i64 0) ∧ w2.cell? ⟨w.heap.size + 1 + 1, 5, none⟩ = some (.bool false) ∧ w2.cell? ⟨w.heap.size + 1 + 1, 6, none⟩ = some (.int .i64 0) ∧ w2.frozen? ⟨w.heap.size + 1 + 1, 0, none⟩ = false ∧ w2.frozen? ⟨w.heap.size + 1 + 1, 1, none⟩ = false ∧ w2.frozen? ⟨w.heap.size + 1 + 1, 2, none⟩ = false ∧ w2.frozen? ⟨w.heap.size + 1 + 1, 3, none⟩ = false ∧ w2.frozen? ⟨w.heap.size + 1 + 1, 4, none⟩ = false ∧ w2.frozen? ⟨w.heap.size + 1 + 1, 5, none⟩ = false ∧ w2.frozen? ⟨w.heap.size + 1 + 1, 6, none⟩ = false) := ⟨Frame.held_cell hb2 Kr50.out.1, Frame.held_cell hb2 Kr50.out.2.1, Frame.held_cell hb2 Kr50.out.2.2.1, Frame.held_cell hb2 Kr50.out.2.2.2.1, Frame.held_cell hb2 Kr50.out.2.2.2.2.1, Frame.held_cell hb2 Kr50.out.2.2.2.2.2.1, Frame.held_cell hb2 Kr50.out.2.2.2.2.2.2.1, (hb2.frozen (p := ⟨w.heap.size + 1 + 1, 0, none⟩) (Frame.cell_lt Kr50.out.1)).trans Kr50.out.2.2.2.2.2.2.2.1, (hb2.frozen (p := ⟨w.heap.size + 1 + 1, 1, none⟩) (Frame.cell_lt Kr50.out.2.1)).trans Kr50.out.2.2.2.2.2.2.2.2.1, (hb2.frozen (p := ⟨w.heap.size + 1 + 1, 2, none⟩) (Frame.cell_lt Kr50.out.2.2.1)).trans Kr50.out.2.2.2.2.2.2.2.2.2.1, (hb2.frozen (p := ⟨w.heap.size + 1 + 1, 3, none⟩) (Frame.cell_lt Kr50.out.2.2.2.1)).trans Kr50.out.2.2.2.2.2.2.2.2.2.2.1, (hb2.frozen (p := ⟨w.heap.size + 1 + 1, 4, none⟩) (Frame.cell_lt Kr50.out.2.2.2.2.1)).trans Kr50.out.2.2.2.2.2.2.2.2.2.2.2.1, (hb2.frozen (p := ⟨w.heap.size + 1 + 1, 5, none⟩) (Frame.cell_lt Kr50.out.2.2.2.2.2.1)).trans Kr50.out.2.2.2.2.2.2.2.2.2.2.2.2.1, (hb2.frozen (p := ⟨w.heap.size + 1 + 1, 6, none⟩) (Frame.cell_lt Kr50.out.2.2.2.2.2.2.1)).trans Kr50.out.2.2.2.2.2.2.2.2.2.2.2.2.2⟩
            have B2 : Hid (Below w.heap.size w w2) := Frame.next B1.out hb2 B1.out.size
            clear hb2
            have qa61 := Ka58.out.1
            have qa62 := Ka58.out.2.1
            have qa63 := Ka58.out.2.2.1
            have qa64 := Ka58.out.2.2.2.1
            have qa65 := Ka58.out.2.2.2.2.1
            have qa66 := Ka58.out.2.2.2.2.2.1
            have qa67 := Ka58.out.2.2.2.2.2.2
            have qb68 := Kb59.out.1
            have qb69 := Kb59.out.2.1
            have qb70 := Kb59.out.2.2.1
            have qb71 := Kb59.out.2.2.2.1
            have qb72 := Kb59.out.2.2.2.2.1
            have qb73 := Kb59.out.2.2.2.2.2.1
            have qb74 := Kb59.out.2.2.2.2.2.2
            have l1 : w.heap.size < w2.heap.size := Frame.cell_lt qa61
            have l2 : w.heap.size + 1 < w2.heap.size := Frame.cell_lt qb68
            go_wp2_with fail
            rw [EW.out.1, EW.out.2.1, EW.out.2.2]
            refine (spec_GoodSum _ _ _ _ _ _ _ _).mono ?_
            rintro e w3 ⟨rfl, hb3⟩
            rw [HG.out]
            clear qa61 qa62 qa63 qa64 qa65 qa66 qa67 qb68 qb69 qb70 qb71 qb72 qb73 qb74
            have hz3 := hb3.size
            rw [World.size_alloc] at hz3
            have bw : Below w2.heap.size w2 w3 := Frame.next ((Below.refl _ _).alloc (Nat.le_refl _) _) hb3 (by simp)
            have Ka75 : Hid (w3.cell? ⟨w.heap.size, 0, none⟩ = some (.int .i64 a.r) ∧ w3.cell? ⟨w.heap.size, 1, none⟩ = some (.int .i64 a.k) ∧ w3.cell? ⟨w.heap.size, 2, none⟩ = some (.int .i64 a.t) ∧ w3.cell? ⟨w.heap.size, 3, none⟩ = some (.bool a.lb) ∧ w3.cell? ⟨w.heap.size, 4, none⟩ = some (.int .i64 a.l) ∧ w3.cell? ⟨w.heap.size, 5, none⟩ = some (.bool a.hb) ∧ w3.cell? ⟨w.heap.size, 6, none⟩ = some (.int .i64 a.h)) := ⟨Frame.held_cell bw Ka58.out.1, Frame.held_cell bw Ka58.out.2.1, Frame.held_cell bw Ka58.out.2.2.1, Frame.held_cell bw Ka58.out.2.2.2.1, Frame.held_cell bw Ka58.out.2.2.2.2.1, Frame.held_cell bw Ka58.out.2.2.2.2.2.1, Frame.held_cell bw Ka58.out.2.2.2.2.2.2⟩
            have Kb76 : Hid (w3.cell? ⟨w.heap.size + 1, 0, none⟩ = some (.int .i64 b.r) ∧ w3.cell? ⟨w.heap.size + 1, 1, none⟩ = some (.int .i64 b.k) ∧ w3.cell? ⟨w.heap.size + 1, 2, none⟩ = some (.int .i64 b.t) ∧ w3.cell? ⟨w.heap.size + 1, 3, none⟩ = some (.bool b.lb) ∧ w3.cell? ⟨w.heap.size + 1, 4, none⟩ = some (.int .i64 b.l) ∧ w3.cell? ⟨w.heap.size + 1, 5, none⟩ = some (.bool b.hb) ∧ w3.cell? ⟨w.heap.size + 1, 6, none⟩ = some (.int .i64 b.h)) := ⟨Frame.held_cell bw Kb59.out.1, Frame.held_cell bw Kb59.out.2.1, Frame.held_cell bw Kb59.out.2.2.1, Frame.held_cell bw Kb59.out.2.2.2.1, Frame.held_cell bw Kb59.out.2.2.2.2.1, Frame.held_cell bw Kb59.out.2.2.2.2.2.1, Frame.held_cell bw Kb59.out.2.2.2.2.2.2⟩
            have Kr77 : Hid (w3.cell? ⟨w.heap.size + 1 + 1, 0, none⟩ = some (.int .i64 0) ∧ w3.cell? ⟨w.heap.size + 1 + 1, 1, none⟩ = some (.int .i64 0) ∧ w3.cell? ⟨w.heap.size + 1 + 1, 2, none⟩ = some (.int .i64 0) ∧ w3.cell? ⟨w.heap.size + 1 + 1, 3, none⟩ = some (.bool false) ∧ w3.cell? ⟨w.heap.size + 1 + 1, 4, none⟩ = some (.int .i64 0) ∧ w3.cell? ⟨w.heap.size + 1 + 1, 5, none⟩ = some (.bool false) ∧ w3.cell? ⟨w.heap.size + 1 + 1, 6, none⟩ = some (.int .i64 0) ∧ w3.frozen? ⟨w.heap.size + 1 + 1, 0, none⟩ = false ∧ w3.frozen? ⟨w.heap.size + 1 + 1, 1, none⟩ = false ∧ w3.frozen? ⟨w.heap.size + 1 + 1, 2, none⟩ = false ∧ w3.frozen? ⟨w.heap.size + 1 + 1, 3, none⟩ = false ∧ w3.frozen? ⟨w.heap.size + 1 + 1, 4, none⟩ = false ∧ w3.frozen? ⟨w.heap.size + 1 + 1, 5, none⟩ = false ∧ w3.frozen? ⟨w.heap.size + 1 + 1, 6, none⟩ = false) := ⟨Frame.held_cell bw Kr60.out.1, Frame.held_cell bw Kr60.out.2.1, Frame.held_cell bw Kr60.out.2.2.1, Frame.held_cell bw Kr60.out.2.2.2.1, Frame.held_cell bw Kr60.out.2.2.2.2.1, Frame.held_cell bw Kr60.out.2.2.2.2.2.1, Frame.held_cell bw Kr60.out.2.2.2.2.2.2.1, (bw.frozen (p := ⟨w.heap.size + 1 + 1, 0, none⟩) (Frame.cell_lt Kr60.out.1)).trans Kr60.out.2.2.2.2.2.2.2.1, (bw.frozen (p := ⟨w.heap.size + 1 + 1, 1, none⟩) (Frame.cell_lt Kr60.out.2.1)).trans Kr60.out.2.2.2.2.2.2.2.2.1, (bw.frozen (p := ⟨w.heap.size + 1 + 1, 2, none⟩) (Frame.cell_lt Kr60.out.2.2.1)).trans Kr60.out.2.2.2.2.2.2.2.2.2.1, (bw.frozen (p := ⟨w.heap.size + 1 + 1, 3, none⟩) (Frame.cell_lt Kr60.out.2.2.2.1)).trans Kr60.out.2.2.2.2.2.2.2.2.2.2.1, (bw.frozen (p := ⟨w.heap.size + 1 + 1, 4, none⟩) (Frame.cell_lt Kr60.out.2.2.2.2.1)).trans Kr60.out.2.2.2.2.2.2.2.2.2.2.2.1, (bw.frozen (p := ⟨w.heap.size + 1 + 1, 5, none⟩) (Frame.cell_lt Kr60.out.2.2.2.2.2.1)).trans Kr60.out.2.2.2.2.2.2.2.2.2.2.2.2.1, (bw.frozen (p := ⟨w.heap.size + 1 + 1, 6, none⟩) (Frame.cell_lt Kr60.out.2.2.2.2.2.2.1)).trans Kr60.out.2.2.2.2.2.2.2.2.2.2.2.2.2⟩
            have o0 : w3.cell? ⟨w2.heap.size, 0, none⟩ = some (.int .i64 (a.r + b.r)) := by rw [(Frame.bcell hb3).1 _ _ (by simp)]; go_simp
            have o1 : w3.cell? ⟨w2.heap.size, 1, none⟩ = some (.int .i64 (a.k + b.k)) := by rw [(Frame.bcell hb3).1 _ _ (by simp)]; go_simp
            have o2 : w3.cell? ⟨w2.heap.size, 2, none⟩ = some (.int .i64 (a.t + b.t)) := by rw [(Frame.bcell hb3).1 _ _ (by simp)]; go_simp
            have o3 : w3.cell? ⟨w2.heap.size, 3, none⟩ = some (.bool b.lb) := by rw [(Frame.bcell hb3).1 _ _ (by simp)]; go_simp
            have o4 : w3.cell? ⟨w2.heap.size, 4, none⟩ = some (.int .i64 b.l) := by rw [(Frame.bcell hb3).1 _ _ (by simp)]; go_simp
            have o5 : w3.cell? ⟨w2.heap.size, 5, none⟩ = some (.bool b.hb) := by rw [(Frame.bcell hb3).1 _ _ (by simp)]; go_simp
            have o6 : w3.cell? ⟨w2.heap.size, 6, none⟩ = some (.int .i64 b.h) := by rw [(Frame.bcell hb3).1 _ _ (by simp)]; go_simp
            have B3 : Hid (Below w.heap.size w w3) := Frame.next B2.out bw B2.out.size
            clear hb3 bw
            have qr78 := Kr77.out.1
            have qr79 := Kr77.out.2.1
            have qr80 := Kr77.out.2.2.1
            have qr81 := Kr77.out.2.2.2.1
            have qr82 := Kr77.out.2.2.2.2.1
            have qr83 := Kr77.out.2.2.2.2.2.1
            have qr84 := Kr77.out.2.2.2.2.2.2.1
            have qr85 := Kr77.out.2.2.2.2.2.2.2.1
            have qr86 := Kr77.out.2.2.2.2.2.2.2.2.1
            have qr87 := Kr77.out.2.2.2.2.2.2.2.2.2.1
            have qr88 := Kr77.out.2.2.2.2.2.2.2.2.2.2.1
            have qr89 := Kr77.out.2.2.2.2.2.2.2.2.2.2.2.1
            have qr90 := Kr77.out.2.2.2.2.2.2.2.2.2.2.2.2.1
            have qr91 := Kr77.out.2.2.2.2.2.2.2.2.2.2.2.2.2
            go_wp2
            refine bodyPost_ret (v := .tuple #[.agg #[.int .i64 0, .int .i64 0, .int .i64 0, .bool false, .int .i64 0, .bool false, .int .i64 0], .bool false]) (by simp [results, Tryd.results18, go_sem, qr78, qr79, qr80, qr81, qr82, qr83, qr84]) rfl ?_
            exact ⟨rfl, (((((((B3.out.setCell hr _).setCell hr _).setCell hr _).setCell hr _).setCell hr _).setCell hr _).setCell hr _)⟩
          · have HG : Hid (goodS (a.r + b.r) (a.k + b.k) (a.t + b.t) b.lb b.l b.hb b.h = true) := hG
            have e : fit (⟨a.r + b.r, a.k + b.k, a.t + b.t, b.lb, b.l, b.hb, b.h⟩ : Sm) = (⟨a.r + b.r, a.k + b.k, a.t + b.t, b.lb, b.l, b.hb, b.h⟩ : Sm) := if_pos hG
            have e' : (⟨a.r + b.r, a.k + b.k, a.t + b.t, b.lb, b.l, b.hb, b.h⟩ : Sm).good = true := hG
            rw [e, e']
            clear e e' hG
            go_enter Tryd.func18, Tryd.ntmps18
            go_wp2_with fail
            refine (spec_GoodSum a.r a.k a.t a.lb a.l a.hb a.h _).mono ?_
            rintro e w1 ⟨rfl, hb1⟩
            rw [HA.out]
            have Ka92 : Hid (w1.cell? ⟨w.heap.size, 0, none⟩ = some (.int .i64 a.r) ∧ w1.cell? ⟨w.heap.size, 1, none⟩ = some (.int .i64 a.k) ∧ w1.cell? ⟨w.heap.size, 2, none⟩ = some (.int .i64 a.t) ∧ w1.cell? ⟨w.heap.size, 3, none⟩ = some (.bool a.lb) ∧ w1.cell? ⟨w.heap.size, 4, none⟩ = some (.int .i64 a.l) ∧ w1.cell? ⟨w.heap.size, 5, none⟩ = some (.bool a.hb) ∧ w1.cell? ⟨w.heap.size, 6, none⟩ = some (.int .i64 a.h)) := ⟨Frame.held_cell hb1 Ka1.out.1, Frame.held_cell hb1 Ka1.out.2.1, Frame.held_cell hb1 Ka1.out.2.2.1, Frame.held_cell hb1 Ka1.out.2.2.2.1, Frame.held_cell hb1 Ka1.out.2.2.2.2.1, Frame.held_cell hb1 Ka1.out.2.2.2.2.2.1, Frame.held_cell hb1 Ka1.out.2.2.2.2.2.2⟩
            have Kb93 : Hid (w1.cell? ⟨w.heap.size + 1, 0, none⟩ = some (.int .i64 b.r) ∧ w1.cell? ⟨w.heap.size + 1, 1, none⟩ = some (.int .i64 b.k) ∧ w1.cell? ⟨w.heap.size + 1, 2, none⟩ = some (.int .i64 b.t) ∧ w1.cell? ⟨w.heap.size + 1, 3, none⟩ = some (.bool b.lb) ∧ w1.cell? ⟨w.heap.size + 1, 4, none⟩ = some (.int .i64 b.l) ∧ w1.cell? ⟨w.heap.size + 1, 5, none⟩ = some (.bool b.hb) ∧ w1.cell? ⟨w.heap.size + 1, 6, none⟩ = some (.int .i64 b.h)) := ⟨Frame.held_cell hb1 Kb2.out.1, Frame.held_cell hb1 Kb2.out.2.1, Frame.held_cell hb1 Kb2.out.2.2.1, Frame.held_cell hb1 Kb2.out.2.2.2.1, Frame.held_cell hb1 Kb2.out.2.2.2.2.1, Frame.held_cell hb1 Kb2.out.2.2.2.2.2.1, Frame.held_cell hb1 Kb2.out.2.2.2.2.2.2⟩
            have Kr94 : Hid (w1.cell? ⟨w.heap.size + 1 + 1, 0, none⟩ = some (.int .i64 0) ∧ w1.cell? ⟨w.heap.size + 1 + 1, 1, none⟩ = some (.int .i64 0) ∧ w1.cell? ⟨w.heap.size + 1 + 1, 2, none⟩ = some (.int .i64 0) ∧ w1.cell? ⟨w.heap.size + 1 + 1, 3, none⟩ = some (.bool false) ∧ w1.cell? ⟨w.heap.size + 1 + 1, 4, none⟩ = some (.int .i64 0) ∧ w1.cell? ⟨w.heap.size + 1 + 1, 5, none⟩ = some (.bool false) ∧ w1.cell? ⟨w.heap.size + 1 + 1, 6, none⟩ = some (.int .i64 0) ∧ w1.frozen? ⟨w.heap.size + 1 + 1, 0, none⟩ = false ∧ w1.frozen? ⟨w.heap.size + 1 + 1, 1, none⟩ = false ∧ w1.frozen? ⟨w.heap.size + 1 + 1, 2, none⟩ = false ∧ w1.frozen? ⟨w.heap.size + 1 + 1, 3, none⟩ = false ∧ w1.frozen? ⟨w.heap.size + 1 + 1, 4, none⟩ = false ∧ w1.frozen? ⟨w.heap.size + 1 + 1, 5, none⟩ = false ∧ w1.frozen? ⟨w.heap.size + 1 + 1, 6, none⟩ = false) := ⟨Frame.held_cell hb1 Kr3.out.1, Frame.held_cell hb1 Kr3.out.2.1, Frame.held_cell hb1 Kr3.out.2.2.1, Frame.held_cell hb1 Kr3.out.2.2.2.1, Frame.held_cell hb1 Kr3.out.2.2.2.2.1, Frame.held_cell hb1 Kr3.out.2.2.2.2.2.1, Frame.held_cell hb1 Kr3.out.2.2.2.2.2.2.1, (hb1.frozen (p := ⟨w.heap.size + 1 + 1, 0, none⟩) (Frame.cell_lt Kr3.out.1)).trans Kr3.out.2.2.2.2.2.2.2.1, (hb1.frozen (p := ⟨w.heap.size + 1 + 1, 1, none⟩) (Frame.cell_lt Kr3.out.2.1)).trans Kr3.out.2.2.2.2.2.2.2.2.1, (hb1.frozen (p := ⟨w.heap.size + 1 + 1, 2, none⟩) (Frame.cell_lt Kr3.out.2.2.1)).trans Kr3.out.2.2.2.2.2.2.2.2.2.1, (hb1.frozen (p := ⟨w.heap.size + 1 + 1, 3, none⟩) (Frame.cell_lt Kr3.out.2.2.2.1)).trans Kr3.out.2.2.2.2.2.2.2.2.2.2.1, (hb1.frozen (p := ⟨w.heap.size + 1 + 1, 4, none⟩) (Frame.cell_lt Kr3.out.2.2.2.2.1)).trans Kr3.out.2.2.2.2.2.2.2.2.2.2.2.1, (hb1.frozen (p := ⟨w.heap.size + 1 + 1, 5, none⟩) (Frame.cell_lt Kr3.out.2.2.2.2.2.1)).trans Kr3.out.2.2.2.2.2.2.2.2.2.2.2.2.1, (hb1.frozen (p := ⟨w.heap.size + 1 + 1, 6, none⟩) (Frame.cell_lt Kr3.out.2.2.2.2.2.2.1)).trans Kr3.out.2.2.2.2.2.2.2.2.2.2.2.2.2⟩
            have B1 : Hid (Below w.heap.size w w1) := Frame.next B0.out hb1 B0.out.size
            clear hb1
            have qb95 := Kb93.out.1
            have qb96 := Kb93.out.2.1
            have qb97 := Kb93.out.2.2.1
            have qb98 := Kb93.out.2.2.2.1
            have qb99 := Kb93.out.2.2.2.2.1
            have qb100 := Kb93.out.2.2.2.2.2.1
            have qb101 := Kb93.out.2.2.2.2.2.2
            go_wp2_with fail
            refine (spec_GoodSum b.r b.k b.t b.lb b.l b.hb b.h _).mono ?_
            rintro e w2 ⟨rfl, hb2⟩
            rw [HB.out]
            clear qb95 qb96 qb97 qb98 qb99 qb100 qb101
            have Ka102 : Hid (w2.cell? ⟨w.heap.size, 0, none⟩ = some (.int .i64 a.r) ∧ w2.cell? ⟨w.heap.size, 1, none⟩ = some (.int .i64 a.k) ∧ w2.cell? ⟨w.heap.size, 2, none⟩ = some (.int .i64 a.t) ∧ w2.cell? ⟨w.heap.size, 3, none⟩ = some (.bool a.lb) ∧ w2.cell? ⟨w.heap.size, 4, none⟩ = some (.int .i64 a.l) ∧ w2.cell? ⟨w.heap.size, 5, none⟩ = some (.bool a.hb) ∧ w2.cell? ⟨w.heap.size, 6, none⟩ = some (.int .i64 a.h)) := ⟨Frame.held_cell hb2 Ka92.out.1, Frame.held_cell hb2 Ka92.out.2.1, Frame.held_cell hb2 Ka92.out.2.2.1, Frame.held_cell hb2 Ka92.out.2.2.2.1, Frame.held_cell hb2 Ka92.out.2.2.2.2.1, Frame.held_cell hb2 Ka92.out.2.2.2.2.2.1, Frame.held_cell hb2 Ka92.out.2.2.2.2.2.2⟩
            have Kb103 : Hid (w2.cell? ⟨w.heap.size + 1, 0, none⟩ = some (.int .i64 b.r) ∧ w2.cell? ⟨w.heap.size + 1, 1, none⟩ = some (.int .i64 b.k) ∧ w2.cell? ⟨w.heap.size + 1, 2, none⟩ = some (.int .i64 b.t) ∧ w2.cell? ⟨w.heap.size + 1, 3, none⟩ = some (.bool b.lb) ∧ w2.cell? ⟨w.heap.size + 1, 4, none⟩ = some (.int .i64 b.l) ∧ w2.cell? ⟨w.heap.size + 1, 5, none⟩ = some (.bool b.hb) ∧ w2.cell? ⟨w.heap.size + 1, 6, none⟩ = some (.int .i64 b.h)) := ⟨Frame.held_cell hb2 Kb93.out.1, Frame.held_cell hb2 Kb93.out.2.1, Frame.held_cell hb2 Kb93.out.2.2.1, Frame.held_cell hb2 Kb93.out.2.2.2.1, Frame.held_cell hb2 Kb93.out.2.2.2.2.1, Frame.held_cell hb2 Kb93.out.2.2.2.2.2.1, Frame.held_cell hb2 Kb93.out.2.2.2.2.2.2⟩
            have Kr104 : Hid (w2.cell? ⟨w.heap.size + 1 + 1, 0, none⟩ = some (.int .i64 0) ∧ w2.cell? ⟨w.heap.size + 1 + 1, 1, none⟩ = some (.int .i64 0) ∧ w2.cell? ⟨w.heap.size + 1 + 1, 2, none⟩ = some (.int .i64 0) ∧ w2.cell? ⟨w.heap.size + 1 + 1, 3, none⟩ = some (.bool false) ∧ w2.cell? ⟨w.heap.size + 1 + 1, 4, none⟩ = some (.int .i64 0) ∧ w2.cell? ⟨w.heap.size + 1 + 1, 5, none⟩ = some (.bool false) ∧ w2.cell? ⟨w.heap.size + 1 + 1, 6, none⟩ = some (.int .i64 0) ∧ w2.frozen? ⟨w.heap.size + 1 + 1, 0, none⟩ = false ∧ w2.frozen? ⟨w.heap.size + 1 + 1, 1, none⟩ = false ∧ w2.frozen? ⟨w.heap.size + 1 + 1, 2, none⟩ = false ∧ w2.frozen? ⟨w.heap.size + 1 + 1, 3, none⟩ = false ∧ w2.frozen? ⟨w.heap.size + 1 + 1, 4, none⟩ = false ∧ w2.frozen? ⟨w.heap.size + 1 + 1, 5, none⟩ = false ∧ w2.frozen? ⟨w.heap.size + 1 + 1, 6, none⟩ = false) := ⟨Frame.held_cell hb2 Kr94.out.1, Frame.held_cell hb2 Kr94.out.2.1, Frame.held_cell hb2 Kr94.out.2.2.1, Frame.held_cell hb2 Kr94.out.2.2.2.1, Frame.held_cell hb2 Kr94.out.2.2.2.2.1, Frame.held_cell hb2 Kr94.out.2.2.2.2.2.1, Frame.held_cell hb2 Kr94.out.2.2.2.2.2.2.1, (hb2.frozen (p := ⟨w.heap.size + 1 + 1, 0, none⟩) (Frame.cell_lt Kr94.out.1)).trans Kr94.out.2.2.2.2.2.2.2.1, (hb2.frozen (p := ⟨w.heap.size + 1 + 1, 1, none⟩) (Frame.cell_lt Kr94.out.2.1)).trans Kr94.out.2.2.2.2.2.2.2.2.1, (hb2.frozen (p := ⟨w.heap.size + 1 + 1, 2, none⟩) (Frame.cell_lt Kr94.out.2.2.1)).trans Kr94.out.2.2.2.2.2.2.2.2.2.1, (hb2.frozen (p := ⟨w.heap.size + 1 + 1, 3, none⟩) (Frame.cell_lt Kr94.out.2.2.2.1)).trans Kr94.out.2.2.2.2.2.2.2.2.2.2.1, (hb2.frozen (p := ⟨w.heap.size + 1 + 1, 4, none⟩) (Frame.cell_lt Kr94.out.2.2.2.2.1)).trans Kr94.out.2.2.2.2.2.2.2.2.2.2.2.1, (hb2.frozen (p := ⟨w.heap.size + 1 + 1, 5, none⟩) (Frame.cell_lt Kr94.out.2.2.2.2.2.1)).trans Kr94.out.2.2.2.2.2.2.2.2.2.2.2.2.1, (hb2.frozen (p := ⟨w.heap.size + 1 + 1, 6, none⟩) (Frame.cell_lt Kr94.out.2.2.2.2.2.2.1)).trans Kr94.out.2.2.2.2.2.2.2.2.2.2.2.2.2⟩
            have B2 : Hid (Below w.heap.size w w2) := Frame.next B1.out hb2 B1.out.size
            clear hb2
            have qa105 := Ka102.out.1
            have qa106 := Ka102.out.2.1
            have qa107 := Ka102.out.2.2.1
            have qa108 := Ka102.out.2.2.2.1
            have qa109 := Ka102.out.2.2.2.2.1
            have qa110 := Ka102.out.2.2.2.2.2.1
            have qa111 := Ka102.out.2.2.2.2.2.2
            have qb112 := Kb103.out.1
            have qb113 := Kb103.out.2.1
            have qb114 := Kb103.out.2.2.1
            have qb115 := Kb103.out.2.2.2.1
            have qb116 := Kb103.out.2.2.2.2.1
            have qb117 := Kb103.out.2.2.2.2.2.1
            have qb118 := Kb103.out.2.2.2.2.2.2
            have l1 : w.heap.size < w2.heap.size := Frame.cell_lt qa105
            have l2 : w.heap.size + 1 < w2.heap.size := Frame.cell_lt qb112
            go_wp2_with fail
            rw [EW.out.1, EW.out.2.1, EW.out.2.2]
            refine (spec_GoodSum _ _ _ _ _ _ _ _).mono ?_
            rintro e w3 ⟨rfl, hb3⟩
            rw [HG.out]
            clear qa105 qa106 qa107 qa108 qa109 qa110 qa111 qb112 qb113 qb114 qb115 qb116 qb117 qb118
            have hz3 := hb3.size
            rw [World.size_alloc] at hz3
            have bw : Below w2.heap.size w2 w3 := Frame.next ((Below.refl _ _).alloc (Nat.le_refl _) _) hb3 (by simp)
            have Ka119 : Hid (w3.cell? ⟨w.heap.size, 0, none⟩ = some (.int .i64 a.r) ∧ w3.cell? ⟨w.heap.size, 1, none⟩ = some (.int .i64 a.k) ∧ w3.cell? ⟨w.heap.size, 2, none⟩ = some (.int .i64 a.t) ∧ w3.cell? ⟨w.heap.size, 3, none⟩ = some (.bool a.lb) ∧ w3.cell? ⟨w.heap.size, 4, none⟩ = some (.int .i64 a.l) ∧ w3.cell? ⟨w.heap.size, 5, none⟩ = some (.bool a.hb) ∧ w3.cell? ⟨w.heap.size, 6, none⟩ = some (.int .i64 a.h)) := ⟨Frame.held_cell bw Ka102.out.1, Frame.held_cell bw Ka102.out.2.1, Frame.held_cell bw Ka102.out.2.2.1, Frame.held_cell bw Ka102.out.2.2.2.1, Frame.held_cell bw Ka102.out.2.2.2.2.1, Frame.held_cell bw Ka102.out.2.2.2.2.2.1, Frame.held_cell bw Ka102.out.2.2.2.2.2.2⟩
            have Kb120 : Hid (w3.cell? ⟨w.heap.size + 1, 0, none⟩ = some (.int .i64 b.r) ∧ w3.cell? ⟨w.heap.size + 1, 1, none⟩ = some (.int .i64 b.k) ∧ w3.cell? ⟨w.heap.size + 1, 2, none⟩ = some (.int .i64 b.t) ∧ w3.cell? ⟨w.heap.size + 1, 3, none⟩ = some (.bool b.lb) ∧ w3.cell? ⟨w.heap.size + 1, 4, none⟩ = some (.int .i64 b.l) ∧ w3.cell? ⟨w.heap.size + 1, 5, none⟩ = some (.bool b.hb) ∧ w3.cell? ⟨w.heap.size + 1, 6, none⟩ = some (.int .i64 b.h)) := ⟨Frame.held_cell bw Kb103.out.1, Frame.held_cell bw Kb103.out.2.1, Frame.held_cell bw Kb103.out.2.2.1, Frame.held_cell bw Kb103.out.2.2.2.1, Frame.held_cell bw Kb103.out.2.2.2.2.1, Frame.held_cell bw Kb103.out.2.2.2.2.2.1, Frame.held_cell bw Kb103.out.2.2.2.2.2.2⟩
            have Kr121 : Hid (w3.cell? ⟨w.heap.size + 1 + 1, 0, none⟩ = some (.int .i64 0) ∧ w3.cell? ⟨w.heap.size + 1 + 1, 1, none⟩ = some (.int .i64 0) ∧ w3.cell? ⟨w.heap.size + 1 + 1, 2, none⟩ = some (.int .i64 0) ∧ w3.cell? ⟨w.heap.size + 1 + 1, 3, none⟩ = some (.bool false) ∧ w3.cell? ⟨w.heap.size + 1 + 1, 4, none⟩ = some (.int .i64 0) ∧ w3.cell? ⟨w.heap.size + 1 + 1, 5, none⟩ = some (.bool false) ∧ w3.cell? ⟨w.heap.size + 1 + 1, 6, none⟩ = some (.int .i64 0) ∧ w3.frozen? ⟨w.heap.size + 1 + 1, 0, none⟩ = false ∧ w3.frozen? ⟨w.heap.size + 1 + 1, 1, none⟩ = false ∧ w3.frozen? ⟨w.heap.size + 1 + 1, 2, none⟩ = false ∧ w3.frozen? ⟨w.heap.size + 1 + 1, 3, none⟩ = false ∧ w3.frozen? ⟨w.heap.size + 1 + 1, 4, none⟩ = false ∧ w3.frozen? ⟨w.heap.size + 1 + 1, 5, none⟩ = false ∧ w3.frozen? ⟨w.heap.size + 1 + 1, 6, none⟩ = false) := ⟨Frame.held_cell bw Kr104.out.1, Frame.held_cell bw Kr104.out.2.1, Frame.held_cell bw Kr104.out.2.2.1, Frame.held_cell bw Kr104.out.2.2.2.1, Frame.held_cell bw Kr104.out.2.2.2.2.1, Frame.held_cell bw Kr104.out.2.2.2.2.2.1, Frame.held_cell bw Kr104.out.2.2.2.2.2.2.1, (bw.frozen (p := ⟨w.heap.size + 1 + 1, 0, none⟩) (Frame.cell_lt Kr104.out.1)).trans Kr104.out.2.2.2.2.2.2.2.1, (bw.frozen (p := ⟨w.heap.size + 1 + 1, 1, none⟩) (Frame.cell_lt Kr104.out.2.1)).trans Kr104.out.2.2.2.2.2.2.2.2.1, (bw.frozen (p := ⟨w.heap.size + 1 + 1, 2, none⟩) (Frame.cell_lt Kr104.out.2.2.1)).trans Kr104.out.2.2.2.2.2.2.2.2.2.1, (bw.frozen (p := ⟨w.heap.size + 1 + 1, 3, none⟩) (Frame.cell_lt Kr104.out.2.2.2.1)).trans Kr104.out.2.2.2.2.2.2.2.2.2.2.1, (bw.frozen (p := ⟨w.heap.size + 1 + 1, 4, none⟩) (Frame.cell_lt Kr104.out.2.2.2.2.1)).trans Kr104.out.2.2.2.2.2.2.2.2.2.2.2.1, (bw.frozen (p := ⟨w.heap.size + 1 + 1, 5, none⟩) (Frame.cell_lt Kr104.out.2.2.2.2.2.1)).trans Kr104.out.2.2.2.2.2.2.2.2.2.2.2.2.1, (bw.frozen (p := ⟨w.heap.size + 1 + 1, 6, none⟩) (Frame.cell_lt Kr104.out.2.2.2.2.2.2.1)).trans Kr104.out.2.2.2.2.2.2.2.2.2.2.2.2.2⟩
            have o0 : w3.cell? ⟨w2.heap.size, 0, none⟩ = some (.int .i64 (a.r + b.r)) := by rw [(Frame.bcell hb3).1 _ _ (by simp)]; go_simp
            have o1 : w3.cell? ⟨w2.heap.size, 1, none⟩ = some (.int .i64 (a.k + b.k)) := by rw [(Frame.bcell hb3).1 _ _ (by simp)]; go_simp
            have o2 : w3.cell? ⟨w2.heap.size, 2, none⟩ = some (.int .i64 (a.t + b.t)) := by rw [(Frame.bcell hb3).1 _ _ (by simp)]; go_simp
            have o3 : w3.cell? ⟨w2.heap.size, 3, none⟩ = some (.bool b.lb) := by rw [(Frame.bcell hb3).1 _ _ (by simp)]; go_simp
            have o4 : w3.cell? ⟨w2.heap.size, 4, none⟩ = some (.int .i64 b.l) := by rw [(Frame.bcell hb3).1 _ _ (by simp)]; go_simp
            have o5 : w3.cell? ⟨w2.heap.size, 5, none⟩ = some (.bool b.hb) := by rw [(Frame.bcell hb3).1 _ _ (by simp)]; go_simp
            have o6 : w3.cell? ⟨w2.heap.size, 6, none⟩ = some (.int .i64 b.h) := by rw [(Frame.bcell hb3).1 _ _ (by simp)]; go_simp
            have B3 : Hid (Below w.heap.size w w3) := Frame.next B2.out bw B2.out.size
            clear hb3 bw
            have qr122 := Kr121.out.1
            have qr123 := Kr121.out.2.1
            have qr124 := Kr121.out.2.2.1
            have qr125 := Kr121.out.2.2.2.1
            have qr126 := Kr121.out.2.2.2.2.1
            have qr127 := Kr121.out.2.2.2.2.2.1
            have qr128 := Kr121.out.2.2.2.2.2.2.1
            have qr129 := Kr121.out.2.2.2.2.2.2.2.1
            have qr130 := Kr121.out.2.2.2.2.2.2.2.2.1
            have qr131 := Kr121.out.2.2.2.2.2.2.2.2.2.1
            have qr132 := Kr121.out.2.2.2.2.2.2.2.2.2.2.1
            have qr133 := Kr121.out.2.2.2.2.2.2.2.2.2.2.2.1
            have qr134 := Kr121.out.2.2.2.2.2.2.2.2.2.2.2.2.1
            have qr135 := Kr121.out.2.2.2.2.2.2.2.2.2.2.2.2.2
            go_wp2
            refine bodyPost_ret (v := .tuple #[.agg #[.int .i64 (a.r + b.r), .int .i64 (a.k + b.k), .int .i64 (a.t + b.t), .bool b.lb, .int .i64 b.l, .bool b.hb, .int .i64 b.h], .bool true]) (by simp [results, Tryd.results18, go_sem, qr122, qr123, qr124, qr125, qr126, qr127, qr128]) rfl ?_
            exact ⟨rfl, (((((((B3.out.setCell hr _).setCell hr _).setCell hr _).setCell hr _).setCell hr _).setCell hr _).setCell hr _)⟩
        · skip
          have T : tog a b = (⟨a.r + b.r, a.k + b.k, a.t + b.t, b.lb, b.l, a.hb, a.h⟩ : Sm) := by rw [TI, show lowB a b = true from by unfold lowB; simp [hk, hb, hl], show highB a b = false from by unfold highB; simp [hk, hb, hh]]; rfl
          rw [T]
          clear T TI
          cases hG : goodS (a.r + b.r) (a.k + b.k) (a.t + b.t) b.lb b.l a.hb a.h
          · have HG : Hid (goodS (a.r + b.r) (a.k + b.k) (a.t + b.t) b.lb b.l a.hb a.h = false) := hG
            have e : fit (⟨a.r + b.r, a.k + b.k, a.t + b.t, b.lb, b.l, a.hb, a.h⟩ : Sm) = zeroS := if_neg (by unfold Sm.good; rw [hG]; exact Bool.false_ne_true)
            have e' : (⟨a.r + b.r, a.k + b.k, a.t + b.t, b.lb, b.l, a.hb, a.h⟩ : Sm).good = false := hG
            rw [e, e']
            clear e e' hG
            go_enter Tryd.func18, Tryd.ntmps18
            go_wp2_with fail
            refine (spec_GoodSum a.r a.k a.t a.lb a.l a.hb a.h _).mono ?_
            rintro e w1 ⟨rfl, hb1⟩
            rw [HA.out]
            have Ka136 : Hid (w1.cell? ⟨w.heap.size, 0, none⟩ = some (.int .i64 a.r) ∧ w1.cell? ⟨w.heap.size, 1, none⟩ = some (.int .i64 a.k) ∧ w1.cell? ⟨w.heap.size, 2, none⟩ = some (.int .i64 a.t) ∧ w1.cell? ⟨w.heap.size, 3, none⟩ = some (.bool a.lb) ∧ w1.cell? ⟨w.heap.size, 4, none⟩ = some (.int .i64 a.l) ∧ w1.cell? ⟨w.heap.size, 5, none⟩ = some (.bool a.hb) ∧ w1.cell? ⟨w.heap.size, 6, none⟩ = some (.int .i64 a.h)) := ⟨Frame.held_cell hb1 Ka1.out.1, Frame.held_cell hb1 Ka1.out.2.1, Frame.held_cell hb1 Ka1.out.2.2.1, Frame.held_cell hb1 Ka1.out.2.2.2.1, Frame.held_cell hb1 Ka1.out.2.2.2.2.1, Frame.held_cell hb1 Ka1.out.2.2.2.2.2.1, Frame.held_cell hb1 Ka1.out.2.2.2.2.2.2⟩
            have Kb137 : Hid (w1.cell? ⟨w.heap.size + 1, 0, none⟩ = some (.int .i64 b.r) ∧ w1.cell? ⟨w.heap.size + 1, 1, none⟩ = some (.int .i64 b.k) ∧ w1.cell? ⟨w.heap.size + 1, 2, none⟩ = some (.int .i64 b.t) ∧ w1.cell? ⟨w.heap.size + 1, 3, none⟩ = some (.bool b.lb) ∧ w1.cell? ⟨w.heap.size + 1, 4, none⟩ = some (.int .i64 b.l) ∧ w1.cell? ⟨w.heap.size + 1, 5, none⟩ = some (.bool b.hb) ∧ w1.cell? ⟨w.heap.size + 1, 6, none⟩ = some (.int .i64 b.h)) := ⟨Frame.held_cell hb1 Kb2.out.1, Frame.held_cell hb1 Kb2.out.2.1, Frame.held_cell hb1 Kb2.out.2.2.1, Frame.held_cell hb1 Kb2.out.2.2.2.1, Frame.held_cell hb1 Kb2.out.2.2.2.2.1, Frame.held_cell hb1 Kb2.out.2.2.2.2.2.1, Frame.held_cell hb1 Kb2.out.2.2.2.2.2.2⟩
            have Kr138 : Hid (w1.cell? ⟨w.heap.size + 1 + 1, 0, none⟩ = some (.int .i64 0) ∧ w1.cell? ⟨w.heap.size + 1 + 1, 1, none⟩ = some (.int .i64 0) ∧ w1.cell? ⟨w.heap.size + 1 + 1, 2, none⟩ = some (.int .i64 0) ∧ w1.cell? ⟨w.heap.size + 1 + 1, 3, none⟩ = some (.bool false) ∧ w1.cell? ⟨w.heap.size + 1 + 1, 4, none⟩ = some (.int .i64 0) ∧ w1.cell? ⟨w.heap.size + 1 + 1, 5, none⟩ = some (.bool false) ∧ w1.cell? ⟨w.heap.size + 1 + 1, 6, none⟩ = some (.int .i64 0) ∧ w1.frozen? ⟨w.heap.size + 1 + 1, 0, none⟩ = false ∧ w1.frozen? ⟨w.heap.size + 1 + 1, 1, none⟩ = false ∧ w1.frozen? ⟨w.heap.size + 1 + 1, 2, none⟩ = false ∧ w1.frozen? ⟨w.heap.size + 1 + 1, 3, none⟩ = false ∧ w1.frozen? ⟨w.heap.size + 1 + 1, 4, none⟩ = false ∧ w1.frozen? ⟨w.heap.size + 1 + 1, 5, none⟩ = false ∧ w1.frozen? ⟨w.heap.size + 1 + 1, 6, none⟩ = false) := ⟨Frame.held_cell hb1 Kr3.out.1, Frame.held_cell hb1 Kr3.out.2.1, Frame.held_cell hb1 Kr3.out.2.2.1, Frame.held_cell hb1 Kr3.out.2.2.2.1, Frame.held_cell hb1 Kr3.out.2.2.2.2.1, Frame.held_cell hb1 Kr3.out.2.2.2.2.2.1, Frame.held_cell hb1 Kr3.out.2.2.2.2.2.2.1, (hb1.frozen (p := ⟨w.heap.size + 1 + 1, 0, none⟩) (Frame.cell_lt Kr3.out.1)).trans Kr3.out.2.2.2.2.2.2.2.1, (hb1.frozen (p := ⟨w.heap.size + 1 + 1, 1, none⟩) (Frame.cell_lt Kr3.out.2.1)).trans Kr3.out.2.2.2.2.2.2.2.2.1, (hb1.frozen (p := ⟨w.heap.size + 1 + 1, 2, none⟩) (Frame.cell_lt Kr3.out.2.2.1)).trans Kr3.out.2.2.2.2.2.2.2.2.2.1, (hb1.frozen (p := ⟨w.heap.size + 1 + 1, 3, none⟩) (Frame.cell_lt Kr3.out.2.2.2.1)).trans Kr3.out.2.2.2.2.2.2.2.2.2.2.1, (hb1.frozen (p := ⟨w.heap.size + 1 + 1, 4, none⟩) (Frame.cell_lt Kr3.out.2.2.2.2.1)).trans Kr3.out.2.2.2.2.2.2.2.2.2.2.2.1, (hb1.frozen (p := ⟨w.heap.size + 1 + 1, 5, none⟩) (Frame.cell_lt Kr3.out.2.2.2.2.2.1)).trans Kr3.out.2.2.2.2.2.2.2.2.2.2.2.2.1, (hb1.frozen (p := ⟨w.heap.size + 1 + 1, 6, none⟩) (Frame.cell_lt Kr3.out.2.2.2.2.2.2.1)).trans Kr3.out.2.2.2.2.2.2.2.2.2.2.2.2.2⟩
            have B1 : Hid (Below w.heap.size w w1) := Frame.next B0.out hb1 B0.out.size
            clear hb1
            have qb139 := Kb137.out.1
            have qb140 := Kb137.out.2.1
            have qb141 := Kb137.out.2.2.1
            have qb142 := Kb137.out.2.2.2.1
            have qb143 := Kb137.out.2.2.2.2.1
            have qb144 := Kb137.out.2.2.2.2.2.1
            have qb145 := Kb137.out.2.2.2.2.2.2
            go_wp2_with fail
            refine (spec_GoodSum b.r b.k b.t b.lb b.l b.hb b.h _).mono ?_
            rintro e w2 ⟨rfl, hb2⟩
            rw [HB.out]
            clear qb139 qb140 qb141 qb142 qb143 qb144 qb145
            have Ka146 : Hid (w2.cell? ⟨w.heap.size, 0, none⟩ = some (.int .i64 a.r) ∧ w2.cell? ⟨w.heap.size, 1, none⟩ = some (.int .i64 a.k) ∧ w2.cell? ⟨w.heap.size, 2, none⟩ = some (.int .i64 a.t) ∧ w2.cell? ⟨w.heap.size, 3, none⟩ = some (.bool a.lb) ∧ w2.cell? ⟨w.heap.size, 4, none⟩ = some (.int .i64 a.l) ∧ w2.cell? ⟨w.heap.size, 5, none⟩ = some (.bool a.hb) ∧ w2.cell? ⟨w.heap.size, 6, none⟩ = some (.int .i64 a.h)) := ⟨Frame.held_cell hb2 Ka136.out.1, Frame.held_cell hb2 Ka136.out.2.1, Frame.held_cell hb2 Ka136.out.2.2.1, Frame.held_cell hb2 Ka136.out.2.2.2.1, Frame.held_cell hb2 Ka136.out.2.2.2.2.1, Frame.held_cell hb2 Ka136.out.2.2.2.2.2.1, Frame.held_cell hb2 Ka136.out.2.2.2.2.2.2⟩
            have Kb147 : Hid (w2.cell? ⟨w.heap.size + 1, 0, none⟩ = some (.int .i64 b.r) ∧ w2.cell? ⟨w.heap.size + 1, 1, none⟩ = some (.int .i64 b.k) ∧ w2.cell? ⟨w.heap.size + 1, 2, none⟩ = some (.int .i64 b.t) ∧ w2.cell? ⟨w.heap.size + 1, 3, none⟩ = some (.bool b.lb) ∧ w2.cell? ⟨w.heap.size + 1, 4, none⟩ = some (.int .i64 b.l) ∧ w2.cell? ⟨w.heap.size + 1, 5, none⟩ = some (.bool b.hb) ∧ w2.cell? ⟨w.heap.size + 1, 6, none⟩ = some (.int .i64 b.h)) := ⟨Frame.held_cell hb2 Kb137.out.1, Frame.held_cell hb2 Kb137.out.2.1, Frame.held_cell hb2 Kb137.out.2.2.1, Frame.held_cell hb2 Kb137.out.2.2.2.1, Frame.held_cell hb2 Kb137.out.2.2.2.2.1, Frame.held_cell hb2 Kb137.out.2.2.2.2.2.1, Frame.held_cell hb2 Kb137.out.2.2.2.2.2.2⟩
            have Kr148 : Hid (w2.cell? ⟨w.heap.size + 1 + 1, 0, none⟩ = some (.int .i64 0) ∧ w2.cell? ⟨w.heap.size + 1 + 1, 1, none⟩ = some (.int .i64 0) ∧ w2.cell? ⟨w.heap.size + 1 + 1, 2, none⟩ = some (.int .i64 0) ∧ w2.cell? ⟨w.heap.size + 1 + 1, 3, none⟩ = some (.bool false) ∧ w2.cell? ⟨w.heap.size + 1 + 1, 4, none⟩ = some (.int .i64 0) ∧ w2.cell? ⟨w.heap.size + 1 + 1, 5, none⟩ = some (.bool false) ∧ w2.cell? ⟨w.heap.size + 1 + 1, 6, none⟩ = some (.int .i64 0) ∧ w2.frozen? ⟨w.heap.size + 1 + 1, 0, none⟩ = false ∧ w2.frozen? ⟨w.heap.size + 1 + 1, 1, none⟩ = false ∧ w2.frozen? ⟨w.heap.size + 1 + 1, 2, none⟩ = false ∧ w2.frozen? ⟨w.heap.size + 1 + 1, 3, none⟩ = false ∧ w2.frozen? ⟨w.heap.size + 1 + 1, 4, none⟩ = false ∧ w2.frozen? ⟨w.heap.size + 1 + 1, 5, none⟩ = false ∧ w2.frozen? ⟨w.heap.size + 1 + 1, 6, none⟩ = false) := ⟨Frame.held_cell hb2 Kr138.out.1, Frame.held_cell hb2 Kr138.out.2.1, Frame.held_cell hb2 Kr138.out.2.2.1, Frame.held_cell hb2 Kr138.out.2.2.2.1, Frame.held_cell hb2 Kr138.out.2.2.2.2.1, Frame.held_cell hb2 Kr138.out.2.2.2.2.2.1, Frame.held_cell hb2 Kr138.out.2.2.2.2.2.2.1, (hb2.frozen (p := ⟨w.heap.size + 1 + 1, 0, none⟩) (Frame.cell_lt Kr138.out.1)).trans Kr138.out.2.2.2.2.2.2.2.1, (hb2.frozen (p := ⟨w.heap.size + 1 + 1, 1, none⟩) (Frame.cell_lt Kr138.out.2.1)).trans Kr138.out.2.2.2.2.2.2.2.2.1, (hb2.frozen (p := ⟨w.heap.size + 1 + 1, 2, none⟩) (Frame.cell_lt Kr138.out.2.2.1)).trans Kr138.out.2.2.2.2.2.2.2.2.2.1, (hb2.frozen (p := ⟨w.heap.size + 1 + 1, 3, none⟩) (Frame.cell_lt Kr138.out.2.2.2.1)).trans Kr138.out.2.2.2.2.2.2.2.2.2.2.1, (hb2.frozen (p := ⟨w.heap.size + 1 + 1, 4, none⟩) (Frame.cell_lt Kr138.out.2.2.2.2.1)).trans Kr138.out.2.2.2.2.2.2.2.2.2.2.2.1, (hb2.frozen (p := ⟨w.heap.size + 1 + 1, 5, none⟩) (Frame.cell_lt Kr138.out.2.2.2.2.2.1)).trans Kr138.out.2.2.2.2.2.2.2.2.2.2.2.2.1, (hb2.frozen (p := ⟨w.heap.size + 1 + 1, 6, none⟩) (Frame.cell_lt Kr138.out.2.2.2.2.2.2.1)).trans Kr138.out.2.2.2.2.2.2.2.2.2.2.2.2.2⟩
            have B2 : Hid (Below w.heap.size w w2) := Frame.next B1.out hb2 B1.out.size
            clear hb2
            have qa149 := Ka146.out.1
            have qa150 := Ka146.out.2.1
            have qa151 := Ka146.out.2.2.1
            have qa152 := Ka146.out.2.2.2.1
            have qa153 := Ka146.out.2.2.2.2.1
            have qa154 := Ka146.out.2.2.2.2.2.1
            have qa155 := Ka146.out.2.2.2.2.2.2
            have qb156 := Kb147.out.1
            have qb157 := Kb147.out.2.1
            have qb158 := Kb147.out.2.2.1
            have qb159 := Kb147.out.2.2.2.1
            have qb160 := Kb147.out.2.2.2.2.1
            have qb161 := Kb147.out.2.2.2.2.2.1
            have qb162 := Kb147.out.2.2.2.2.2.2
            have l1 : w.heap.size < w2.heap.size := Frame.cell_lt qa149
            have l2 : w.heap.size + 1 < w2.heap.size := Frame.cell_lt qb156
            go_wp2_with fail
            rw [EW.out.1, EW.out.2.1, EW.out.2.2]
            refine (spec_GoodSum _ _ _ _ _ _ _ _).mono ?_
            rintro e w3 ⟨rfl, hb3⟩
            rw [HG.out]
            clear qa149 qa150 qa151 qa152 qa153 qa154 qa155 qb156 qb157 qb158 qb159 qb160 qb161 qb162
            have hz3 := hb3.size
            rw [World.size_alloc] at hz3
            have bw : Below w2.heap.size w2 w3 := Frame.next ((Below.refl _ _).alloc (Nat.le_refl _) _) hb3 (by simp)
            have Ka163 : Hid (w3.cell? ⟨w.heap.size, 0, none⟩ = some (.int .i64 a.r) ∧ w3.cell? ⟨w.heap.size, 1, none⟩ = some (.int .i64 a.k) ∧ w3.cell? ⟨w.heap.size, 2, none⟩ = some (.int .i64 a.t) ∧ w3.cell? ⟨w.heap.size, 3, none⟩ = some (.bool a.lb) ∧ w3.cell? ⟨w.heap.size, 4, none⟩ = some (.int .i64 a.l) ∧ w3.cell? ⟨w.heap.size, 5, none⟩ = some (.bool a.hb) ∧ w3.cell? ⟨w.heap.size, 6, none⟩ = some (.int .i64 a.h)) := ⟨Frame.held_cell bw Ka146.out.1, Frame.held_cell bw Ka146.out.2.1, Frame.held_cell bw Ka146.out.2.2.1, Frame.held_cell bw Ka146.out.2.2.2.1, Frame.held_cell bw Ka146.out.2.2.2.2.1, Frame.held_cell bw Ka146.out.2.2.2.2.2.1, Frame.held_cell bw Ka146.out.2.2.2.2.2.2⟩
            have Kb164 : Hid (w3.cell? ⟨w.heap.size + 1, 0, none⟩ = some (.int .i64 b.r) ∧ w3.cell? ⟨w.heap.size + 1, 1, none⟩ = some (.int .i64 b.k) ∧ w3.cell? ⟨w.heap.size + 1, 2, none⟩ = some (.int .i64 b.t) ∧ w3.cell? ⟨w.heap.size + 1, 3, none⟩ = some (.bool b.lb) ∧ w3.cell? ⟨w.heap.size + 1, 4, none⟩ = some (.int .i64 b.l) ∧ w3.cell? ⟨w.heap.size + 1, 5, none⟩ = some (.bool b.hb) ∧ w3.cell? ⟨w.heap.size + 1, 6, none⟩ = some (.int .i64 b.h)) := ⟨Frame.held_cell bw Kb147.out.1, Frame.held_cell bw Kb147.out.2.1, Frame.held_cell bw Kb147.out.2.2.1, Frame.held_cell bw Kb147.out.2.2.2.1, Frame.held_cell bw Kb147.out.2.2.2.2.1, Frame.held_cell bw Kb147.out.2.2.2.2.2.1, Frame.held_cell bw Kb147.out.2.2.2.2.2.2⟩
            have Kr165 : Hid (w3.cell? ⟨w.heap.size + 1 + 1, 0, none⟩ = some (.int .i64 0) ∧ w3.cell? ⟨w.heap.size + 1 + 1, 1, none⟩ = some (.int .i64 0) ∧ w3.cell? ⟨w.heap.size + 1 + 1, 2, none⟩ = some (.int .i64 0) ∧ w3.cell? ⟨w.heap.size + 1 + 1, 3, none⟩ = some (.bool false) ∧ w3.cell? ⟨w.heap.size + 1 + 1, 4, none⟩ = some (.int .i64 0) ∧ w3.cell? ⟨w.heap.size + 1 + 1, 5, none⟩ = some (.bool false) ∧ w3.cell? ⟨w.heap.size + 1 + 1, 6, none⟩ = some (.int .i64 0) ∧ w3.frozen? ⟨w.heap.size + 1 + 1, 0, none⟩ = false ∧ w3.frozen? ⟨w.heap.size + 1 + 1, 1, none⟩ = false ∧ w3.frozen? ⟨w.heap.size + 1 + 1, 2, none⟩ = false ∧ w3.frozen? ⟨w.heap.size + 1 + 1, 3, none⟩ = false ∧ w3.frozen? ⟨w.heap.size + 1 + 1, 4, none⟩ = false ∧ w3.frozen? ⟨w.heap.size + 1 + 1, 5, none⟩ = false ∧ w3.frozen? ⟨w.heap.size + 1 + 1, 6, none⟩ = false) := ⟨Frame.held_cell bw Kr148.out.1, Frame.held_cell bw Kr148.out.2.1, Frame.held_cell bw Kr148.out.2.2.1, Frame.held_cell bw Kr148.out.2.2.2.1, Frame.held_cell bw Kr148.out.2.2.2.2.1, Frame.held_cell bw Kr148.out.2.2.2.2.2.1, Frame.held_cell bw Kr148.out.2.2.2.2.2.2.1, (bw.frozen (p := ⟨w.heap.size + 1 + 1, 0, none⟩) (Frame.cell_lt Kr148.out.1)).trans Kr148.out.2.2.2.2.2.2.2.1, (bw.frozen (p := ⟨w.heap.size + 1 + 1, 1, none⟩) (Frame.cell_lt Kr148.out.2.1)).trans Kr148.out.2.2.2.2.2.2.2.2.1, (bw.frozen (p := ⟨w.heap.size + 1 + 1, 2, none⟩) (Frame.cell_lt Kr148.out.2.2.1)).trans Kr148.out.2.2.2.2.2.2.2.2.2.1, (bw.frozen (p := ⟨w.heap.size + 1 + 1, 3, none⟩) (Frame.cell_lt Kr148.out.2.2.2.1)).trans Kr148.out.2.2.2.2.2.2.2.2.2.2.1, (bw.frozen (p := ⟨w.heap.size + 1 + 1, 4, none⟩) (Frame.cell_lt Kr148.out.2.2.2.2.1)).trans Kr148.out.2.2.2.2.2.2.2.2.2.2.2.1, (bw.frozen (p := ⟨w.heap.size + 1 + 1, 5, none⟩) (Frame.cell_lt Kr148.out.2.2.2.2.2.1)).trans Kr148.out.2.2.2.2.2.2.2.2.2.2.2.2.1, (bw.frozen (p := ⟨w.heap.size + 1 + 1, 6, none⟩) (Frame.cell_lt Kr148.out.2.2.2.2.2.2.1)).trans Kr148.out.2.2.2.2.2.2.2.2.2.2.2.2.2⟩
            have o0 : w3.cell? ⟨w2.heap.size, 0, none⟩ = some (.int .i64 (a.r + b.r)) := by rw [(Frame.bcell hb3).1 _ _ (by simp)]; go_simp
            have o1 : w3.cell? ⟨w2.heap.size, 1, none⟩ = some (.int .i64 (a.k + b.k)) := by rw [(Frame.bcell hb3).1 _ _ (by simp)]; go_simp
            have o2 : w3.cell? ⟨w2.heap.size, 2, none⟩ = some (.int .i64 (a.t + b.t)) := by rw [(Frame.bcell hb3).1 _ _ (by simp)]; go_simp
            have o3 : w3.cell? ⟨w2.heap.size, 3, none⟩ = some (.bool b.lb) := by rw [(Frame.bcell hb3).1 _ _ (by simp)]; go_simp
            have o4 : w3.cell? ⟨w2.heap.size, 4, none⟩ = some (.int .i64 b.l) := by rw [(Frame.bcell hb3).1 _ _ (by simp)]; go_simp
            have o5 : w3.cell? ⟨w2.heap.size, 5, none⟩ = some (.bool a.hb) := by rw [(Frame.bcell hb3).1 _ _ (by simp)]; go_simp
            have o6 : w3.cell? ⟨w2.heap.size, 6, none⟩ = some (.int .i64 a.h) := by rw [(Frame.bcell hb3).1 _ _ (by simp)]; go_simp
            have B3 : Hid (Below w.heap.size w w3) := Frame.next B2.out bw B2.out.size
            clear hb3 bw
            have qr166 := Kr165.out.1
            have qr167 := Kr165.out.2.1
            have qr168 := Kr165.out.2.2.1
            have qr169 := Kr165.out.2.2.2.1
            have qr170 := Kr165.out.2.2.2.2.1
            have qr171 := Kr165.out.2.2.2.2.2.1
            have qr172 := Kr165.out.2.2.2.2.2.2.1
            have qr173 := Kr165.out.2.2.2.2.2.2.2.1
            have qr174 := Kr165.out.2.2.2.2.2.2.2.2.1
            have qr175 := Kr165.out.2.2.2.2.2.2.2.2.2.1
            have qr176 := Kr165.out.2.2.2.2.2.2.2.2.2.2.1
            have qr177 := Kr165.out.2.2.2.2.2.2.2.2.2.2.2.1
            have qr178 := Kr165.out.2.2.2.2.2.2.2.2.2.2.2.2.1
            have qr179 := Kr165.out.2.2.2.2.2.2.2.2.2.2.2.2.2
            go_wp2
            refine bodyPost_ret (v := .tuple #[.agg #[.int .i64 0, .int .i64 0, .int .i64 0, .bool false, .int .i64 0, .bool false, .int .i64 0], .bool false]) (by simp [results, Tryd.results18, go_sem, qr166, qr167, qr168, qr169, qr170, qr171, qr172]) rfl ?_
            exact ⟨rfl, (((((((B3.out.setCell hr _).setCell hr _).setCell hr _).setCell hr _).setCell hr _).setCell hr _).setCell hr _)⟩
          · have HG : Hid (goodS (a.r + b.r) (a.k + b.k) (a.t + b.t) b.lb b.l a.hb a.h = true) := hG
            have e : fit (⟨a.r + b.r, a.k + b.k, a.t + b.t, b.lb, b.l, a.hb, a.h⟩ : Sm) = (⟨a.r + b.r, a.k + b.k, a.t + b.t, b.lb, b.l, a.hb, a.h⟩ : Sm) := if_pos hG
            have e' : (⟨a.r + b.r, a.k + b.k, a.t + b.t, b.lb, b.l, a.hb, a.h⟩ : Sm).good = true := hG
            rw [e, e']
            clear e e' hG
            go_enter Tryd.func18, Tryd.ntmps18
            go_wp2_with fail
            refine (spec_GoodSum a.r a.k a.t a.lb a.l a.hb a.h _).mono ?_
            rintro e w1 ⟨rfl, hb1⟩
            rw [HA.out]
            have Ka180 : Hid (w1.cell? ⟨w.heap.size, 0, none⟩ = some (.int .i64 a.r) ∧ w1.cell? ⟨w.heap.size, 1, none⟩ = some (.int .i64 a.k) ∧ w1.cell? ⟨w.heap.size, 2, none⟩ = some (.int .i64 a.t) ∧ w1.cell? ⟨w.heap.size, 3, none⟩ = some (.bool a.lb) ∧ w1.cell? ⟨w.heap.size, 4, none⟩ = some (.int .i64 a.l) ∧ w1.cell? ⟨w.heap.size, 5, none⟩ = some (.bool a.hb) ∧ w1.cell? ⟨w.heap.size, 6, none⟩ = some (.int .i64 a.h)) := ⟨Frame.held_cell hb1 Ka1.out.1, Frame.held_cell hb1 Ka1.out.2.1, Frame.held_cell hb1 Ka1.out.2.2.1, Frame.held_cell hb1 Ka1.out.2.2.2.1, Frame.held_cell hb1 Ka1.out.2.2.2.2.1, Frame.held_cell hb1 Ka1.out.2.2.2.2.2.1, Frame.held_cell hb1 Ka1.out.2.2.2.2.2.2⟩
            have Kb181 : Hid (w1.cell? ⟨w.heap.size + 1, 0, none⟩ = some (.int .i64 b.r) ∧ w1.cell? ⟨w.heap.size + 1, 1, none⟩ = some (.int .i64 b.k) ∧ w1.cell? ⟨w.heap.size + 1, 2, none⟩ = some (.int .i64 b.t) ∧ w1.cell? ⟨w.heap.size + 1, 3, none⟩ = some (.bool b.lb) ∧ w1.cell? ⟨w.heap.size + 1, 4, none⟩ = some (.int .i64 b.l) ∧ w1.cell? ⟨w.heap.size + 1, 5, none⟩ = some (.bool b.hb) ∧ w1.cell? ⟨w.heap.size + 1, 6, none⟩ = some (.int .i64 b.h)) := ⟨Frame.held_cell hb1 Kb2.out.1, Frame.held_cell hb1 Kb2.out.2.1, Frame.held_cell hb1 Kb2.out.2.2.1, Frame.held_cell hb1 Kb2.out.2.2.2.1, Frame.held_cell hb1 Kb2.out.2.2.2.2.1, Frame.held_cell hb1 Kb2.out.2.2.2.2.2.1, Frame.held_cell hb1 Kb2.out.2.2.2.2.2.2⟩
            have Kr182 : Hid (w1.cell? ⟨w.heap.size + 1 + 1, 0, none⟩ = some (.int .i64 0) ∧ w1.cell? ⟨w.heap.size + 1 + 1, 1, none⟩ = some (.int .i64 0) ∧ w1.cell? ⟨w.heap.size + 1 + 1, 2, none⟩ = some (.int .i64 0) ∧ w1.cell? ⟨w.heap.size + 1 + 1, 3, none⟩ = some (.bool false) ∧ w1.cell? ⟨w.heap.size + 1 + 1, 4, none⟩ = some (.int .i64 0) ∧ w1.cell? ⟨w.heap.size + 1 + 1, 5, none⟩ = some (.bool false) ∧ w1.cell? ⟨w.heap.size + 1 + 1, 6, none⟩ = some (.int .i64 0) ∧ w1.frozen? ⟨w.heap.size + 1 + 1, 0, none⟩ = false ∧ w1.frozen? ⟨w.heap.size + 1 + 1, 1, none⟩ = false ∧ w1.frozen? ⟨w.heap.size + 1 + 1, 2, none⟩ = false ∧ w1.frozen? ⟨w.heap.size + 1 + 1, 3, none⟩ = false ∧ w1.frozen? ⟨w.heap.size + 1 + 1, 4, none⟩ = false ∧ w1.frozen? ⟨w.heap.size + 1 + 1, 5, none⟩ = false ∧ w1.frozen? ⟨w.heap.size + 1 + 1, 6, none⟩ = false) := ⟨Frame.held_cell hb1 Kr3.out.1, Frame.held_cell hb1 Kr3.out.2.1, Frame.held_cell hb1 Kr3.out.2.2.1, Frame.held_cell hb1 Kr3.out.2.2.2.1, Frame.held_cell hb1 Kr3.out.2.2.2.2.1, Frame.held_cell hb1 Kr3.out.2.2.2.2.2.1, Frame.held_cell hb1 Kr3.out.2.2.2.2.2.2.1, (hb1.frozen (p := ⟨w.heap.size + 1 + 1, 0, none⟩) (Frame.cell_lt Kr3.out.1)).trans Kr3.out.2.2.2.2.2.2.2.1, (hb1.frozen (p := ⟨w.heap.size + 1 + 1, 1, none⟩) (Frame.cell_lt Kr3.out.2.1)).trans Kr3.out.2.2.2.2.2.2.2.2.1, (hb1.frozen (p := ⟨w.heap.size + 1 + 1, 2, none⟩) (Frame.cell_lt Kr3.out.2.2.1)).trans Kr3.out.2.2.2.2.2.2.2.2.2.1, (hb1.frozen (p := ⟨w.heap.size + 1 + 1, 3, none⟩) (Frame.cell_lt Kr3.out.2.2.2.1)).trans Kr3.out.2.2.2.2.2.2.2.2.2.2.1, (hb1.frozen (p := ⟨w.heap.size + 1 + 1, 4, none⟩) (Frame.cell_lt Kr3.out.2.2.2.2.1)).trans Kr3.out.2.2.2.2.2.2.2.2.2.2.2.1, (hb1.frozen (p := ⟨w.heap.size + 1 + 1, 5, none⟩) (Frame.cell_lt Kr3.out.2.2.2.2.2.1)).trans Kr3.out.2.2.2.2.2.2.2.2.2.2.2.2.1, (hb1.frozen (p := ⟨w.heap.size + 1 + 1, 6, none⟩) (Frame.cell_lt Kr3.out.2.2.2.2.2.2.1)).trans Kr3.out.2.2.2.2.2.2.2.2.2.2.2.2.2⟩
            have B1 : Hid (Below w.heap.size w w1) := Frame.next B0.out hb1 B0.out.size
            clear hb1
            have qb183 := Kb181.out.1
            have qb184 := Kb181.out.2.1
            have qb185 := Kb181.out.2.2.1
            have qb186 := Kb181.out.2.2.2.1
            have qb187 := Kb181.out.2.2.2.2.1
            have qb188 := Kb181.out.2.2.2.2.2.1
            have qb189 := Kb181.out.2.2.2.2.2.2
            go_wp2_with fail
            refine (spec_GoodSum b.r b.k b.t b.lb b.l b.hb b.h _).mono ?_
            rintro e w2 ⟨rfl, hb2⟩
            rw [HB.out]
            clear qb183 qb184 qb185 qb186 qb187 qb188 qb189
            have Ka190 : Hid (w2.cell? ⟨w.heap.size, 0, none⟩ = some (.int .i64 a.r) ∧ w2.cell? ⟨w.heap.size, 1, none⟩ = some (.int .i64 a.k) ∧ w2.cell? ⟨w.heap.size, 2, none⟩ = some (.int .i64 a.t) ∧ w2.cell? ⟨w.heap.size, 3, none⟩ = some (.bool a.lb) ∧ w2.cell? ⟨w.heap.size, 4, none⟩ = some (.int .i64 a.l) ∧ w2.cell? ⟨w.heap.size, 5, none⟩ = some (.bool a.hb) ∧ w2.cell? ⟨w.heap.size, 6, none⟩ = some (.int .i64 a.h)) := ⟨Frame.held_cell hb2 Ka180.out.1, Frame.held_cell hb2 Ka180.out.2.1, Frame.held_cell hb2 Ka180.out.2.2.1, Frame.held_cell hb2 Ka180.out.2.2.2.1, Frame.held_cell hb2 Ka180.out.2.2.2.2.1, Frame.held_cell hb2 Ka180.out.2.2.2.2.2.1, Frame.held_cell hb2 Ka180.out.2.2.2.2.2.2⟩
            have Kb191 : Hid (w2.cell? ⟨w.heap.size + 1, 0, none⟩ = some (.int .i64 b.r) ∧ w2.cell? ⟨w.heap.size + 1, 1, none⟩ = some (.int .i64 b.k) ∧ w2.cell? ⟨w.heap.size + 1, 2, none⟩ = some (.int .i64 b.t) ∧ w2.cell? ⟨w.heap.size + 1, 3, none⟩ = some (.bool b.lb) ∧ w2.cell? ⟨w.heap.size + 1, 4, none⟩ = some (.int .i64 b.l) ∧ w2.cell? ⟨w.heap.size + 1, 5, none⟩ = some (.bool b.hb) ∧ w2.cell? ⟨w.heap.size + 1, 6, none⟩ = some (.int .i64 b.h)) := ⟨Frame.held_cell hb2 Kb181.out.1, Frame.held_cell hb2 Kb181.out.2.1, Frame.held_cell hb2 Kb181.out.2.2.1, Frame.held_cell hb2 Kb181.out.2.2.2.1, Frame.held_cell hb2 Kb181.out.2.2.2.2.1, Frame.held_cell hb2 Kb181.out.2.2.2.2.2.1, Frame.held_cell hb2 Kb181.out.2.2.2.2.2.2⟩
            have Kr192 : Hid (w2.cell? ⟨w.heap.size + 1 + 1, 0, none⟩ = some (.int .i64 0) ∧ w2.cell? ⟨w.heap.size + 1 + 1, 1, none⟩ = some (.int .i64 0) ∧ w2.cell? ⟨w.heap.size + 1 + 1, 2, none⟩ = some (.int .i64 0) ∧ w2.cell? ⟨w.heap.size + 1 + 1, 3, none⟩ = some (.bool false) ∧ w2.cell? ⟨w.heap.size + 1 + 1, 4, none⟩ = some (.int .i64 0) ∧ w2.cell? ⟨w.heap.size + 1 + 1, 5, none⟩ = some (.bool false) ∧ w2.cell? ⟨w.heap.size + 1 + 1, 6, none⟩ = some (.int .i64 0) ∧ w2.frozen? ⟨w.heap.size + 1 + 1, 0, none⟩ = false ∧ w2.frozen? ⟨w.heap.size + 1 + 1, 1, none⟩ = false ∧ w2.frozen? ⟨w.heap.size + 1 + 1, 2, none⟩ = false ∧ w2.frozen? ⟨w.heap.size + 1 + 1, 3, none⟩ = false ∧ w2.frozen? ⟨w.heap.size + 1 + 1, 4, none⟩ = false ∧ w2.frozen? ⟨w.heap.size + 1 + 1, 5, none⟩ = false ∧ w2.frozen? ⟨w.heap.size + 1 + 1, 6, none⟩ = false) := ⟨Frame.held_cell hb2 Kr182.out.1, Frame.held_cell hb2 Kr182.out.2.1, Frame.held_cell hb2 Kr182.out.2.2.1, Frame.held_cell hb2 Kr182.out.2.2.2.1, Frame.held_cell hb2 Kr182.out.2.2.2.2.1, Frame.held_cell hb2 Kr182.out.2.2.2.2.2.1, Frame.held_cell hb2 Kr182.out.2.2.2.2.2.2.1, (hb2.frozen (p := ⟨w.heap.size + 1 + 1, 0, none⟩) (Frame.cell_lt Kr182.out.1)).trans Kr182.out.2.2.2.2.2.2.2.1, (hb2.frozen (p := ⟨w.heap.size + 1 + 1, 1, none⟩) (Frame.cell_lt Kr182.out.2.1)).trans Kr182.out.2.2.2.2.2.2.2.2.1, (hb2.frozen (p := ⟨w.heap.size + 1 + 1, 2, none⟩) (Frame.cell_lt Kr182.out.2.2.1)).trans Kr182.out.2.2.2.2.2.2.2.2.2.1, (hb2.frozen (p := ⟨w.heap.size + 1 + 1, 3, none⟩) (Frame.cell_lt Kr182.out.2.2.2.1)).trans Kr182.out.2.2.2.2.2.2.2.2.2.2.1, (hb2.frozen (p := ⟨w.heap.size + 1 + 1, 4, none⟩) (Frame.cell_lt Kr182.out.2.2.2.2.1)).trans Kr182.out.2.2.2.2.2.2.2.2.2.2.2.1, (hb2.frozen (p := ⟨w.heap.size + 1 + 1, 5, none⟩) (Frame.cell_lt Kr182.out.2.2.2.2.2.1)).trans Kr182.out.2.2.2.2.2.2.2.2.2.2.2.2.1, (hb2.frozen (p := ⟨w.heap.size + 1 + 1, 6, none⟩) (Frame.cell_lt Kr182.out.2.2.2.2.2.2.1)).trans Kr182.out.2.2.2.2.2.2.2.2.2.2.2.2.2⟩
            have B2 : Hid (Below w.heap.size w w2) := Frame.next B1.out hb2 B1.out.size
            clear hb2
            have qa193 := Ka190.out.1
            have qa194 := Ka190.out.2.1
            have qa195 := Ka190.out.2.2.1
            have qa196 := Ka190.out.2.2.2.1
            have qa197 := Ka190.out.2.2.2.2.1
            have qa198 := Ka190.out.2.2.2.2.2.1
            have qa199 := Ka190.out.2.2.2.2.2.2
            have qb200 := Kb191.out.1
            have qb201 := Kb191.out.2.1
            have qb202 := Kb191.out.2.2.1
            have qb203 := Kb191.out.2.2.2.1
            have qb204 := Kb191.out.2.2.2.2.1
            have qb205 := Kb191.out.2.2.2.2.2.1
            have qb206 := Kb191.out.2.2.2.2.2.2
            have l1 : w.heap.size < w2.heap.size := Frame.cell_lt qa193
            have l2 : w.heap.size + 1 < w2.heap.size := Frame.cell_lt qb200
            go_wp2_with fail
            rw [EW.out.1, EW.out.2.1, EW.out.2.2]
            refine (spec_GoodSum _ _ _ _ _ _ _ _).mono ?_
            rintro e w3 ⟨rfl, hb3⟩
            rw [HG.out]
            clear qa193 qa194 qa195 qa196 qa197 qa198 qa199 qb200 qb201 qb202 qb203 qb204 qb205 qb206
            have hz3 := hb3.size
            rw [World.size_alloc] at hz3
            have bw : Below w2.heap.size w2 w3 := Frame.next ((Below.refl _ _).alloc (Nat.le_refl _) _) hb3 (by simp)
            have Ka207 : Hid (w3.cell? ⟨w.heap.size, 0, none⟩ = some (.int .i64 a.r) ∧ w3.cell? ⟨w.heap.size, 1, none⟩ = some (.int .i64 a.k) ∧ w3.cell? ⟨w.heap.size, 2, none⟩ = some (.int .i64 a.t) ∧ w3.cell? ⟨w.heap.size, 3, none⟩ = some (.bool a.lb) ∧ w3.cell? ⟨w.heap.size, 4, none⟩ = some (.int .i64 a.l) ∧ w3.cell? ⟨w.heap.size, 5, none⟩ = some (.bool a.hb) ∧ w3.cell? ⟨w.heap.size, 6, none⟩ = some (.int .i64 a.h)) := ⟨Frame.held_cell bw Ka190.out.1, Frame.held_cell bw Ka190.out.2.1, Frame.held_cell bw Ka190.out.2.2.1, Frame.held_cell bw Ka190.out.2.2.2.1, Frame.held_cell bw Ka190.out.2.2.2.2.1, Frame.held_cell bw Ka190.out.2.2.2.2.2.1, Frame.held_cell bw Ka190.out.2.2.2.2.2.2⟩
            have Kb208 : Hid (w3.cell? ⟨w.heap.size + 1, 0, none⟩ = some (.int .i64 b.r) ∧ w3.cell? ⟨w.heap.size + 1, 1, none⟩ = some (.int .i64 b.k) ∧ w3.cell? ⟨w.heap.size + 1, 2, none⟩ = some (.int .i64 b.t) ∧ w3.cell? ⟨w.heap.size + 1, 3, none⟩ = some (.bool b.lb) ∧ w3.cell? ⟨w.heap.size + 1, 4, none⟩ = some (.int .i64 b.l) ∧ w3.cell? ⟨w.heap.size + 1, 5, none⟩ = some (.bool b.hb) ∧ w3.cell? ⟨w.heap.size + 1, 6, none⟩ = some (.int .i64 b.h)) := ⟨Frame.held_cell bw Kb191.out.1, Frame.held_cell bw Kb191.out.2.1, Frame.held_cell bw Kb191.out.2.2.1, Frame.held_cell bw Kb191.out.2.2.2.1, Frame.held_cell bw Kb191.out.2.2.2.2.1, Frame.held_cell bw Kb191.out.2.2.2.2.2.1, Frame.held_cell bw Kb191.out.2.2.2.2.2.2⟩
            have Kr209 : Hid (w3.cell? ⟨w.heap.size + 1 + 1, 0, none⟩ = some (.int .i64 0) ∧ w3.cell? ⟨w.heap.size + 1 + 1, 1, none⟩ = some (.int .i64 0) ∧ w3.cell? ⟨w.heap.size + 1 + 1, 2, none⟩ = some (.int .i64 0) ∧ w3.cell? ⟨w.heap.size + 1 + 1, 3, none⟩ = some (.bool false) ∧ w3.cell? ⟨w.heap.size + 1 + 1, 4, none⟩ = some (.int .i64 0) ∧ w3.cell? ⟨w.heap.size + 1 + 1, 5, none⟩ = some (.bool false) ∧ w3.cell? ⟨w.heap.size + 1 + 1, 6, none⟩ = some (.int .i64 0) ∧ w3.frozen? ⟨w.heap.size + 1 + 1, 0, none⟩ = false ∧ w3.frozen? ⟨w.heap.size + 1 + 1, 1, none⟩ = false ∧ w3.frozen? ⟨w.heap.size + 1 + 1, 2, none⟩ = false ∧ w3.frozen? ⟨w.heap.size + 1 + 1, 3, none⟩ = false ∧ w3.frozen? ⟨w.heap.size + 1 + 1, 4, none⟩ = false ∧ w3.frozen? ⟨w.heap.size + 1 + 1, 5, none⟩ = false ∧ w3.frozen? ⟨w.heap.size + 1 + 1, 6, none⟩ = false) := ⟨Frame.held_cell bw Kr192.out.1, Frame.held_cell bw Kr192.out.2.1, Frame.held_cell bw Kr192.out.2.2.1, Frame.held_cell bw Kr192.out.2.2.2.1, Frame.held_cell bw Kr192.out.2.2.2.2.1, Frame.held_cell bw Kr192.out.2.2.2.2.2.1, Frame.held_cell bw Kr192.out.2.2.2.2.2.2.1, (bw.frozen (p := ⟨w.heap.size + 1 + 1, 0, none⟩) (Frame.cell_lt Kr192.out.1)).trans Kr192.out.2.2.2.2.2.2.2.1, (bw.frozen (p := ⟨w.heap.size + 1 + 1, 1, none⟩) (Frame.cell_lt Kr192.out.2.1)).trans Kr192.out.2.2.2.2.2.2.2.2.1, (bw.frozen (p := ⟨w.heap.size + 1 + 1, 2, none⟩) (Frame.cell_lt Kr192.out.2.2.1)).trans Kr192.out.2.2.2.2.2.2.2.2.2.1, (bw.frozen (p := ⟨w.heap.size + 1 + 1, 3, none⟩) (Frame.cell_lt Kr192.out.2.2.2.1)).trans Kr192.out.2.2.2.2.2.2.2.2.2.2.1, (bw.frozen (p := ⟨w.heap.size + 1 + 1, 4, none⟩) (Frame.cell_lt Kr192.out.2.2.2.2.1)).trans Kr192.out.2.2.2.2.2.2.2.2.2.2.2.1, (bw.frozen (p := ⟨w.heap.size + 1 + 1, 5, none⟩) (Frame.cell_lt Kr192.out.2.2.2.2.2.1)).trans Kr192.out.2.2.2.2.2.2.2.2.2.2.2.2.1, (bw.frozen (p := ⟨w.heap.size + 1 + 1, 6, none⟩) (Frame.cell_lt Kr192.out.2.2.2.2.2.2.1)).trans Kr192.out.2.2.2.2.2.2.2.2.2.2.2.2.2⟩
            have o0 : w3.cell? ⟨w2.heap.size, 0, none⟩ = some (.int .i64 (a.r + b.r)) := by rw [(Frame.bcell hb3).1 _ _ (by simp)]; go_simp
            have o1 : w3.cell? ⟨w2.heap.size, 1, none⟩ = some (.int .i64 (a.k + b.k)) := by rw [(Frame.bcell hb3).1 _ _ (by simp)]; go_simp
            have o2 : w3.cell? ⟨w2.heap.size, 2, none⟩ = some (.int .i64 (a.t + b.t)) := by rw [(Frame.bcell hb3).1 _ _ (by simp)]; go_simp
            have o3 : w3.cell? ⟨w2.heap.size, 3, none⟩ = some (.bool b.lb) := by rw [(Frame.bcell hb3).1 _ _ (by simp)]; go_simp
            have o4 : w3.cell? ⟨w2.heap.size, 4, none⟩ = some (.int .i64 b.l) := by rw [(Frame.bcell hb3).1 _ _ (by simp)]; go_simp
            have o5 : w3.cell? ⟨w2.heap.size, 5, none⟩ = some (.bool a.hb) := by rw [(Frame.bcell hb3).1 _ _ (by simp)]; go_simp
            have o6 : w3.cell? ⟨w2.heap.size, 6, none⟩ = some (.int .i64 a.h) := by rw [(Frame.bcell hb3).1 _ _ (by simp)]; go_simp
            have B3 : Hid (Below w.heap.size w w3) := Frame.next B2.out bw B2.out.size
            clear hb3 bw
            have qr210 := Kr209.out.1
            have qr211 := Kr209.out.2.1
            have qr212 := Kr209.out.2.2.1
            have qr213 := Kr209.out.2.2.2.1
            have qr214 := Kr209.out.2.2.2.2.1
            have qr215 := Kr209.out.2.2.2.2.2.1
            have qr216 := Kr209.out.2.2.2.2.2.2.1
            have qr217 := Kr209.out.2.2.2.2.2.2.2.1
            have qr218 := Kr209.out.2.2.2.2.2.2.2.2.1
            have qr219 := Kr209.out.2.2.2.2.2.2.2.2.2.1
            have qr220 := Kr209.out.2.2.2.2.2.2.2.2.2.2.1
            have qr221 := Kr209.out.2.2.2.2.2.2.2.2.2.2.2.1
            have qr222 := Kr209.out.2.2.2.2.2.2.2.2.2.2.2.2.1
            have qr223 := Kr209.out.2.2.2.2.2.2.2.2.2.2.2.2.2
            go_wp2
            refine bodyPost_ret (v := .tuple #[.agg #[.int .i64 (a.r + b.r), .int .i64 (a.k + b.k), .int .i64 (a.t + b.t), .bool b.lb, .int .i64 b.l, .bool a.hb, .int .i64 a.h], .bool true]) (by simp [results, Tryd.results18, go_sem, qr210, qr211, qr212, qr213, qr214, qr215, qr216]) rfl ?_
            exact ⟨rfl, (((((((B3.out.setCell hr _).setCell hr _).setCell hr _).setCell hr _).setCell hr _).setCell hr _).setCell hr _)⟩
      · by_cases hh : a.h < b.h
        · skip
          have T : tog a b = (⟨a.r + b.r, a.k + b.k, a.t + b.t, a.lb, a.l, b.hb, b.h⟩ : Sm) := by rw [TI, show lowB a b = false from by unfold lowB; simp [hk, hb, hl], show highB a b = true from by unfold highB; simp [hk, hb, hh]]; rfl
          rw [T]
          clear T TI
          cases hG : goodS (a.r + b.r) (a.k + b.k) (a.t + b.t) a.lb a.l b.hb b.h
          · have HG : Hid (goodS (a.r + b.r) (a.k + b.k) (a.t + b.t) a.lb a.l b.hb b.h = false) := hG
            have e : fit (⟨a.r + b.r, a.k + b.k, a.t + b.t, a.lb, a.l, b.hb, b.h⟩ : Sm) = zeroS := if_neg (by unfold Sm.good; rw [hG]; exact Bool.false_ne_true)
            have e' : (⟨a.r + b.r, a.k + b.k, a.t + b.t, a.lb, a.l, b.hb, b.h⟩ : Sm).good = false := hG
            rw [e, e']
            clear e e' hG
            go_enter Tryd.func18, Tryd.ntmps18
            go_wp2_with fail
            refine (spec_GoodSum a.r a.k a.t a.lb a.l a.hb a.h _).mono ?_
            rintro e w1 ⟨rfl, hb1⟩
            rw [HA.out]
            have Ka224 : Hid (w1.cell? ⟨w.heap.size, 0, none⟩ = some (.int .i64 a.r) ∧ w1.cell? ⟨w.heap.size, 1, none⟩ = some (.int .i64 a.k) ∧ w1.cell? ⟨w.heap.size, 2, none⟩ = some (.int .i64 a.t) ∧ w1.cell? ⟨w.heap.size, 3, none⟩ = some (.bool a.lb) ∧ w1.cell? ⟨w.heap.size, 4, none⟩ = some (.int .i64 a.l) ∧ w1.cell? ⟨w.heap.size, 5, none⟩ = some (.bool a.hb) ∧ w1.cell? ⟨w.heap.size, 6, none⟩ = some (.int .i64 a.h)) := ⟨Frame.held_cell hb1 Ka1.out.1, Frame.held_cell hb1 Ka1.out.2.1, Frame.held_cell hb1 Ka1.out.2.2.1, Frame.held_cell hb1 Ka1.out.2.2.2.1, Frame.held_cell hb1 Ka1.out.2.2.2.2.1, Frame.held_cell hb1 Ka1.out.2.2.2.2.2.1, Frame.held_cell hb1 Ka1.out.2.2.2.2.2.2⟩
            have Kb225 : Hid (w1.cell? ⟨w.heap.size + 1, 0, none⟩ = some (.int .i64 b.r) ∧ w1.cell? ⟨w.heap.size + 1, 1, none⟩ = some (.int .i64 b.k) ∧ w1.cell? ⟨w.heap.size + 1, 2, none⟩ = some (.int .i64 b.t) ∧ w1.cell? ⟨w.heap.size + 1, 3, none⟩ = some (.bool b.lb) ∧ w1.cell? ⟨w.heap.size + 1, 4, none⟩ = some (.int .i64 b.l) ∧ w1.cell? ⟨w.heap.size + 1, 5, none⟩ = some (.bool b.hb) ∧ w1.cell? ⟨w.heap.size + 1, 6, none⟩ = some (.int .i64 b.h)) := ⟨Frame.held_cell hb1 Kb2.out.1, Frame.held_cell hb1 Kb2.out.2.1, Frame.held_cell hb1 Kb2.out.2.2.1, Frame.held_cell hb1 Kb2.out.2.2.2.1, Frame.held_cell hb1 Kb2.out.2.2.2.2.1, Frame.held_cell hb1 Kb2.out.2.2.2.2.2.1, Frame.held_cell hb1 Kb2.out.2.2.2.2.2.2⟩
            have Kr226 : Hid (w1.cell? ⟨w.heap.size + 1 + 1, 0, none⟩ = some (.int .i64 0) ∧ w1.cell? ⟨w.heap.size + 1 + 1, 1, none⟩ = some (.int .i64 0) ∧ w1.cell? ⟨w.heap.size + 1 + 1, 2, none⟩ = some (.int .i64 0) ∧ w1.cell? ⟨w.heap.size + 1 + 1, 3, none⟩ = some (.bool false) ∧ w1.cell? ⟨w.heap.size + 1 + 1, 4, none⟩ = some (.int .i64 0) ∧ w1.cell? ⟨w.heap.size + 1 + 1, 5, none⟩ = some (.bool false) ∧ w1.cell? ⟨w.heap.size + 1 + 1, 6, none⟩ = some (.int .i64 0) ∧ w1.frozen? ⟨w.heap.size + 1 + 1, 0, none⟩ = false ∧ w1.frozen? ⟨w.heap.size + 1 + 1, 1, none⟩ = false ∧ w1.frozen? ⟨w.heap.size + 1 + 1, 2, none⟩ = false ∧ w1.frozen? ⟨w.heap.size + 1 + 1, 3, none⟩ = false ∧ w1.frozen? ⟨w.heap.size + 1 + 1, 4, none⟩ = false ∧ w1.frozen? ⟨w.heap.size + 1 + 1, 5, none⟩ = false ∧ w1.frozen? ⟨w.heap.size + 1 + 1, 6, none⟩ = false) := ⟨Frame.held_cell hb1 Kr3.out.1, Frame.held_cell hb1 Kr3.out.2.1, Frame.held_cell hb1 Kr3.out.2.2.1, Frame.held_cell hb1 Kr3.out.2.2.2.1, Frame.held_cell hb1 Kr3.out.2.2.2.2.1, Frame.held_cell hb1 Kr3.out.2.2.2.2.2.1, Frame.held_cell hb1 Kr3.out.2.2.2.2.2.2.1, (hb1.frozen (p := ⟨w.heap.size + 1 + 1, 0, none⟩) (Frame.cell_lt Kr3.out.1)).trans Kr3.out.2.2.2.2.2.2.2.1, (hb1.frozen (p := ⟨w.heap.size + 1 + 1, 1, none⟩) (Frame.cell_lt Kr3.out.2.1)).trans Kr3.out.2.2.2.2.2.2.2.2.1, (hb1.frozen (p := ⟨w.heap.size + 1 + 1, 2, none⟩) (Frame.cell_lt Kr3.out.2.2.1)).trans Kr3.out.2.2.2.2.2.2.2.2.2.1, (hb1.frozen (p := ⟨w.heap.size + 1 + 1, 3, none⟩) (Frame.cell_lt Kr3.out.2.2.2.1)).trans Kr3.out.2.2.2.2.2.2.2.2.2.2.1, (hb1.frozen (p := ⟨w.heap.size + 1 + 1, 4, none⟩) (Frame.cell_lt Kr3.out.2.2.2.2.1)).trans Kr3.out.2.2.2.2.2.2.2.2.2.2.2.1, (hb1.frozen (p := ⟨w.heap.size + 1 + 1, 5, none⟩) (Frame.cell_lt Kr3.out.2.2.2.2.2.1)).trans Kr3.out.2.2.2.2.2.2.2.2.2.2.2.2.1, (hb1.frozen (p := ⟨w.heap.size + 1 + 1, 6, none⟩) (Frame.cell_lt Kr3.out.2.2.2.2.2.2.1)).trans Kr3.out.2.2.2.2.2.2.2.2.2.2.2.2.2⟩
            have B1 : Hid (Below w.heap.size w w1) := Frame.next B0.out hb1 B0.out.size
            clear hb1
            have qb227 := Kb225.out.1
            have qb228 := Kb225.out.2.1
            have qb229 := Kb225.out.2.2.1
            have qb230 := Kb225.out.2.2.2.1
            have qb231 := Kb225.out.2.2.2.2.1
            have qb232 := Kb225.out.2.2.2.2.2.1
            have qb233 := Kb225.out.2.2.2.2.2.2
            go_wp2_with fail
            refine (spec_GoodSum b.r b.k b.t b.lb b.l b.hb b.h _).mono ?_
            rintro e w2 ⟨rfl, hb2⟩
            rw [HB.out]
            clear qb227 qb228 qb229 qb230 qb231 qb232 qb233
            have Ka234 : Hid (w2.cell? ⟨w.heap.size, 0, none⟩ = some (.int .i64 a.r) ∧ w2.cell? ⟨w.heap.size, 1, none⟩ = some (.int .i64 a.k) ∧ w2.cell? ⟨w.heap.size, 2, none⟩ = some (.int .i64 a.t) ∧ w2.cell? ⟨w.heap.size, 3, none⟩ = some (.bool a.lb) ∧ w2.cell? ⟨w.heap.size, 4, none⟩ = some (.int .i64 a.l) ∧ w2.cell? ⟨w.heap.size, 5, none⟩ = some (.bool a.hb) ∧ w2.cell? ⟨w.heap.size, 6, none⟩ = some (.int .i64 a.h)) := ⟨Frame.held_cell hb2 Ka224.out.1, Frame.held_cell hb2 Ka224.out.2.1, Frame.held_cell hb2 Ka224.out.2.2.1, Frame.held_cell hb2 Ka224.out.2.2.2.1, Frame.held_cell hb2 Ka224.out.2.2.2.2.1, Frame.held_cell hb2 Ka224.out.2.2.2.2.2.1, Frame.held_cell hb2 Ka224.out.2.2.2.2.2.2⟩
            have Kb235 : Hid (w2.cell? ⟨w.heap.size + 1, 0, none⟩ = some (.int .i64 b.r) ∧ w2.cell? ⟨w.heap.size + 1, 1, none⟩ = some (.int .i64 b.k) ∧ w2.cell? ⟨w.heap.size + 1, 2, none⟩ = some (.int .i64 b.t) ∧ w2.cell? ⟨w.heap.size + 1, 3, none⟩ = some (.bool b.lb) ∧ w2.cell? ⟨w.heap.size + 1, 4, none⟩ = some (.int .i64 b.l) ∧ w2.cell? ⟨w.heap.size + 1, 5, none⟩ = some (.bool b.hb) ∧ w2.cell? ⟨w.heap.size + 1, 6, none⟩ = some (.int .i64 b.h)) := ⟨Frame.held_cell hb2 Kb225.out.1, Frame.held_cell hb2 Kb225.out.2.1, Frame.held_cell hb2 Kb225.out.2.2.1, Frame.held_cell hb2 Kb225.out.2.2.2.1, Frame.held_cell hb2 Kb225.out.2.2.2.2.1, Frame.held_cell hb2 Kb225.out.2.2.2.2.2.1, Frame.held_cell hb2 Kb225.out.2.2.2.2.2.2⟩
            have Kr236 : Hid (w2.cell? ⟨w.heap.size + 1 + 1, 0, none⟩ = some (.int .i64 0) ∧ w2.cell? ⟨w.heap.size + 1 + 1, 1, none⟩ = some (.int .i64 0) ∧ w2.cell? ⟨w.heap.size + 1 + 1, 2, none⟩ = some (.int .i64 0) ∧ w2.cell? ⟨w.heap.size + 1 + 1, 3, none⟩ = some (.bool false) ∧ w2.cell? ⟨w.heap.size + 1 + 1, 4, none⟩ = some (.int .i64 0) ∧ w2.cell? ⟨w.heap.size + 1 + 1, 5, none⟩ = some (.bool false) ∧ w2.cell? ⟨w.heap.size + 1 + 1, 6, none⟩ = some (.int .i64 0) ∧ w2.frozen? ⟨w.heap.size + 1 + 1, 0, none⟩ = false ∧ w2.frozen? ⟨w.heap.size + 1 + 1, 1, none⟩ = false ∧ w2.frozen? ⟨w.heap.size + 1 + 1, 2, none⟩ = false ∧ w2.frozen? ⟨w.heap.size + 1 + 1, 3, none⟩ = false ∧ w2.frozen? ⟨w.heap.size + 1 + 1, 4, none⟩ = false ∧ w2.frozen? ⟨w.heap.size + 1 + 1, 5, none⟩ = false ∧ w2.frozen? ⟨w.heap.size + 1 + 1, 6, none⟩ = false) := ⟨Frame.held_cell hb2 Kr226.out.1, Frame.held_cell hb2 Kr226.out.2.1, Frame.held_cell hb2 Kr226.out.2.2.1, Frame.held_cell hb2 Kr226.out.2.2.2.1, Frame.held_cell hb2 Kr226.out.2.2.2.2.1, Frame.held_cell hb2 Kr226.out.2.2.2.2.2.1, Frame.held_cell hb2 Kr226.out.2.2.2.2.2.2.1, (hb2.frozen (p := ⟨w.heap.size + 1 + 1, 0, none⟩) (Frame.cell_lt Kr226.out.1)).trans Kr226.out.2.2.2.2.2.2.2.1, (hb2.frozen (p := ⟨w.heap.size + 1 + 1, 1, none⟩) (Frame.cell_lt Kr226.out.2.1)).trans Kr226.out.2.2.2.2.2.2.2.2.1, (hb2.frozen (p := ⟨w.heap.size + 1 + 1, 2, none⟩) (Frame.cell_lt Kr226.out.2.2.1)).trans Kr226.out.2.2.2.2.2.2.2.2.2.1, (hb2.frozen (p := ⟨w.heap.size + 1 + 1, 3, none⟩) (Frame.cell_lt Kr226.out.2.2.2.1)).trans Kr226.out.2.2.2.2.2.2.2.2.2.2.1, (hb2.frozen (p := ⟨w.heap.size + 1 + 1, 4, none⟩) (Frame.cell_lt Kr226.out.2.2.2.2.1)).trans Kr226.out.2.2.2.2.2.2.2.2.2.2.2.1, (hb2.frozen (p := ⟨w.heap.size + 1 + 1, 5, none⟩) (Frame.cell_lt Kr226.out.2.2.2.2.2.1)).trans Kr226.out.2.2.2.2.2.2.2.2.2.2.2.2.1, (hb2.frozen (p := ⟨w.heap.size + 1 + 1, 6, none⟩) (Frame.cell_lt Kr226.out.2.2.2.2.2.2.1)).trans Kr226.out.2.2.2.2.2.2.2.2.2.2.2.2.2⟩
            have B2 : Hid (Below w.heap.size w w2) := Frame.next B1.out hb2 B1.out.size
            clear hb2
            have qa237 := Ka234.out.1
            have qa238 := Ka234.out.2.1
            have qa239 := Ka234.out.2.2.1
            have qa240 := Ka234.out.2.2.2.1
            have qa241 := Ka234.out.2.2.2.2.1
            have qa242 := Ka234.out.2.2.2.2.2.1
            have qa243 := Ka234.out.2.2.2.2.2.2
            have qb244 := Kb235.out.1
            have qb245 := Kb235.out.2.1
            have qb246 := Kb235.out.2.2.1
            have qb247 := Kb235.out.2.2.2.1
            have qb248 := Kb235.out.2.2.2.2.1
            have qb249 := Kb235.out.2.2.2.2.2.1
            have qb250 := Kb235.out.2.2.2.2.2.2
            have l1 : w.heap.size < w2.heap.size := Frame.cell_lt qa237
            have l2 : w.heap.size + 1 < w2.heap.size := Frame.cell_lt qb244
            go_wp2_with fail
            rw [EW.out.1, EW.out.2.1, EW.out.2.2]
            refine (spec_GoodSum _ _ _ _ _ _ _ _).mono ?_
            rintro e w3 ⟨rfl, hb3⟩
            rw [HG.out]
            clear qa237 qa238 qa239 qa240 qa241 qa242 qa243 qb244 qb245 qb246 qb247 qb248 qb249 qb250
            have hz3 := hb3.size
            rw [World.size_alloc] at hz3
            have bw : Below w2.heap.size w2 w3 := Frame.next ((Below.refl _ _).alloc (Nat.le_refl _) _) hb3 (by simp)
            have Ka251 : Hid (w3.cell? ⟨w.heap.size, 0, none⟩ = some (.int .i64 a.r) ∧ w3.cell? ⟨w.heap.size, 1, none⟩ = some (.int .i64 a.k) ∧ w3.cell? ⟨w.heap.size, 2, none⟩ = some (.int .i64 a.t) ∧ w3.cell? ⟨w.heap.size, 3, none⟩ = some (.bool a.lb) ∧ w3.cell? ⟨w.heap.size, 4, none⟩ = some (.int .i64 a.l) ∧ w3.cell? ⟨w.heap.size, 5, none⟩ = some (.bool a.hb) ∧ w3.cell? ⟨w.heap.size, 6, none⟩ = some (.int .i64 a.h)) := ⟨Frame.held_cell bw Ka234.out.1, Frame.held_cell bw Ka234.out.2.1, Frame.held_cell bw Ka234.out.2.2.1, Frame.held_cell bw Ka234.out.2.2.2.1, Frame.held_cell bw Ka234.out.2.2.2.2.1, Frame.held_cell bw Ka234.out.2.2.2.2.2.1, Frame.held_cell bw Ka234.out.2.2.2.2.2.2⟩
            have Kb252 : Hid (w3.cell? ⟨w.heap.size + 1, 0, none⟩ = some (.int .i64 b.r) ∧ w3.cell? ⟨w.heap.size + 1, 1, none⟩ = some (.int .i64 b.k) ∧ w3.cell? ⟨w.heap.size + 1, 2, none⟩ = some (.int .i64 b.t) ∧ w3.cell? ⟨w.heap.size + 1, 3, none⟩ = some (.bool b.lb) ∧ w3.cell? ⟨w.heap.size + 1, 4, none⟩ = some (.int .i64 b.l) ∧ w3.cell? ⟨w.heap.size + 1, 5, none⟩ = some (.bool b.hb) ∧ w3.cell? ⟨w.heap.size + 1, 6, none⟩ = some (.int .i64 b.h)) := ⟨Frame.held_cell bw Kb235.out.1, Frame.held_cell bw Kb235.out.2.1, Frame.held_cell bw Kb235.out.2.2.1, Frame.held_cell bw Kb235.out.2.2.2.1, Frame.held_cell bw Kb235.out.2.2.2.2.1, Frame.held_cell bw Kb235.out.2.2.2.2.2.1, Frame.held_cell bw Kb235.out.2.2.2.2.2.2⟩
            have Kr253 : Hid (w3.cell? ⟨w.heap.size + 1 + 1, 0, none⟩ = some (.int .i64 0) ∧ w3.cell? ⟨w.heap.size + 1 + 1, 1, none⟩ = some (.int .i64 0) ∧ w3.cell? ⟨w.heap.size + 1 + 1, 2, none⟩ = some (.int .i64 0) ∧ w3.cell? ⟨w.heap.size + 1 + 1, 3, none⟩ = some (.bool false) ∧ w3.cell? ⟨w.heap.size + 1 + 1, 4, none⟩ = some (.int .i64 0) ∧ w3.cell? ⟨w.heap.size + 1 + 1, 5, none⟩ = some (.bool false) ∧ w3.cell? ⟨w.heap.size + 1 + 1, 6, none⟩ = some (.int .i64 0) ∧ w3.frozen? ⟨w.heap.size + 1 + 1, 0, none⟩ = false ∧ w3.frozen? ⟨w.heap.size + 1 + 1, 1, none⟩ = false ∧ w3.frozen? ⟨w.heap.size + 1 + 1, 2, none⟩ = false ∧ w3.frozen? ⟨w.heap.size + 1 + 1, 3, none⟩ = false ∧ w3.frozen? ⟨w.heap.size + 1 + 1, 4, none⟩ = false ∧ w3.frozen? ⟨w.heap.size + 1 + 1, 5, none⟩ = false ∧ w3.frozen? ⟨w.heap.size + 1 + 1, 6, none⟩ = false) := ⟨Frame.held_cell bw Kr236.out.1, Frame.held_cell bw Kr236.out.2.1, Frame.held_cell bw Kr236.out.2.2.1, Frame.held_cell bw Kr236.out.2.2.2.1, Frame.held_cell bw Kr236.out.2.2.2.2.1, Frame.held_cell bw Kr236.out.2.2.2.2.2.1, Frame.held_cell bw Kr236.out.2.2.2.2.2.2.1, (bw.frozen (p := ⟨w.heap.size + 1 + 1, 0, none⟩) (Frame.cell_lt Kr236.out.1)).trans Kr236.out.2.2.2.2.2.2.2.1, (bw.frozen (p := ⟨w.heap.size + 1 + 1, 1, none⟩) (Frame.cell_lt Kr236.out.2.1)).trans Kr236.out.2.2.2.2.2.2.2.2.1, (bw.frozen (p := ⟨w.heap.size + 1 + 1, 2, none⟩) (Frame.cell_lt Kr236.out.2.2.1)).trans Kr236.out.2.2.2.2.2.2.2.2.2.1, (bw.frozen (p := ⟨w.heap.size + 1 + 1, 3, none⟩) (Frame.cell_lt Kr236.out.2.2.2.1)).trans Kr236.out.2.2.2.2.2.2.2.2.2.2.1, (bw.frozen (p := ⟨w.heap.size + 1 + 1, 4, none⟩) (Frame.cell_lt Kr236.out.2.2.2.2.1)).trans Kr236.out.2.2.2.2.2.2.2.2.2.2.2.1, (bw.frozen (p := ⟨w.heap.size + 1 + 1, 5, none⟩) (Frame.cell_lt Kr236.out.2.2.2.2.2.1)).trans Kr236.out.2.2.2.2.2.2.2.2.2.2.2.2.1, (bw.frozen (p := ⟨w.heap.size + 1 + 1, 6, none⟩) (Frame.cell_lt Kr236.out.2.2.2.2.2.2.1)).trans Kr236.out.2.2.2.2.2.2.2.2.2.2.2.2.2⟩
            have o0 : w3.cell? ⟨w2.heap.size, 0, none⟩ = some (.int .i64 (a.r + b.r)) := by rw [(Frame.bcell hb3).1 _ _ (by simp)]; go_simp
            have o1 : w3.cell? ⟨w2.heap.size, 1, none⟩ = some (.int .i64 (a.k + b.k)) := by rw [(Frame.bcell hb3).1 _ _ (by simp)]; go_simp
            have o2 : w3.cell? ⟨w2.heap.size, 2, none⟩ = some (.int .i64 (a.t + b.t)) := by rw [(Frame.bcell hb3).1 _ _ (by simp)]; go_simp
            have o3 : w3.cell? ⟨w2.heap.size, 3, none⟩ = some (.bool a.lb) := by rw [(Frame.bcell hb3).1 _ _ (by simp)]; go_simp
            have o4 : w3.cell? ⟨w2.heap.size, 4, none⟩ = some (.int .i64 a.l) := by rw [(Frame.bcell hb3).1 _ _ (by simp)]; go_simp
            have o5 : w3.cell? ⟨w2.heap.size, 5, none⟩ = some (.bool b.hb) := by rw [(Frame.bcell hb3).1 _ _ (by simp)]; go_simp
            have o6 : w3.cell? ⟨w2.heap.size, 6, none⟩ = some (.int .i64 b.h) := by rw [(Frame.bcell hb3).1 _ _ (by simp)]; go_simp
            have B3 : Hid (Below w.heap.size w w3) := Frame.next B2.out bw B2.out.size
            clear hb3 bw
            have qr254 := Kr253.out.1
            have qr255 := Kr253.out.2.1
            have qr256 := Kr253.out.2.2.1
            have qr257 := Kr253.out.2.2.2.1
            have qr258 := Kr253.out.2.2.2.2.1
            have qr259 := Kr253.out.2.2.2.2.2.1
            have qr260 := Kr253.out.2.2.2.2.2.2.1
            have qr261 := Kr253.out.2.2.2.2.2.2.2.1
            have qr262 := Kr253.out.2.2.2.2.2.2.2.2.1
            have qr263 := Kr253.out.2.2.2.2.2.2.2.2.2.1
            have qr264 := Kr253.out.2.2.2.2.2.2.2.2.2.2.1
            have qr265 := Kr253.out.2.2.2.2.2.2.2.2.2.2.2.1
            have qr266 := Kr253.out.2.2.2.2.2.2.2.2.2.2.2.2.1
            have qr267 := Kr253.out.2.2.2.2.2.2.2.2.2.2.2.2.2
            go_wp2
            refine bodyPost_ret (v := .tuple #[.agg #[.int .i64 0, .int .i64 0, .int .i64 0, .bool false, .int .i64 0, .bool false, .int .i64 0], .bool false]) (by simp [results, Tryd.results18, go_sem, qr254, qr255, qr256, qr257, qr258, qr259, qr260]) rfl ?_
            exact ⟨rfl, (((((((B3.out.setCell hr _).setCell hr _).setCell hr _).setCell hr _).setCell hr _).setCell hr _).setCell hr _)⟩
          · have HG : Hid (goodS (a.r + b.r) (a.k + b.k) (a.t + b.t) a.lb a.l b.hb b.h = true) := hG
            have e : fit (⟨a.r + b.r, a.k + b.k, a.t + b.t, a.lb, a.l, b.hb, b.h⟩ : Sm) = (⟨a.r + b.r, a.k + b.k, a.t + b.t, a.lb, a.l, b.hb, b.h⟩ : Sm) := if_pos hG
            have e' : (⟨a.r + b.r, a.k + b.k, a.t + b.t, a.lb, a.l, b.hb, b.h⟩ : Sm).good = true := hG
            rw [e, e']
            clear e e' hG
            go_enter Tryd.func18, Tryd.ntmps18
            go_wp2_with fail
            refine (spec_GoodSum a.r a.k a.t a.lb a.l a.hb a.h _).mono ?_
            rintro e w1 ⟨rfl, hb1⟩
            rw [HA.out]
            have Ka268 : Hid (w1.cell? ⟨w.heap.size, 0, none⟩ = some (.int .i64 a.r) ∧ w1.cell? ⟨w.heap.size, 1, none⟩ = some (.int .i64 a.k) ∧ w1.cell? ⟨w.heap.size, 2, none⟩ = some (.int .i64 a.t) ∧ w1.cell? ⟨w.heap.size, 3, none⟩ = some (.bool a.lb) ∧ w1.cell? ⟨w.heap.size, 4, none⟩ = some (.int .i64 a.l) ∧ w1.cell? ⟨w.heap.size, 5, none⟩ = some (.bool a.hb) ∧ w1.cell? ⟨w.heap.size, 6, none⟩ = some (.int .i64 a.h)) := ⟨Frame.held_cell hb1 Ka1.out.1, Frame.held_cell hb1 Ka1.out.2.1, Frame.held_cell hb1 Ka1.out.2.2.1, Frame.held_cell hb1 Ka1.out.2.2.2.1, Frame.held_cell hb1 Ka1.out.2.2.2.2.1, Frame.held_cell hb1 Ka1.out.2.2.2.2.2.1, Frame.held_cell hb1 Ka1.out.2.2.2.2.2.2⟩
            have Kb269 : Hid (w1.cell? ⟨w.heap.size + 1, 0, none⟩ = some (.int .i64 b.r) ∧ w1.cell? ⟨w.heap.size + 1, 1, none⟩ = some (.int .i64 b.k) ∧ w1.cell? ⟨w.heap.size + 1, 2, none⟩ = some (.int .i64 b.t) ∧ w1.cell? ⟨w.heap.size + 1, 3, none⟩ = some (.bool b.lb) ∧ w1.cell? ⟨w.heap.size + 1, 4, none⟩ = some (.int .i64 b.l) ∧ w1.cell? ⟨w.heap.size + 1, 5, none⟩ = some (.bool b.hb) ∧ w1.cell? ⟨w.heap.size + 1, 6, none⟩ = some (.int .i64 b.h)) := ⟨Frame.held_cell hb1 Kb2.out.1, Frame.held_cell hb1 Kb2.out.2.1, Frame.held_cell hb1 Kb2.out.2.2.1, Frame.held_cell hb1 Kb2.out.2.2.2.1, Frame.held_cell hb1 Kb2.out.2.2.2.2.1, Frame.held_cell hb1 Kb2.out.2.2.2.2.2.1, Frame.held_cell hb1 Kb2.out.2.2.2.2.2.2⟩
            have Kr270 : Hid (w1.cell? ⟨w.heap.size + 1 + 1, 0, none⟩ = some (.int .i64 0) ∧ w1.cell? ⟨w.heap.size + 1 + 1, 1, none⟩ = some (.int .i64 0) ∧ w1.cell? ⟨w.heap.size + 1 + 1, 2, none⟩ = some (.int .i64 0) ∧ w1.cell? ⟨w.heap.size + 1 + 1, 3, none⟩ = some (.bool false) ∧ w1.cell? ⟨w.heap.size + 1 + 1, 4, none⟩ = some (.int .i64 0) ∧ w1.cell? ⟨w.heap.size + 1 + 1, 5, none⟩ = some (.bool false) ∧ w1.cell? ⟨w.heap.size + 1 + 1, 6, none⟩ = some (.int .i64 0) ∧ w1.frozen? ⟨w.heap.size + 1 + 1, 0, none⟩ = false ∧ w1.frozen? ⟨w.heap.size + 1 + 1, 1, none⟩ = false ∧ w1.frozen? ⟨w.heap.size + 1 + 1, 2, none⟩ = false ∧ w1.frozen? ⟨w.heap.size + 1 + 1, 3, none⟩ = false ∧ w1.frozen? ⟨w.heap.size + 1 + 1, 4, none⟩ = false ∧ w1.frozen? ⟨w.heap.size + 1 + 1, 5, none⟩ = false ∧ w1.frozen? ⟨w.heap.size + 1 + 1, 6, none⟩ = false) := ⟨Frame.held_cell hb1 Kr3.out.1, Frame.held_cell hb1 Kr3.out.2.1, Frame.held_cell hb1 Kr3.out.2.2.1, Frame.held_cell hb1 Kr3.out.2.2.2.1, Frame.held_cell hb1 Kr3.out.2.2.2.2.1, Frame.held_cell hb1 Kr3.out.2.2.2.2.2.1, Frame.held_cell hb1 Kr3.out.2.2.2.2.2.2.1, (hb1.frozen (p := ⟨w.heap.size + 1 + 1, 0, none⟩) (Frame.cell_lt Kr3.out.1)).trans Kr3.out.2.2.2.2.2.2.2.1, (hb1.frozen (p := ⟨w.heap.size + 1 + 1, 1, none⟩) (Frame.cell_lt Kr3.out.2.1)).trans Kr3.out.2.2.2.2.2.2.2.2.1, (hb1.frozen (p := ⟨w.heap.size + 1 + 1, 2, none⟩) (Frame.cell_lt Kr3.out.2.2.1)).trans Kr3.out.2.2.2.2.2.2.2.2.2.1, (hb1.frozen (p := ⟨w.heap.size + 1 + 1, 3, none⟩) (Frame.cell_lt Kr3.out.2.2.2.1)).trans Kr3.out.2.2.2.2.2.2.2.2.2.2.1, (hb1.frozen (p := ⟨w.heap.size + 1 + 1, 4, none⟩) (Frame.cell_lt Kr3.out.2.2.2.2.1)).trans Kr3.out.2.2.2.2.2.2.2.2.2.2.2.1, (hb1.frozen (p := ⟨w.heap.size + 1 + 1, 5, none⟩) (Frame.cell_lt Kr3.out.2.2.2.2.2.1)).trans Kr3.out.2.2.2.2.2.2.2.2.2.2.2.2.1, (hb1.frozen (p := ⟨w.heap.size + 1 + 1, 6, none⟩) (Frame.cell_lt Kr3.out.2.2.2.2.2.2.1)).trans Kr3.out.2.2.2.2.2.2.2.2.2.2.2.2.2⟩
            have B1 : Hid (Below w.heap.size w w1) := Frame.next B0.out hb1 B0.out.size
            clear hb1
            have qb271 := Kb269.out.1
            have qb272 := Kb269.out.2.1
            have qb273 := Kb269.out.2.2.1
            have qb274 := Kb269.out.2.2.2.1
            have qb275 := Kb269.out.2.2.2.2.1
            have qb276 := Kb269.out.2.2.2.2.2.1
            have qb277 := Kb269.out.2.2.2.2.2.2
            go_wp2_with fail
            refine (spec_GoodSum b.r b.k b.t b.lb b.l b.hb b.h _).mono ?_
            rintro e w2 ⟨rfl, hb2⟩
            rw [HB.out]
            clear qb271 qb272 qb273 qb274 qb275 qb276 qb277
            have Ka278 : Hid (w2.cell? ⟨w.heap.size, 0, none⟩ = some (.int .i64 a.r) ∧ w2.cell? ⟨w.heap.size, 1, none⟩ = some (.int .i64 a.k) ∧ w2.cell? ⟨w.heap.size, 2, none⟩ = some (.int .i64 a.t) ∧ w2.cell? ⟨w.heap.size, 3, none⟩ = some (.bool a.lb) ∧ w2.cell? ⟨w.heap.size, 4, none⟩ = some (.int .i64 a.l) ∧ w2.cell? ⟨w.heap.size, 5, none⟩ = some (.bool a.hb) ∧ w2.cell? ⟨w.heap.size, 6, none⟩ = some (.int .i64 a.h)) := ⟨Frame.held_cell hb2 Ka268.out.1, Frame.held_cell hb2 Ka268.out.2.1, Frame.held_cell hb2 Ka268.out.2.2.1, Frame.held_cell hb2 Ka268.out.2.2.2.1, Frame.held_cell hb2 Ka268.out.2.2.2.2.1, Frame.held_cell hb2 Ka268.out.2.2.2.2.2.1, Frame.held_cell hb2 Ka268.out.2.2.2.2.2.2⟩
            have Kb279 : Hid (w2.cell? ⟨w.heap.size + 1, 0, none⟩ = some (.int .i64 b.r) ∧ w2.cell? ⟨w.heap.size + 1, 1, none⟩ = some (.int .i64 b.k) ∧ w2.cell? ⟨w.heap.size + 1, 2, none⟩ = some (.int .i64 b.t) ∧ w2.cell? ⟨w.heap.size + 1, 3, none⟩ = some (.bool b.lb) ∧ w2.cell? ⟨w.heap.size + 1, 4, none⟩ = some (.int .i64 b.l) ∧ w2.cell? ⟨w.heap.size + 1, 5, none⟩ = some (.bool b.hb) ∧ w2.cell? ⟨w.heap.size + 1, 6, none⟩ = some (.int .i64 b.h)) := ⟨Frame.held_cell hb2 Kb269.out.1, Frame.held_cell hb2 Kb269.out.2.1, Frame.held_cell hb2 Kb269.out.2.2.1, Frame.held_cell hb2 Kb269.out.2.2.2.1, Frame.held_cell hb2 Kb269.out.2.2.2.2.1, Frame.held_cell hb2 Kb269.out.2.2.2.2.2.1, Frame.held_cell hb2 Kb269.out.2.2.2.2.2.2⟩
            have Kr280 : Hid (w2.cell? ⟨w.heap.size + 1 + 1, 0, none⟩ = some (.int .i64 0) ∧ w2.cell? ⟨w.heap.size + 1 + 1, 1, none⟩ = some (.int .i64 0) ∧ w2.cell? ⟨w.heap.size + 1 + 1, 2, none⟩ = some (.int .i64 0) ∧ w2.cell? ⟨w.heap.size + 1 + 1, 3, none⟩ = some (.bool false) ∧ w2.cell? ⟨w.heap.size + 1 + 1, 4, none⟩ = some (.int .i64 0) ∧ w2.cell? ⟨w.heap.size + 1 + 1, 5, none⟩ = some (.bool false) ∧ w2.cell? ⟨w.heap.size + 1 + 1, 6, none⟩ = some (.int .i64 0) ∧ w2.frozen? ⟨w.heap.size + 1 + 1, 0, none⟩ = false ∧ w2.frozen? ⟨w.heap.size + 1 + 1, 1, none⟩ = false ∧ w2.frozen? ⟨w.heap.size + 1 + 1, 2, none⟩ = false ∧ w2.frozen? ⟨w.heap.size + 1 + 1, 3, none⟩ = false ∧ w2.frozen? ⟨w.heap.size + 1 + 1, 4, none⟩ = false ∧ w2.frozen? ⟨w.heap.size + 1 + 1, 5, none⟩ = false ∧ w2.frozen? ⟨w.heap.size + 1 + 1, 6, none⟩ = false) := ⟨Frame.held_cell hb2 Kr270.out.1, Frame.held_cell hb2 Kr270.out.2.1, Frame.held_cell hb2 Kr270.out.2.2.1, Frame.held_cell hb2 Kr270.out.2.2.2.1, Frame.held_cell hb2 Kr270.out.2.2.2.2.1, Frame.held_cell hb2 Kr270.out.2.2.2.2.2.1, Frame.held_cell hb2 Kr270.out.2.2.2.2.2.2.1, (hb2.frozen (p := ⟨w.heap.size + 1 + 1, 0, none⟩) (Frame.cell_lt Kr270.out.1)).trans Kr270.out.2.2.2.2.2.2.2.1, (hb2.frozen (p := ⟨w.heap.size + 1 + 1, 1, none⟩) (Frame.cell_lt Kr270.out.2.1)).trans Kr270.out.2.2.2.2.2.2.2.2.1, (hb2.frozen (p := ⟨w.heap.size + 1 + 1, 2, none⟩) (Frame.cell_lt Kr270.out.2.2.1)).trans Kr270.out.2.2.2.2.2.2.2.2.2.1, (hb2.frozen (p := ⟨w.heap.size + 1 + 1, 3, none⟩) (Frame.cell_lt Kr270.out.2.2.2.1)).trans Kr270.out.2.2.2.2.2.2.2.2.2.2.1, (hb2.frozen (p := ⟨w.heap.size + 1 + 1, 4, none⟩) (Frame.cell_lt Kr270.out.2.2.2.2.1)).trans Kr270.out.2.2.2.2.2.2.2.2.2.2.2.1, (hb2.frozen (p := ⟨w.heap.size + 1 + 1, 5, none⟩) (Frame.cell_lt Kr270.out.2.2.2.2.2.1)).trans Kr270.out.2.2.2.2.2.2.2.2.2.2.2.2.1, (hb2.frozen (p := ⟨w.heap.size + 1 + 1, 6, none⟩) (Frame.cell_lt Kr270.out.2.2.2.2.2.2.1)).trans Kr270.out.2.2.2.2.2.2.2.2.2.2.2.2.2⟩
            have B2 : Hid (Below w.heap.size w w2) := Frame.next B1.out hb2 B1.out.size
            clear hb2
            have qa281 := Ka278.out.1
            have qa282 := Ka278.out.2.1
            have qa283 := Ka278.out.2.2.1
            have qa284 := Ka278.out.2.2.2.1
            have qa285 := Ka278.out.2.2.2.2.1
            have qa286 := Ka278.out.2.2.2.2.2.1
            have qa287 := Ka278.out.2.2.2.2.2.2
            have qb288 := Kb279.out.1
            have qb289 := Kb279.out.2.1
            have qb290 := Kb279.out.2.2.1
            have qb291 := Kb279.out.2.2.2.1
            have qb292 := Kb279.out.2.2.2.2.1
            have qb293 := Kb279.out.2.2.2.2.2.1
            have qb294 := Kb279.out.2.2.2.2.2.2
            have l1 : w.heap.size < w2.heap.size := Frame.cell_lt qa281
            have l2 : w.heap.size + 1 < w2.heap.size := Frame.cell_lt qb288
            go_wp2_with fail
            rw [EW.out.1, EW.out.2.1, EW.out.2.2]
            refine (spec_GoodSum _ _ _ _ _ _ _ _).mono ?_
            rintro e w3 ⟨rfl, hb3⟩
            rw [HG.out]
            clear qa281 qa282 qa283 qa284 qa285 qa286 qa287 qb288 qb289 qb290 qb291 qb292 qb293 qb294
            have hz3 := hb3.size
            rw [World.size_alloc] at hz3
            have bw : Below w2.heap.size w2 w3 := Frame.next ((Below.refl _ _).alloc (Nat.le_refl _) _) hb3 (by simp)
            have Ka295 : Hid (w3.cell? ⟨w.heap.size, 0, none⟩ = some (.int .i64 a.r) ∧ w3.cell? ⟨w.heap.size, 1, none⟩ = some (.int .i64 a.k) ∧ w3.cell? ⟨w.heap.size, 2, none⟩ = some (.int .i64 a.t) ∧ w3.cell? ⟨w.heap.size, 3, none⟩ = some (.bool a.lb) ∧ w3.cell? ⟨w.heap.size, 4, none⟩ = some (.int .i64 a.l) ∧ w3.cell? ⟨w.heap.size, 5, none⟩ = some (.bool a.hb) ∧ w3.cell? ⟨w.heap.size, 6, none⟩ = some (.int .i64 a.h)) := ⟨Frame.held_cell bw Ka278.out.1, Frame.held_cell bw Ka278.out.2.1, Frame.held_cell bw Ka278.out.2.2.1, Frame.held_cell bw Ka278.out.2.2.2.1, Frame.held_cell bw Ka278.out.2.2.2.2.1, Frame.held_cell bw Ka278.out.2.2.2.2.2.1, Frame.held_cell bw Ka278.out.2.2.2.2.2.2⟩
            have Kb296 : Hid (w3.cell? ⟨w.heap.size + 1, 0, none⟩ = some (.int .i64 b.r) ∧ w3.cell? ⟨w.heap.size + 1, 1, none⟩ = some (.int .i64 b.k) ∧ w3.cell? ⟨w.heap.size + 1, 2, none⟩ = some (.int .i64 b.t) ∧ w3.cell? ⟨w.heap.size + 1, 3, none⟩ = some (.bool b.lb) ∧ w3.cell? ⟨w.heap.size + 1, 4, none⟩ = some (.int .i64 b.l) ∧ w3.cell? ⟨w.heap.size + 1, 5, none⟩ = some (.bool b.hb) ∧ w3.cell? ⟨w.heap.size + 1, 6, none⟩ = some (.int .i64 b.h)) := ⟨Frame.held_cell bw Kb279.out.1, Frame.held_cell bw Kb279.out.2.1, Frame.held_cell bw Kb279.out.2.2.1, Frame.held_cell bw Kb279.out.2.2.2.1, Frame.held_cell bw Kb279.out.2.2.2.2.1, Frame.held_cell bw Kb279.out.2.2.2.2.2.1, Frame.held_cell bw Kb279.out.2.2.2.2.2.2⟩
            have Kr297 : Hid (w3.cell? ⟨w.heap.size + 1 + 1, 0, none⟩ = some (.int .i64 0) ∧ w3.cell? ⟨w.heap.size + 1 + 1, 1, none⟩ = some (.int .i64 0) ∧ w3.cell? ⟨w.heap.size + 1 + 1, 2, none⟩ = some (.int .i64 0) ∧ w3.cell? ⟨w.heap.size + 1 + 1, 3, none⟩ = some (.bool false) ∧ w3.cell? ⟨w.heap.size + 1 + 1, 4, none⟩ = some (.int .i64 0) ∧ w3.cell? ⟨w.heap.size + 1 + 1, 5, none⟩ = some (.bool false) ∧ w3.cell? ⟨w.heap.size + 1 + 1, 6, none⟩ = some (.int .i64 0) ∧ w3.frozen? ⟨w.heap.size + 1 + 1, 0, none⟩ = false ∧ w3.frozen? ⟨w.heap.size + 1 + 1, 1, none⟩ = false ∧ w3.frozen? ⟨w.heap.size + 1 + 1, 2, none⟩ = false ∧ w3.frozen? ⟨w.heap.size + 1 + 1, 3, none⟩ = false ∧ w3.frozen? ⟨w.heap.size + 1 + 1, 4, none⟩ = false ∧ w3.frozen? ⟨w.heap.size + 1 + 1, 5, none⟩ = false ∧ w3.frozen? ⟨w.heap.size + 1 + 1, 6, none⟩ = false) := ⟨Frame.held_cell bw Kr280.out.1, Frame.held_cell bw Kr280.out.2.1, Frame.held_cell bw Kr280.out.2.2.1, Frame.held_cell bw Kr280.out.2.2.2.1, Frame.held_cell bw Kr280.out.2.2.2.2.1, Frame.held_cell bw Kr280.out.2.2.2.2.2.1, Frame.held_cell bw Kr280.out.2.2.2.2.2.2.1, (bw.frozen (p := ⟨w.heap.size + 1 + 1, 0, none⟩) (Frame.cell_lt Kr280.out.1)).trans Kr280.out.2.2.2.2.2.2.2.1, (bw.frozen (p := ⟨w.heap.size + 1 + 1, 1, none⟩) (Frame.cell_lt Kr280.out.2.1)).trans Kr280.out.2.2.2.2.2.2.2.2.1, (bw.frozen (p := ⟨w.heap.size + 1 + 1, 2, none⟩) (Frame.cell_lt Kr280.out.2.2.1)).trans Kr280.out.2.2.2.2.2.2.2.2.2.1, (bw.frozen (p := ⟨w.heap.size + 1 + 1, 3, none⟩) (Frame.cell_lt Kr280.out.2.2.2.1)).trans Kr280.out.2.2.2.2.2.2.2.2.2.2.1, (bw.frozen (p := ⟨w.heap.size + 1 + 1, 4, none⟩) (Frame.cell_lt Kr280.out.2.2.2.2.1)).trans Kr280.out.2.2.2.2.2.2.2.2.2.2.2.1, (bw.frozen (p := ⟨w.heap.size + 1 + 1, 5, none⟩) (Frame.cell_lt Kr280.out.2.2.2.2.2.1)).trans Kr280.out.2.2.2.2.2.2.2.2.2.2.2.2.1, (bw.frozen (p := ⟨w.heap.size + 1 + 1, 6, none⟩) (Frame.cell_lt Kr280.out.2.2.2.2.2.2.1)).trans Kr280.out.2.2.2.2.2.2.2.2.2.2.2.2.2⟩
            have o0 : w3.cell? ⟨w2.heap.size, 0, none⟩ = some (.int .i64 (a.r + b.r)) := by rw [(Frame.bcell hb3).1 _ _ (by simp)]; go_simp
            have o1 : w3.cell? ⟨w2.heap.size, 1, none⟩ = some (.int .i64 (a.k + b.k)) := by rw [(Frame.bcell hb3).1 _ _ (by simp)]; go_simp
            have o2 : w3.cell? ⟨w2.heap.size, 2, none⟩ = some (.int .i64 (a.t + b.t)) := by rw [(Frame.bcell hb3).1 _ _ (by simp)]; go_simp
            have o3 : w3.cell? ⟨w2.heap.size, 3, none⟩ = some (.bool a.lb) := by rw [(Frame.bcell hb3).1 _ _ (by simp)]; go_simp
            have o4 : w3.cell? ⟨w2.heap.size, 4, none⟩ = some (.int .i64 a.l) := by rw [(Frame.bcell hb3).1 _ _ (by simp)]; go_simp
            have o5 : w3.cell? ⟨w2.heap.size, 5, none⟩ = some (.bool b.hb) := by rw [(Frame.bcell hb3).1 _ _ (by simp)]; go_simp
            have o6 : w3.cell? ⟨w2.heap.size, 6, none⟩ = some (.int .i64 b.h) := by rw [(Frame.bcell hb3).1 _ _ (by simp)]; go_simp
            have B3 : Hid (Below w.heap.size w w3) := Frame.next B2.out bw B2.out.size
            clear hb3 bw
            have qr298 := Kr297.out.1
            have qr299 := Kr297.out.2.1
            have qr300 := Kr297.out.2.2.1
            have qr301 := Kr297.out.2.2.2.1
            have qr302 := Kr297.out.2.2.2.2.1
            have qr303 := Kr297.out.2.2.2.2.2.1
            have qr304 := Kr297.out.2.2.2.2.2.2.1
            have qr305 := Kr297.out.2.2.2.2.2.2.2.1
            have qr306 := Kr297.out.2.2.2.2.2.2.2.2.1
            have qr307 := Kr297.out.2.2.2.2.2.2.2.2.2.1
            have qr308 := Kr297.out.2.2.2.2.2.2.2.2.2.2.1
            have qr309 := Kr297.out.2.2.2.2.2.2.2.2.2.2.2.1
            have qr310 := Kr297.out.2.2.2.2.2.2.2.2.2.2.2.2.1
            have qr311 := Kr297.out.2.2.2.2.2.2.2.2.2.2.2.2.2
            go_wp2
            refine bodyPost_ret (v := .tuple #[.agg #[.int .i64 (a.r + b.r), .int .i64 (a.k + b.k), .int .i64 (a.t + b.t), .bool a.lb, .int .i64 a.l, .bool b.hb, .int .i64 b.h], .bool true]) (by simp [results, Tryd.results18, go_sem, qr298, qr299, qr300, qr301, qr302, qr303, qr304]) rfl ?_
            exact ⟨rfl, (((((((B3.out.setCell hr _).setCell hr _).setCell hr _).setCell hr _).setCell hr _).setCell hr _).setCell hr _)⟩
        · skip
          have T : tog a b = (⟨a.r + b.r, a.k + b.k, a.t + b.t, a.lb, a.l, a.hb, a.h⟩ : Sm) := by rw [TI, show lowB a b = false from by unfold lowB; simp [hk, hb, hl], show highB a b = false from by unfold highB; simp [hk, hb, hh]]; rfl
          rw [T]
          clear T TI
          cases hG : goodS (a.r + b.r) (a.k + b.k) (a.t + b.t) a.lb a.l a.hb a.h
          · have HG : Hid (goodS (a.r + b.r) (a.k + b.k) (a.t + b.t) a.lb a.l a.hb a.h = false) := hG
            have e : fit (⟨a.r + b.r, a.k + b.k, a.t + b.t, a.lb, a.l, a.hb, a.h⟩ : Sm) = zeroS := if_neg (by unfold Sm.good; rw [hG]; exact Bool.false_ne_true)
            have e' : (⟨a.r + b.r, a.k + b.k, a.t + b.t, a.lb, a.l, a.hb, a.h⟩ : Sm).good = false := hG
            rw [e, e']
            clear e e' hG
            go_enter Tryd.func18, Tryd.ntmps18
            go_wp2_with fail
            refine (spec_GoodSum a.r a.k a.t a.lb a.l a.hb a.h _).mono ?_
            rintro e w1 ⟨rfl, hb1⟩
            rw [HA.out]
            have Ka312 : Hid (w1.cell? ⟨w.heap.size, 0, none⟩ = some (.int .i64 a.r) ∧ w1.cell? ⟨w.heap.size, 1, none⟩ = some (.int .i64 a.k) ∧ w1.cell? ⟨w.heap.size, 2, none⟩ = some (.int .i64 a.t) ∧ w1.cell? ⟨w.heap.size, 3, none⟩ = some (.bool a.lb) ∧ w1.cell? ⟨w.heap.size, 4, none⟩ = some (.int .i64 a.l) ∧ w1.cell? ⟨w.heap.size, 5, none⟩ = some (.bool a.hb) ∧ w1.cell? ⟨w.heap.size, 6, none⟩ = some (.int .i64 a.h)) := ⟨Frame.held_cell hb1 Ka1.out.1, Frame.held_cell hb1 Ka1.out.2.1, Frame.held_cell hb1 Ka1.out.2.2.1, Frame.held_cell hb1 Ka1.out.2.2.2.1, Frame.held_cell hb1 Ka1.out.2.2.2.2.1, Frame.held_cell hb1 Ka1.out.2.2.2.2.2.1, Frame.held_cell hb1 Ka1.out.2.2.2.2.2.2⟩
            have Kb313 : Hid (w1.cell? ⟨w.heap.size + 1, 0, none⟩ = some (.int .i64 b.r) ∧ w1.cell? ⟨w.heap.size + 1, 1, none⟩ = some (.int .i64 b.k) ∧ w1.cell? ⟨w.heap.size + 1, 2, none⟩ = some (.int .i64 b.t) ∧ w1.cell? ⟨w.heap.size + 1, 3, none⟩ = some (.bool b.lb) ∧ w1.cell? ⟨w.heap.size + 1, 4, none⟩ = some (.int .i64 b.l) ∧ w1.cell? ⟨w.heap.size + 1, 5, none⟩ = some (.bool b.hb) ∧ w1.cell? ⟨w.heap.size + 1, 6, none⟩ = some (.int .i64 b.h)) := ⟨Frame.held_cell hb1 Kb2.out.1, Frame.held_cell hb1 Kb2.out.2.1, Frame.held_cell hb1 Kb2.out.2.2.1, Frame.held_cell hb1 Kb2.out.2.2.2.1, Frame.held_cell hb1 Kb2.out.2.2.2.2.1, Frame.held_cell hb1 Kb2.out.2.2.2.2.2.1, Frame.held_cell hb1 Kb2.out.2.2.2.2.2.2⟩
            have Kr314 : Hid (w1.cell? ⟨w.heap.size + 1 + 1, 0, none⟩ = some (.int .i64 0) ∧ w1.cell? ⟨w.heap.size + 1 + 1, 1, none⟩ = some (.int .i64 0) ∧ w1.cell? ⟨w.heap.size + 1 + 1, 2, none⟩ = some (.int .i64 0) ∧ w1.cell? ⟨w.heap.size + 1 + 1, 3, none⟩ = some (.bool false) ∧ w1.cell? ⟨w.heap.size + 1 + 1, 4, none⟩ = some (.int .i64 0) ∧ w1.cell? ⟨w.heap.size + 1 + 1, 5, none⟩ = some (.bool false) ∧ w1.cell? ⟨w.heap.size + 1 + 1, 6, none⟩ = some (.int .i64 0) ∧ w1.frozen? ⟨w.heap.size + 1 + 1, 0, none⟩ = false ∧ w1.frozen? ⟨w.heap.size + 1 + 1, 1, none⟩ = false ∧ w1.frozen? ⟨w.heap.size + 1 + 1, 2, none⟩ = false ∧ w1.frozen? ⟨w.heap.size + 1 + 1, 3, none⟩ = false ∧ w1.frozen? ⟨w.heap.size + 1 + 1, 4, none⟩ = false ∧ w1.frozen? ⟨w.heap.size + 1 + 1, 5, none⟩ = false ∧ w1.frozen? ⟨w.heap.size + 1 + 1, 6, none⟩ = false) := ⟨Frame.held_cell hb1 Kr3.out.1, Frame.held_cell hb1 Kr3.out.2.1, Frame.held_cell hb1 Kr3.out.2.2.1, Frame.held_cell hb1 Kr3.out.2.2.2.1, Frame.held_cell hb1 Kr3.out.2.2.2.2.1, Frame.held_cell hb1 Kr3.out.2.2.2.2.2.1, Frame.held_cell hb1 Kr3.out.2.2.2.2.2.2.1, (hb1.frozen (p := ⟨w.heap.size + 1 + 1, 0, none⟩) (Frame.cell_lt Kr3.out.1)).trans Kr3.out.2.2.2.2.2.2.2.1, (hb1.frozen (p := ⟨w.heap.size + 1 + 1, 1, none⟩) (Frame.cell_lt Kr3.out.2.1)).trans Kr3.out.2.2.2.2.2.2.2.2.1, (hb1.frozen (p := ⟨w.heap.size + 1 + 1, 2, none⟩) (Frame.cell_lt Kr3.out.2.2.1)).trans Kr3.out.2.2.2.2.2.2.2.2.2.1, (hb1.frozen (p := ⟨w.heap.size + 1 + 1, 3, none⟩) (Frame.cell_lt Kr3.out.2.2.2.1)).trans Kr3.out.2.2.2.2.2.2.2.2.2.2.1, (hb1.frozen (p := ⟨w.heap.size + 1 + 1, 4, none⟩) (Frame.cell_lt Kr3.out.2.2.2.2.1)).trans Kr3.out.2.2.2.2.2.2.2.2.2.2.2.1, (hb1.frozen (p := ⟨w.heap.size + 1 + 1, 5, none⟩) (Frame.cell_lt Kr3.out.2.2.2.2.2.1)).trans Kr3.out.2.2.2.2.2.2.2.2.2.2.2.2.1, (hb1.frozen (p := ⟨w.heap.size + 1 + 1, 6, none⟩) (Frame.cell_lt Kr3.out.2.2.2.2.2.2.1)).trans Kr3.out.2.2.2.2.2.2.2.2.2.2.2.2.2⟩
            have B1 : Hid (Below w.heap.size w w1) := Frame.next B0.out hb1 B0.out.size
            clear hb1
            have qb315 := Kb313.out.1
            have qb316 := Kb313.out.2.1
            have qb317 := Kb313.out.2.2.1
            have qb318 := Kb313.out.2.2.2.1
            have qb319 := Kb313.out.2.2.2.2.1
            have qb320 := Kb313.out.2.2.2.2.2.1
            have qb321 := Kb313.out.2.2.2.2.2.2
            go_wp2_with fail
            refine (spec_GoodSum b.r b.k b.t b.lb b.l b.hb b.h _).mono ?_
            rintro e w2 ⟨rfl, hb2⟩
            rw [HB.out]
            clear qb315 qb316 qb317 qb318 qb319 qb320 qb321
            have Ka322 : Hid (w2.cell? ⟨w.heap.size, 0, none⟩ = some (.int .i64 a.r) ∧ w2.cell? ⟨w.heap.size, 1, none⟩ = some (.int .i64 a.k) ∧ w2.cell? ⟨w.heap.size, 2, none⟩ = some (.int .i64 a.t) ∧ w2.cell? ⟨w.heap.size, 3, none⟩ = some (.bool a.lb) ∧ w2.cell? ⟨w.heap.size, 4, none⟩ = some (.int .i64 a.l) ∧ w2.cell? ⟨w.heap.size, 5, none⟩ = some (.bool a.hb) ∧ w2.cell? ⟨w.heap.size, 6, none⟩ = some (.int .i64 a.h)) := ⟨Frame.held_cell hb2 Ka312.out.1, Frame.held_cell hb2 Ka312.out.2.1, Frame.held_cell hb2 Ka312.out.2.2.1, Frame.held_cell hb2 Ka312.out.2.2.2.1, Frame.held_cell hb2 Ka312.out.2.2.2.2.1, Frame.held_cell hb2 Ka312.out.2.2.2.2.2.1, Frame.held_cell hb2 Ka312.out.2.2.2.2.2.2⟩
            have Kb323 : Hid (w2.cell? ⟨w.heap.size + 1, 0, none⟩ = some (.int .i64 b.r) ∧ w2.cell? ⟨w.heap.size + 1, 1, none⟩ = some (.int .i64 b.k) ∧ w2.cell? ⟨w.heap.size + 1, 2, none⟩ = some (.int .i64 b.t) ∧ w2.cell? ⟨w.heap.size + 1, 3, none⟩ = some (.bool b.lb) ∧ w2.cell? ⟨w.heap.size + 1, 4, none⟩ = some (.int .i64 b.l) ∧ w2.cell? ⟨w.heap.size + 1, 5, none⟩ = some (.bool b.hb) ∧ w2.cell? ⟨w.heap.size + 1, 6, none⟩ = some (.int .i64 b.h)) := ⟨Frame.held_cell hb2 Kb313.out.1, Frame.held_cell hb2 Kb313.out.2.1, Frame.held_cell hb2 Kb313.out.2.2.1, Frame.held_cell hb2 Kb313.out.2.2.2.1, Frame.held_cell hb2 Kb313.out.2.2.2.2.1, Frame.held_cell hb2 Kb313.out.2.2.2.2.2.1, Frame.held_cell hb2 Kb313.out.2.2.2.2.2.2⟩
            have Kr324 : Hid (w2.cell? ⟨w.heap.size + 1 + 1, 0, none⟩ = some (.int .i64 0) ∧ w2.cell? ⟨w.heap.size + 1 + 1, 1, none⟩ = some (.int .i64 0) ∧ w2.cell? ⟨w.heap.size + 1 + 1, 2, none⟩ = some (.int .i64 0) ∧ w2.cell? ⟨w.heap.size + 1 + 1, 3, none⟩ = some (.bool false) ∧ w2.cell? ⟨w.heap.size + 1 + 1, 4, none⟩ = some (.int .i64 0) ∧ w2.cell? ⟨w.heap.size + 1 + 1, 5, none⟩ = some (.bool false) ∧ w2.cell? ⟨w.heap.size + 1 + 1, 6, none⟩ = some (.int .i64 0) ∧ w2.frozen? ⟨w.heap.size + 1 + 1, 0, none⟩ = false ∧ w2.frozen? ⟨w.heap.size + 1 + 1, 1, none⟩ = false ∧ w2.frozen? ⟨w.heap.size + 1 + 1, 2, none⟩ = false ∧ w2.frozen? ⟨w.heap.size + 1 + 1, 3, none⟩ = false ∧ w2.frozen? ⟨w.heap.size + 1 + 1, 4, none⟩ = false ∧ w2.frozen? ⟨w.heap.size + 1 + 1, 5, none⟩ = false ∧ w2.frozen? ⟨w.heap.size + 1 + 1, 6, none⟩ = false) := ⟨Frame.held_cell hb2 Kr314.out.1, Frame.held_cell hb2 Kr314.out.2.1, Frame.held_cell hb2 Kr314.out.2.2.1, Frame.held_cell hb2 Kr314.out.2.2.2.1, Frame.held_cell hb2 Kr314.out.2.2.2.2.1, Frame.held_cell hb2 Kr314.out.2.2.2.2.2.1, Frame.held_cell hb2 Kr314.out.2.2.2.2.2.2.1, (hb2.frozen (p := ⟨w.heap.size + 1 + 1, 0, none⟩) (Frame.cell_lt Kr314.out.1)).trans Kr314.out.2.2.2.2.2.2.2.1, (hb2.frozen (p := ⟨w.heap.size + 1 + 1, 1, none⟩) (Frame.cell_lt Kr314.out.2.1)).trans Kr314.out.2.2.2.2.2.2.2.2.1, (hb2.frozen (p := ⟨w.heap.size + 1 + 1, 2, none⟩) (Frame.cell_lt Kr314.out.2.2.1)).trans Kr314.out.2.2.2.2.2.2.2.2.2.1, (hb2.frozen (p := ⟨w.heap.size + 1 + 1, 3, none⟩) (Frame.cell_lt Kr314.out.2.2.2.1)).trans Kr314.out.2.2.2.2.2.2.2.2.2.2.1, (hb2.frozen (p := ⟨w.heap.size + 1 + 1, 4, none⟩) (Frame.cell_lt Kr314.out.2.2.2.2.1)).trans Kr314.out.2.2.2.2.2.2.2.2.2.2.2.1, (hb2.frozen (p := ⟨w.heap.size + 1 + 1, 5, none⟩) (Frame.cell_lt Kr314.out.2.2.2.2.2.1)).trans Kr314.out.2.2.2.2.2.2.2.2.2.2.2.2.1, (hb2.frozen (p := ⟨w.heap.size + 1 + 1, 6, none⟩) (Frame.cell_lt Kr314.out.2.2.2.2.2.2.1)).trans Kr314.out.2.2.2.2.2.2.2.2.2.2.2.2.2⟩
            have B2 : Hid (Below w.heap.size w w2) := Frame.next B1.out hb2 B1.out.size
            clear hb2
            have qa325 := Ka322.out.1
            have qa326 := Ka322.out.2.1
            have qa327 := Ka322.out.2.2.1
            have qa328 := Ka322.out.2.2.2.1
            have qa329 := Ka322.out.2.2.2.2.1
            have qa330 := Ka322.out.2.2.2.2.2.1
            have qa331 := Ka322.out.2.2.2.2.2.2
            have qb332 := Kb323.out.1
            have qb333 := Kb323.out.2.1
            have qb334 := Kb323.out.2.2.1
            have qb335 := Kb323.out.2.2.2.1
            have qb336 := Kb323.out.2.2.2.2.1
            have qb337 := Kb323.out.2.2.2.2.2.1
            have qb338 := Kb323.out.2.2.2.2.2.2
            have l1 : w.heap.size < w2.heap.size := Frame.cell_lt qa325
            have l2 : w.heap.size + 1 < w2.heap.size := Frame.cell_lt qb332
            go_wp2_with fail
            rw [EW.out.1, EW.out.2.1, EW.out.2.2]
            refine (spec_GoodSum _ _ _ _ _ _ _ _).mono ?_
            rintro e w3 ⟨rfl, hb3⟩
            rw [HG.out]
            clear qa325 qa326 qa327 qa328 qa329 qa330 qa331 qb332 qb333 qb334 qb335 qb336 qb337 qb338
            have hz3 := hb3.size
            rw [World.size_alloc] at hz3
            have bw : Below w2.heap.size w2 w3 := Frame.next ((Below.refl _ _).alloc (Nat.le_refl _) _) hb3 (by simp)
            have Ka339 : Hid (w3.cell? ⟨w.heap.size, 0, none⟩ = some (.int .i64 a.r) ∧ w3.cell? ⟨w.heap.size, 1, none⟩ = some (.int .i64 a.k) ∧ w3.cell? ⟨w.heap.size, 2, none⟩ = some (.int .i64 a.t) ∧ w3.cell? ⟨w.heap.size, 3, none⟩ = some (.bool a.lb) ∧ w3.cell? ⟨w.heap.size, 4, none⟩ = some (.int .i64 a.l) ∧ w3.cell? ⟨w.heap.size, 5, none⟩ = some (.bool a.hb) ∧ w3.cell? ⟨w.heap.size, 6, none⟩ = some (.int .i64 a.h)) := ⟨Frame.held_cell bw Ka322.out.1, Frame.held_cell bw Ka322.out.2.1, Frame.held_cell bw Ka322.out.2.2.1, Frame.held_cell bw Ka322.out.2.2.2.1, Frame.held_cell bw Ka322.out.2.2.2.2.1, Frame.held_cell bw Ka322.out.2.2.2.2.2.1, Frame.held_cell bw Ka322.out.2.2.2.2.2.2⟩
            have Kb340 : Hid (w3.cell? ⟨w.heap.size + 1, 0, none⟩ = some (.int .i64 b.r) ∧ w3.cell? ⟨w.heap.size + 1, 1, none⟩ = some (.int .i64 b.k) ∧ w3.cell? ⟨w.heap.size + 1, 2, none⟩ = some (.int .i64 b.t) ∧ w3.cell? ⟨w.heap.size + 1, 3, none⟩ = some (.bool b.lb) ∧ w3.cell? ⟨w.heap.size + 1, 4, none⟩ = some (.int .i64 b.l) ∧ w3.cell? ⟨w.heap.size + 1, 5, none⟩ = some (.bool b.hb) ∧ w3.cell? ⟨w.heap.size + 1, 6, none⟩ = some (.int .i64 b.h)) := ⟨Frame.held_cell bw Kb323.out.1, Frame.held_cell bw Kb323.out.2.1, Frame.held_cell bw Kb323.out.2.2.1, Frame.held_cell bw Kb323.out.2.2.2.1, Frame.held_cell bw Kb323.out.2.2.2.2.1, Frame.held_cell bw Kb323.out.2.2.2.2.2.1, Frame.held_cell bw Kb323.out.2.2.2.2.2.2⟩
            have Kr341 : Hid (w3.cell? ⟨w.heap.size + 1 + 1, 0, none⟩ = some (.int .i64 0) ∧ w3.cell? ⟨w.heap.size + 1 + 1, 1, none⟩ = some (.int .i64 0) ∧ w3.cell? ⟨w.heap.size + 1 + 1, 2, none⟩ = some (.int .i64 0) ∧ w3.cell? ⟨w.heap.size + 1 + 1, 3, none⟩ = some (.bool false) ∧ w3.cell? ⟨w.heap.size + 1 + 1, 4, none⟩ = some (.int .i64 0) ∧ w3.cell? ⟨w.heap.size + 1 + 1, 5, none⟩ = some (.bool false) ∧ w3.cell? ⟨w.heap.size + 1 + 1, 6, none⟩ = some (.int .i64 0) ∧ w3.frozen? ⟨w.heap.size + 1 + 1, 0, none⟩ = false ∧ w3.frozen? ⟨w.heap.size + 1 + 1, 1, none⟩ = false ∧ w3.frozen? ⟨w.heap.size + 1 + 1, 2, none⟩ = false ∧ w3.frozen? ⟨w.heap.size + 1 + 1, 3, none⟩ = false ∧ w3.frozen? ⟨w.heap.size + 1 + 1, 4, none⟩ = false ∧ w3.frozen? ⟨w.heap.size + 1 + 1, 5, none⟩ = false ∧ w3.frozen? ⟨w.heap.size + 1 + 1, 6, none⟩ = false) := ⟨Frame.held_cell bw Kr324.out.1, Frame.held_cell bw Kr324.out.2.1, Frame.held_cell bw Kr324.out.2.2.1, Frame.held_cell bw Kr324.out.2.2.2.1, Frame.held_cell bw Kr324.out.2.2.2.2.1, Frame.held_cell bw Kr324.out.2.2.2.2.2.1, Frame.held_cell bw Kr324.out.2.2.2.2.2.2.1, (bw.frozen (p := ⟨w.heap.size + 1 + 1, 0, none⟩) (Frame.cell_lt Kr324.out.1)).trans Kr324.out.2.2.2.2.2.2.2.1, (bw.frozen (p := ⟨w.heap.size + 1 + 1, 1, none⟩) (Frame.cell_lt Kr324.out.2.1)).trans Kr324.out.2.2.2.2.2.2.2.2.1, (bw.frozen (p := ⟨w.heap.size + 1 + 1, 2, none⟩) (Frame.cell_lt Kr324.out.2.2.1)).trans Kr324.out.2.2.2.2.2.2.2.2.2.1, (bw.frozen (p := ⟨w.heap.size + 1 + 1, 3, none⟩) (Frame.cell_lt Kr324.out.2.2.2.1)).trans Kr324.out.2.2.2.2.2.2.2.2.2.2.1, (bw.frozen (p := ⟨w.heap.size + 1 + 1, 4, none⟩) (Frame.cell_lt Kr324.out.2.2.2.2.1)).trans Kr324.out.2.2.2.2.2.2.2.2.2.2.2.1, (bw.frozen (p := ⟨w.heap.size + 1 + 1, 5, none⟩) (Frame.cell_lt Kr324.out.2.2.2.2.2.1)).trans Kr324.out.2.2.2.2.2.2.2.2.2.2.2.2.1, (bw.frozen (p := ⟨w.heap.size + 1 + 1, 6, none⟩) (Frame.cell_lt Kr324.out.2.2.2.2.2.2.1)).trans Kr324.out.2.2.2.2.2.2.2.2.2.2.2.2.2⟩
            have o0 : w3.cell? ⟨w2.heap.size, 0, none⟩ = some (.int .i64 (a.r + b.r)) := by rw [(Frame.bcell hb3).1 _ _ (by simp)]; go_simp
            have o1 : w3.cell? ⟨w2.heap.size, 1, none⟩ = some (.int .i64 (a.k + b.k)) := by rw [(Frame.bcell hb3).1 _ _ (by simp)]; go_simp
            have o2 : w3.cell? ⟨w2.heap.size, 2, none⟩ = some (.int .i64 (a.t + b.t)) := by rw [(Frame.bcell hb3).1 _ _ (by simp)]; go_simp
            have o3 : w3.cell? ⟨w2.heap.size, 3, none⟩ = some (.bool a.lb) := by rw [(Frame.bcell hb3).1 _ _ (by simp)]; go_simp
            have o4 : w3.cell? ⟨w2.heap.size, 4, none⟩ = some (.int .i64 a.l) := by rw [(Frame.bcell hb3).1 _ _ (by simp)]; go_simp
            have o5 : w3.cell? ⟨w2.heap.size, 5, none⟩ = some (.bool a.hb) := by rw [(Frame.bcell hb3).1 _ _ (by simp)]; go_simp
            have o6 : w3.cell? ⟨w2.heap.size, 6, none⟩ = some (.int .i64 a.h) := by rw [(Frame.bcell hb3).1 _ _ (by simp)]; go_simp
            have B3 : Hid (Below w.heap.size w w3) := Frame.next B2.out bw B2.out.size
            clear hb3 bw
            have qr342 := Kr341.out.1
            have qr343 := Kr341.out.2.1
            have qr344 := Kr341.out.2.2.1
            have qr345 := Kr341.out.2.2.2.1
            have qr346 := Kr341.out.2.2.2.2.1
            have qr347 := Kr341.out.2.2.2.2.2.1
            have qr348 := Kr341.out.2.2.2.2.2.2.1
            have qr349 := Kr341.out.2.2.2.2.2.2.2.1
            have qr350 := Kr341.out.2.2.2.2.2.2.2.2.1
            have qr351 := Kr341.out.2.2.2.2.2.2.2.2.2.1
            have qr352 := Kr341.out.2.2.2.2.2.2.2.2.2.2.1
            have qr353 := Kr341.out.2.2.2.2.2.2.2.2.2.2.2.1
            have qr354 := Kr341.out.2.2.2.2.2.2.2.2.2.2.2.2.1
            have qr355 := Kr341.out.2.2.2.2.2.2.2.2.2.2.2.2.2
            go_wp2
            refine bodyPost_ret (v := .tuple #[.agg #[.int .i64 0, .int .i64 0, .int .i64 0, .bool false, .int .i64 0, .bool false, .int .i64 0], .bool false]) (by simp [results, Tryd.results18, go_sem, qr342, qr343, qr344, qr345, qr346, qr347, qr348]) rfl ?_
            exact ⟨rfl, (((((((B3.out.setCell hr _).setCell hr _).setCell hr _).setCell hr _).setCell hr _).setCell hr _).setCell hr _)⟩
          · have HG : Hid (goodS (a.r + b.r) (a.k + b.k) (a.t + b.t) a.lb a.l a.hb a.h = true) := hG
            have e : fit (⟨a.r + b.r, a.k + b.k, a.t + b.t, a.lb, a.l, a.hb, a.h⟩ : Sm) = (⟨a.r + b.r, a.k + b.k, a.t + b.t, a.lb, a.l, a.hb, a.h⟩ : Sm) := if_pos hG
            have e' : (⟨a.r + b.r, a.k + b.k, a.t + b.t, a.lb, a.l, a.hb, a.h⟩ : Sm).good = true := hG
            rw [e, e']
            clear e e' hG
            go_enter Tryd.func18, Tryd.ntmps18
            go_wp2_with fail
            refine (spec_GoodSum a.r a.k a.t a.lb a.l a.hb a.h _).mono ?_
            rintro e w1 ⟨rfl, hb1⟩
            rw [HA.out]
            have Ka356 : Hid (w1.cell? ⟨w.heap.size, 0, none⟩ = some (.int .i64 a.r) ∧ w1.cell? ⟨w.heap.size, 1, none⟩ = some (.int .i64 a.k) ∧ w1.cell? ⟨w.heap.size, 2, none⟩ = some (.int .i64 a.t) ∧ w1.cell? ⟨w.heap.size, 3, none⟩ = some (.bool a.lb) ∧ w1.cell? ⟨w.heap.size, 4, none⟩ = some (.int .i64 a.l) ∧ w1.cell? ⟨w.heap.size, 5, none⟩ = some (.bool a.hb) ∧ w1.cell? ⟨w.heap.size, 6, none⟩ = some (.int .i64 a.h)) := ⟨Frame.held_cell hb1 Ka1.out.1, Frame.held_cell hb1 Ka1.out.2.1, Frame.held_cell hb1 Ka1.out.2.2.1, Frame.held_cell hb1 Ka1.out.2.2.2.1, Frame.held_cell hb1 Ka1.out.2.2.2.2.1, Frame.held_cell hb1 Ka1.out.2.2.2.2.2.1, Frame.held_cell hb1 Ka1.out.2.2.2.2.2.2⟩
            have Kb357 : Hid (w1.cell? ⟨w.heap.size + 1, 0, none⟩ = some (.int .i64 b.r) ∧ w1.cell? ⟨w.heap.size + 1, 1, none⟩ = some (.int .i64 b.k) ∧ w1.cell? ⟨w.heap.size + 1, 2, none⟩ = some (.int .i64 b.t) ∧ w1.cell? ⟨w.heap.size + 1, 3, none⟩ = some (.bool b.lb) ∧ w1.cell? ⟨w.heap.size + 1, 4, none⟩ = some (.int .i64 b.l) ∧ w1.cell? ⟨w.heap.size + 1, 5, none⟩ = some (.bool b.hb) ∧ w1.cell? ⟨w.heap.size + 1, 6, none⟩ = some (.int .i64 b.h)) := ⟨Frame.held_cell hb1 Kb2.out.1, Frame.held_cell hb1 Kb2.out.2.1, Frame.held_cell hb1 Kb2.out.2.2.1, Frame.held_cell hb1 Kb2.out.2.2.2.1, Frame.held_cell hb1 Kb2.out.2.2.2.2.1, Frame.held_cell hb1 Kb2.out.2.2.2.2.2.1, Frame.held_cell hb1 Kb2.out.2.2.2.2.2.2⟩
            have Kr358 : Hid (w1.cell? ⟨w.heap.size + 1 + 1, 0, none⟩ = some (.int .i64 0) ∧ w1.cell? ⟨w.heap.size + 1 + 1, 1, none⟩ = some (.int .i64 0) ∧ w1.cell? ⟨w.heap.size + 1 + 1, 2, none⟩ = some (.int .i64 0) ∧ w1.cell? ⟨w.heap.size + 1 + 1, 3, none⟩ = some (.bool false) ∧ w1.cell? ⟨w.heap.size + 1 + 1, 4, none⟩ = some (.int .i64 0) ∧ w1.cell? ⟨w.heap.size + 1 + 1, 5, none⟩ = some (.bool false) ∧ w1.cell? ⟨w.heap.size + 1 + 1, 6, none⟩ = some (.int .i64 0) ∧ w1.frozen? ⟨w.heap.size + 1 + 1, 0, none⟩ = false ∧ w1.frozen? ⟨w.heap.size + 1 + 1, 1, none⟩ = false ∧ w1.frozen? ⟨w.heap.size + 1 + 1, 2, none⟩ = false ∧ w1.frozen? ⟨w.heap.size + 1 + 1, 3, none⟩ = false ∧ w1.frozen? ⟨w.heap.size + 1 + 1, 4, none⟩ = false ∧ w1.frozen? ⟨w.heap.size + 1 + 1, 5, none⟩ = false ∧ w1.frozen? ⟨w.heap.size + 1 + 1, 6, none⟩ = false) := ⟨Frame.held_cell hb1 Kr3.out.1, Frame.held_cell hb1 Kr3.out.2.1, Frame.held_cell hb1 Kr3.out.2.2.1, Frame.held_cell hb1 Kr3.out.2.2.2.1, Frame.held_cell hb1 Kr3.out.2.2.2.2.1, Frame.held_cell hb1 Kr3.out.2.2.2.2.2.1, Frame.held_cell hb1 Kr3.out.2.2.2.2.2.2.1, (hb1.frozen (p := ⟨w.heap.size + 1 + 1, 0, none⟩) (Frame.cell_lt Kr3.out.1)).trans Kr3.out.2.2.2.2.2.2.2.1, (hb1.frozen (p := ⟨w.heap.size + 1 + 1, 1, none⟩) (Frame.cell_lt Kr3.out.2.1)).trans Kr3.out.2.2.2.2.2.2.2.2.1, (hb1.frozen (p := ⟨w.heap.size + 1 + 1, 2, none⟩) (Frame.cell_lt Kr3.out.2.2.1)).trans Kr3.out.2.2.2.2.2.2.2.2.2.1, (hb1.frozen (p := ⟨w.heap.size + 1 + 1, 3, none⟩) (Frame.cell_lt Kr3.out.2.2.2.1)).trans Kr3.out.2.2.2.2.2.2.2.2.2.2.1, (hb1.frozen (p := ⟨w.heap.size + 1 + 1, 4, none⟩) (Frame.cell_lt Kr3.out.2.2.2.2.1)).trans Kr3.out.2.2.2.2.2.2.2.2.2.2.2.1, (hb1.frozen (p := ⟨w.heap.size + 1 + 1, 5, none⟩) (Frame.cell_lt Kr3.out.2.2.2.2.2.1)).trans Kr3.out.2.2.2.2.2.2.2.2.2.2.2.2.1, (hb1.frozen (p := ⟨w.heap.size + 1 + 1, 6, none⟩) (Frame.cell_lt Kr3.out.2.2.2.2.2.2.1)).trans Kr3.out.2.2.2.2.2.2.2.2.2.2.2.2.2⟩
            have B1 : Hid (Below w.heap.size w w1) := Frame.next B0.out hb1 B0.out.size
            clear hb1
            have qb359 := Kb357.out.1
            have qb360 := Kb357.out.2.1
            have qb361 := Kb357.out.2.2.1
            have qb362 := Kb357.out.2.2.2.1
            have qb363 := Kb357.out.2.2.2.2.1
            have qb364 := Kb357.out.2.2.2.2.2.1
            have qb365 := Kb357.out.2.2.2.2.2.2
            go_wp2_with fail
            refine (spec_GoodSum b.r b.k b.t b.lb b.l b.hb b.h _).mono ?_
            rintro e w2 ⟨rfl, hb2⟩
            rw [HB.out]
            clear qb359 qb360 qb361 qb362 qb363 qb364 qb365
            have Ka366 : Hid (w2.cell? ⟨w.heap.size, 0, none⟩ = some (.int .i64 a.r) ∧ w2.cell? ⟨w.heap.size, 1, none⟩ = some (.int .i64 a.k) ∧ w2.cell? ⟨w.heap.size, 2, none⟩ = some (.int .i64 a.t) ∧ w2.cell? ⟨w.heap.size, 3, none⟩ = some (.bool a.lb) ∧ w2.cell? ⟨w.heap.size, 4, none⟩ = some (.int .i64 a.l) ∧ w2.cell? ⟨w.heap.size, 5, none⟩ = some (.bool a.hb) ∧ w2.cell? ⟨w.heap.size, 6, none⟩ = some (.int .i64 a.h)) := ⟨Frame.held_cell hb2 Ka356.out.1, Frame.held_cell hb2 Ka356.out.2.1, Frame.held_cell hb2 Ka356.out.2.2.1, Frame.held_cell hb2 Ka356.out.2.2.2.1, Frame.held_cell hb2 Ka356.out.2.2.2.2.1, Frame.held_cell hb2 Ka356.out.2.2.2.2.2.1, Frame.held_cell hb2 Ka356.out.2.2.2.2.2.2⟩
            have Kb367 : Hid (w2.cell? ⟨w.heap.size + 1, 0, none⟩ = some (.int .i64 b.r) ∧ w2.cell? ⟨w.heap.size + 1, 1, none⟩ = some (.int .i64 b.k) ∧ w2.cell? ⟨w.heap.size + 1, 2, none⟩ = some (.int .i64 b.t) ∧ w2.cell? ⟨w.heap.size + 1, 3, none⟩ = some (.bool b.lb) ∧ w2.cell? ⟨w.heap.size + 1, 4, none⟩ = some (.int .i64 b.l) ∧ w2.cell? ⟨w.heap.size + 1, 5, none⟩ = some (.bool b.hb) ∧ w2.cell? ⟨w.heap.size + 1, 6, none⟩ = some (.int .i64 b.h)) := ⟨Frame.held_cell hb2 Kb357.out.1, Frame.held_cell hb2 Kb357.out.2.1, Frame.held_cell hb2 Kb357.out.2.2.1, Frame.held_cell hb2 Kb357.out.2.2.2.1, Frame.held_cell hb2 Kb357.out.2.2.2.2.1, Frame.held_cell hb2 Kb357.out.2.2.2.2.2.1, Frame.held_cell hb2 Kb357.out.2.2.2.2.2.2⟩
            have Kr368 : Hid (w2.cell? ⟨w.heap.size + 1 + 1, 0, none⟩ = some (.int .i64 0) ∧ w2.cell? ⟨w.heap.size + 1 + 1, 1, none⟩ = some (.int .i64 0) ∧ w2.cell? ⟨w.heap.size + 1 + 1, 2, none⟩ = some (.int .i64 0) ∧ w2.cell? ⟨w.heap.size + 1 + 1, 3, none⟩ = some (.bool false) ∧ w2.cell? ⟨w.heap.size + 1 + 1, 4, none⟩ = some (.int .i64 0) ∧ w2.cell? ⟨w.heap.size + 1 + 1, 5, none⟩ = some (.bool false) ∧ w2.cell? ⟨w.heap.size + 1 + 1, 6, none⟩ = some (.int .i64 0) ∧ w2.frozen? ⟨w.heap.size + 1 + 1, 0, none⟩ = false ∧ w2.frozen? ⟨w.heap.size + 1 + 1, 1, none⟩ = false ∧ w2.frozen? ⟨w.heap.size + 1 + 1, 2, none⟩ = false ∧ w2.frozen? ⟨w.heap.size + 1 + 1, 3, none⟩ = false ∧ w2.frozen? ⟨w.heap.size + 1 + 1, 4, none⟩ = false ∧ w2.frozen? ⟨w.heap.size + 1 + 1, 5, none⟩ = false ∧ w2.frozen? ⟨w.heap.size + 1 + 1, 6, none⟩ = false) := ⟨Frame.held_cell hb2 Kr358.out.1, Frame.held_cell hb2 Kr358.out.2.1, Frame.held_cell hb2 Kr358.out.2.2.1, Frame.held_cell hb2 Kr358.out.2.2.2.1, Frame.held_cell hb2 Kr358.out.2.2.2.2.1, Frame.held_cell hb2 Kr358.out.2.2.2.2.2.1, Frame.held_cell hb2 Kr358.out.2.2.2.2.2.2.1, (hb2.frozen (p := ⟨w.heap.size + 1 + 1, 0, none⟩) (Frame.cell_lt Kr358.out.1)).trans Kr358.out.2.2.2.2.2.2.2.1, (hb2.frozen (p := ⟨w.heap.size + 1 + 1, 1, none⟩) (Frame.cell_lt Kr358.out.2.1)).trans Kr358.out.2.2.2.2.2.2.2.2.1, (hb2.frozen (p := ⟨w.heap.size + 1 + 1, 2, none⟩) (Frame.cell_lt Kr358.out.2.2.1)).trans Kr358.out.2.2.2.2.2.2.2.2.2.1, (hb2.frozen (p := ⟨w.heap.size + 1 + 1, 3, none⟩) (Frame.cell_lt Kr358.out.2.2.2.1)).trans Kr358.out.2.2.2.2.2.2.2.2.2.2.1, (hb2.frozen (p := ⟨w.heap.size + 1 + 1, 4, none⟩) (Frame.cell_lt Kr358.out.2.2.2.2.1)).trans Kr358.out.2.2.2.2.2.2.2.2.2.2.2.1, (hb2.frozen (p := ⟨w.heap.size + 1 + 1, 5, none⟩) (Frame.cell_lt Kr358.out.2.2.2.2.2.1)).trans Kr358.out.2.2.2.2.2.2.2.2.2.2.2.2.1, (hb2.frozen (p := ⟨w.heap.size + 1 + 1, 6, none⟩) (Frame.cell_lt Kr358.out.2.2.2.2.2.2.1)).trans Kr358.out.2.2.2.2.2.2.2.2.2.2.2.2.2⟩
            have B2 : Hid (Below w.heap.size w w2) := Frame.next B1.out hb2 B1.out.size
            clear hb2
            have qa369 := Ka366.out.1
            have qa370 := Ka366.out.2.1
            have qa371 := Ka366.out.2.2.1
            have qa372 := Ka366.out.2.2.2.1
            have qa373 := Ka366.out.2.2.2.2.1
            have qa374 := Ka366.out.2.2.2.2.2.1
            have qa375 := Ka366.out.2.2.2.2.2.2
            have qb376 := Kb367.out.1
            have qb377 := Kb367.out.2.1
            have qb378 := Kb367.out.2.2.1
            have qb379 := Kb367.out.2.2.2.1
            have qb380 := Kb367.out.2.2.2.2.1
            have qb381 := Kb367.out.2.2.2.2.2.1
            have qb382 := Kb367.out.2.2.2.2.2.2
            have l1 : w.heap.size < w2.heap.size := Frame.cell_lt qa369
            have l2 : w.heap.size + 1 < w2.heap.size := Frame.cell_lt qb376
            go_wp2_with fail
            rw [EW.out.1, EW.out.2.1, EW.out.2.2]
            refine (spec_GoodSum _ _ _ _ _ _ _ _).mono ?_
            rintro e w3 ⟨rfl, hb3⟩
            rw [HG.out]
            clear qa369 qa370 qa371 qa372 qa373 qa374 qa375 qb376 qb377 qb378 qb379 qb380 qb381 qb382
            have hz3 := hb3.size
            rw [World.size_alloc] at hz3
            have bw : Below w2.heap.size w2 w3 := Frame.next ((Below.refl _ _).alloc (Nat.le_refl _) _) hb3 (by simp)
            have Ka383 : Hid (w3.cell? ⟨w.heap.size, 0, none⟩ = some (.int .i64 a.r) ∧ w3.cell? ⟨w.heap.size, 1, none⟩ = some (.int .i64 a.k) ∧ w3.cell? ⟨w.heap.size, 2, none⟩ = some (.int .i64 a.t) ∧ w3.cell? ⟨w.heap.size, 3, none⟩ = some (.bool a.lb) ∧ w3.cell? ⟨w.heap.size, 4, none⟩ = some (.int .i64 a.l) ∧ w3.cell? ⟨w.heap.size, 5, none⟩ = some (.bool a.hb) ∧ w3.cell? ⟨w.heap.size, 6, none⟩ = some (.int .i64 a.h)) := ⟨Frame.held_cell bw Ka366.out.1, Frame.held_cell bw Ka366.out.2.1, Frame.held_cell bw Ka366.out.2.2.1, Frame.held_cell bw Ka366.out.2.2.2.1, Frame.held_cell bw Ka366.out.2.2.2.2.1, Frame.held_cell bw Ka366.out.2.2.2.2.2.1, Frame.held_cell bw Ka366.out.2.2.2.2.2.2⟩
            have Kb384 : Hid (w3.cell? ⟨w.heap.size + 1, 0, none⟩ = some (.int .i64 b.r) ∧ w3.cell? ⟨w.heap.size + 1, 1, none⟩ = some (.int .i64 b.k) ∧ w3.cell? ⟨w.heap.size + 1, 2, none⟩ = some (.int .i64 b.t) ∧ w3.cell? ⟨w.heap.size + 1, 3, none⟩ = some (.bool b.lb) ∧ w3.cell? ⟨w.heap.size + 1, 4, none⟩ = some (.int .i64 b.l) ∧ w3.cell? ⟨w.heap.size + 1, 5, none⟩ = some (.bool b.hb) ∧ w3.cell? ⟨w.heap.size + 1, 6, none⟩ = some (.int .i64 b.h)) := ⟨Frame.held_cell bw Kb367.out.1, Frame.held_cell bw Kb367.out.2.1, Frame.held_cell bw Kb367.out.2.2.1, Frame.held_cell bw Kb367.out.2.2.2.1, Frame.held_cell bw Kb367.out.2.2.2.2.1, Frame.held_cell bw Kb367.out.2.2.2.2.2.1, Frame.held_cell bw Kb367.out.2.2.2.2.2.2⟩
            have Kr385 : Hid (w3.cell? ⟨w.heap.size + 1 + 1, 0, none⟩ = some (.int .i64 0) ∧ w3.cell? ⟨w.heap.size + 1 + 1, 1, none⟩ = some (.int .i64 0) ∧ w3.cell? ⟨w.heap.size + 1 + 1, 2, none⟩ = some (.int .i64 0) ∧ w3.cell? ⟨w.heap.size + 1 + 1, 3, none⟩ = some (.bool false) ∧ w3.cell? ⟨w.heap.size + 1 + 1, 4, none⟩ = some (.int .i64 0) ∧ w3.cell? ⟨w.heap.size + 1 + 1, 5, none⟩ = some (.bool false) ∧ w3.cell? ⟨w.heap.size + 1 + 1, 6, none⟩ = some (.int .i64 0) ∧ w3.frozen? ⟨w.heap.size + 1 + 1, 0, none⟩ = false ∧ w3.frozen? ⟨w.heap.size + 1 + 1, 1, none⟩ = false ∧ w3.frozen? ⟨w.heap.size + 1 + 1, 2, none⟩ = false ∧ w3.frozen? ⟨w.heap.size + 1 + 1, 3, none⟩ = false ∧ w3.frozen? ⟨w.heap.size + 1 + 1, 4, none⟩ = false ∧ w3.frozen? ⟨w.heap.size + 1 + 1, 5, none⟩ = false ∧ w3.frozen? ⟨w.heap.size + 1 + 1, 6, none⟩ = false) := ⟨Frame.held_cell bw Kr368.out.1, Frame.held_cell bw Kr368.out.2.1, Frame.held_cell bw Kr368.out.2.2.1, Frame.held_cell bw Kr368.out.2.2.2.1, Frame.held_cell bw Kr368.out.2.2.2.2.1, Frame.held_cell bw Kr368.out.2.2.2.2.2.1, Frame.held_cell bw Kr368.out.2.2.2.2.2.2.1, (bw.frozen (p := ⟨w.heap.size + 1 + 1, 0, none⟩) (Frame.cell_lt Kr368.out.1)).trans Kr368.out.2.2.2.2.2.2.2.1, (bw.frozen (p := ⟨w.heap.size + 1 + 1, 1, none⟩) (Frame.cell_lt Kr368.out.2.1)).trans Kr368.out.2.2.2.2.2.2.2.2.1, (bw.frozen (p := ⟨w.heap.size + 1 + 1, 2, none⟩) (Frame.cell_lt Kr368.out.2.2.1)).trans Kr368.out.2.2.2.2.2.2.2.2.2.1, (bw.frozen (p := ⟨w.heap.size + 1 + 1, 3, none⟩) (Frame.cell_lt Kr368.out.2.2.2.1)).trans Kr368.out.2.2.2.2.2.2.2.2.2.2.1, (bw.frozen (p := ⟨w.heap.size + 1 + 1, 4, none⟩) (Frame.cell_lt Kr368.out.2.2.2.2.1)).trans Kr368.out.2.2.2.2.2.2.2.2.2.2.2.1, (bw.frozen (p := ⟨w.heap.size + 1 + 1, 5, none⟩) (Frame.cell_lt Kr368.out.2.2.2.2.2.1)).trans Kr368.out.2.2.2.2.2.2.2.2.2.2.2.2.1, (bw.frozen (p := ⟨w.heap.size + 1 + 1, 6, none⟩) (Frame.cell_lt Kr368.out.2.2.2.2.2.2.1)).trans Kr368.out.2.2.2.2.2.2.2.2.2.2.2.2.2⟩
            have o0 : w3.cell? ⟨w2.heap.size, 0, none⟩ = some (.int .i64 (a.r + b.r)) := by rw [(Frame.bcell hb3).1 _ _ (by simp)]; go_simp
            have o1 : w3.cell? ⟨w2.heap.size, 1, none⟩ = some (.int .i64 (a.k + b.k)) := by rw [(Frame.bcell hb3).1 _ _ (by simp)]; go_simp
            have o2 : w3.cell? ⟨w2.heap.size, 2, none⟩ = some (.int .i64 (a.t + b.t)) := by rw [(Frame.bcell hb3).1 _ _ (by simp)]; go_simp
            have o3 : w3.cell? ⟨w2.heap.size, 3, none⟩ = some (.bool a.lb) := by rw [(Frame.bcell hb3).1 _ _ (by simp)]; go_simp
            have o4 : w3.cell? ⟨w2.heap.size, 4, none⟩ = some (.int .i64 a.l) := by rw [(Frame.bcell hb3).1 _ _ (by simp)]; go_simp
            have o5 : w3.cell? ⟨w2.heap.size, 5, none⟩ = some (.bool a.hb) := by rw [(Frame.bcell hb3).1 _ _ (by simp)]; go_simp
            have o6 : w3.cell? ⟨w2.heap.size, 6, none⟩ = some (.int .i64 a.h) := by rw [(Frame.bcell hb3).1 _ _ (by simp)]; go_simp
            have B3 : Hid (Below w.heap.size w w3) := Frame.next B2.out bw B2.out.size
            clear hb3 bw
            have qr386 := Kr385.out.1
            have qr387 := Kr385.out.2.1
            have qr388 := Kr385.out.2.2.1
            have qr389 := Kr385.out.2.2.2.1
            have qr390 := Kr385.out.2.2.2.2.1
            have qr391 := Kr385.out.2.2.2.2.2.1
            have qr392 := Kr385.out.2.2.2.2.2.2.1
            have qr393 := Kr385.out.2.2.2.2.2.2.2.1
            have qr394 := Kr385.out.2.2.2.2.2.2.2.2.1
            have qr395 := Kr385.out.2.2.2.2.2.2.2.2.2.1
            have qr396 := Kr385.out.2.2.2.2.2.2.2.2.2.2.1
            have qr397 := Kr385.out.2.2.2.2.2.2.2.2.2.2.2.1
            have qr398 := Kr385.out.2.2.2.2.2.2.2.2.2.2.2.2.1
            have qr399 := Kr385.out.2.2.2.2.2.2.2.2.2.2.2.2.2
            go_wp2
            refine bodyPost_ret (v := .tuple #[.agg #[.int .i64 (a.r + b.r), .int .i64 (a.k + b.k), .int .i64 (a.t + b.t), .bool a.lb, .int .i64 a.l, .bool a.hb, .int .i64 a.h], .bool true]) (by simp [results, Tryd.results18, go_sem, qr386, qr387, qr388, qr389, qr390, qr391, qr392]) rfl ?_
            exact ⟨rfl, (((((((B3.out.setCell hr _).setCell hr _).setCell hr _).setCell hr _).setCell hr _).setCell hr _).setCell hr _)⟩
    · skip
      have T : tog a b = (⟨a.r + b.r, a.k + b.k, a.t + b.t, a.lb, a.l, a.hb, a.h⟩ : Sm) := by rw [TI, show lowB a b = false from by unfold lowB; simp [hk, hb], show highB a b = false from by unfold highB; simp [hk, hb]]; rfl
      rw [T]
      clear T TI
      cases hG : goodS (a.r + b.r) (a.k + b.k) (a.t + b.t) a.lb a.l a.hb a.h
      · have HG : Hid (goodS (a.r + b.r) (a.k + b.k) (a.t + b.t) a.lb a.l a.hb a.h = false) := hG
        have e : fit (⟨a.r + b.r, a.k + b.k, a.t + b.t, a.lb, a.l, a.hb, a.h⟩ : Sm) = zeroS := if_neg (by unfold Sm.good; rw [hG]; exact Bool.false_ne_true)
        have e' : (⟨a.r + b.r, a.k + b.k, a.t + b.t, a.lb, a.l, a.hb, a.h⟩ : Sm).good = false := hG
        rw [e, e']
        clear e e' hG
        go_enter Tryd.func18, Tryd.ntmps18
        go_wp2_with fail
        refine (spec_GoodSum a.r a.k a.t a.lb a.l a.hb a.h _).mono ?_
        rintro e w1 ⟨rfl, hb1⟩
        rw [HA.out]
        have Ka400 : Hid (w1.cell? ⟨w.heap.size, 0, none⟩ = some (.int .i64 a.r) ∧ w1.cell? ⟨w.heap.size, 1, none⟩ = some (.int .i64 a.k) ∧ w1.cell? ⟨w.heap.size, 2, none⟩ = some (.int .i64 a.t) ∧ w1.cell? ⟨w.heap.size, 3, none⟩ = some (.bool a.lb) ∧ w1.cell? ⟨w.heap.size, 4, none⟩ = some (.int .i64 a.l) ∧ w1.cell? ⟨w.heap.size, 5, none⟩ = some (.bool a.hb) ∧ w1.cell? ⟨w.heap.size, 6, none⟩ = some (.int .i64 a.h)) := ⟨Frame.held_cell hb1 Ka1.out.1, Frame.held_cell hb1 Ka1.out.2.1, Frame.held_cell hb1 Ka1.out.2.2.1, Frame.held_cell hb1 Ka1.out.2.2.2.1, Frame.held_cell hb1 Ka1.out.2.2.2.2.1, Frame.held_cell hb1 Ka1.out.2.2.2.2.2.1, Frame.held_cell hb1 Ka1.out.2.2.2.2.2.2⟩
        have Kb401 : Hid (w1.cell? ⟨w.heap.size + 1, 0, none⟩ = some (.int .i64 b.r) ∧ w1.cell? ⟨w.heap.size + 1, 1, none⟩ = some (.int .i64 b.k) ∧ w1.cell? ⟨w.heap.size + 1, 2, none⟩ = some (.int .i64 b.t) ∧ w1.cell? ⟨w.heap.size + 1, 3, none⟩ = some (.bool b.lb) ∧ w1.cell? ⟨w.heap.size + 1, 4, none⟩ = some (.int .i64 b.l) ∧ w1.cell? ⟨w.heap.size + 1, 5, none⟩ = some (.bool b.hb) ∧ w1.cell? ⟨w.heap.size + 1, 6, none⟩ = some (.int .i64 b.h)) := ⟨Frame.held_cell hb1 Kb2.out.1, Frame.held_cell hb1 Kb2.out.2.1, Frame.held_cell hb1 Kb2.out.2.2.1, Frame.held_cell hb1 Kb2.out.2.2.2.1, Frame.held_cell hb1 Kb2.out.2.2.2.2.1, Frame.held_cell hb1 Kb2.out.2.2.2.2.2.1, Frame.held_cell hb1 Kb2.out.2.2.2.2.2.2⟩
        have Kr402 : Hid (w1.cell? ⟨w.heap.size + 1 + 1, 0, none⟩ = some (.int .i64 0) ∧ w1.cell? ⟨w.heap.size + 1 + 1, 1, none⟩ = some (.int .i64 0) ∧ w1.cell? ⟨w.heap.size + 1 + 1, 2, none⟩ = some (.int .i64 0) ∧ w1.cell? ⟨w.heap.size + 1 + 1, 3, none⟩ = some (.bool false) ∧ w1.cell? ⟨w.heap.size + 1 + 1, 4, none⟩ = some (.int .i64 0) ∧ w1.cell? ⟨w.heap.size + 1 + 1, 5, none⟩ = some (.bool false) ∧ w1.cell? ⟨w.heap.size + 1 + 1, 6, none⟩ = some (.int .i64 0) ∧ w1.frozen? ⟨w.heap.size + 1 + 1, 0, none⟩ = false ∧ w1.frozen? ⟨w.heap.size + 1 + 1, 1, none⟩ = false ∧ w1.frozen? ⟨w.heap.size + 1 + 1, 2, none⟩ = false ∧ w1.frozen? ⟨w.heap.size + 1 + 1, 3, none⟩ = false ∧ w1.frozen? ⟨w.heap.size + 1 + 1, 4, none⟩ = false ∧ w1.frozen? ⟨w.heap.size + 1 + 1, 5, none⟩ = false ∧ w1.frozen? ⟨w.heap.size + 1 + 1, 6, none⟩ = false) := ⟨Frame.held_cell hb1 Kr3.out.1, Frame.held_cell hb1 Kr3.out.2.1, Frame.held_cell hb1 Kr3.out.2.2.1, Frame.held_cell hb1 Kr3.out.2.2.2.1, Frame.held_cell hb1 Kr3.out.2.2.2.2.1, Frame.held_cell hb1 Kr3.out.2.2.2.2.2.1, Frame.held_cell hb1 Kr3.out.2.2.2.2.2.2.1, (hb1.frozen (p := ⟨w.heap.size + 1 + 1, 0, none⟩) (Frame.cell_lt Kr3.out.1)).trans Kr3.out.2.2.2.2.2.2.2.1, (hb1.frozen (p := ⟨w.heap.size + 1 + 1, 1, none⟩) (Frame.cell_lt Kr3.out.2.1)).trans Kr3.out.2.2.2.2.2.2.2.2.1, (hb1.frozen (p := ⟨w.heap.size + 1 + 1, 2, none⟩) (Frame.cell_lt Kr3.out.2.2.1)).trans Kr3.out.2.2.2.2.2.2.2.2.2.1, (hb1.frozen (p := ⟨w.heap.size + 1 + 1, 3, none⟩) (Frame.cell_lt Kr3.out.2.2.2.1)).trans Kr3.out.2.2.2.2.2.2.2.2.2.2.1, (hb1.frozen (p := ⟨w.heap.size + 1 + 1, 4, none⟩) (Frame.cell_lt Kr3.out.2.2.2.2.1)).trans Kr3.out.2.2.2.2.2.2.2.2.2.2.2.1, (hb1.frozen (p := ⟨w.heap.size + 1 + 1, 5, none⟩) (Frame.cell_lt Kr3.out.2.2.2.2.2.1)).trans Kr3.out.2.2.2.2.2.2.2.2.2.2.2.2.1, (hb1.frozen (p := ⟨w.heap.size + 1 + 1, 6, none⟩) (Frame.cell_lt Kr3.out.2.2.2.2.2.2.1)).trans Kr3.out.2.2.2.2.2.2.2.2.2.2.2.2.2⟩
        have B1 : Hid (Below w.heap.size w w1) := Frame.next B0.out hb1 B0.out.size
        clear hb1
        have qb403 := Kb401.out.1
        have qb404 := Kb401.out.2.1
        have qb405 := Kb401.out.2.2.1
        have qb406 := Kb401.out.2.2.2.1
        have qb407 := Kb401.out.2.2.2.2.1
        have qb408 := Kb401.out.2.2.2.2.2.1
        have qb409 := Kb401.out.2.2.2.2.2.2
        go_wp2_with fail
        refine (spec_GoodSum b.r b.k b.t b.lb b.l b.hb b.h _).mono ?_
        rintro e w2 ⟨rfl, hb2⟩
        rw [HB.out]
        clear qb403 qb404 qb405 qb406 qb407 qb408 qb409
        have Ka410 : Hid (w2.cell? ⟨w.heap.size, 0, none⟩ = some (.int .i64 a.r) ∧ w2.cell? ⟨w.heap.size, 1, none⟩ = some (.int .i64 a.k) ∧ w2.cell? ⟨w.heap.size, 2, none⟩ = some (.int .i64 a.t) ∧ w2.cell? ⟨w.heap.size, 3, none⟩ = some (.bool a.lb) ∧ w2.cell? ⟨w.heap.size, 4, none⟩ = some (.int .i64 a.l) ∧ w2.cell? ⟨w.heap.size, 5, none⟩ = some (.bool a.hb) ∧ w2.cell? ⟨w.heap.size, 6, none⟩ = some (.int .i64 a.h)) := ⟨Frame.held_cell hb2 Ka400.out.1, Frame.held_cell hb2 Ka400.out.2.1, Frame.held_cell hb2 Ka400.out.2.2.1, Frame.held_cell hb2 Ka400.out.2.2.2.1, Frame.held_cell hb2 Ka400.out.2.2.2.2.1, Frame.held_cell hb2 Ka400.out.2.2.2.2.2.1, Frame.held_cell hb2 Ka400.out.2.2.2.2.2.2⟩
        have Kb411 : Hid (w2.cell? ⟨w.heap.size + 1, 0, none⟩ = some (.int .i64 b.r) ∧ w2.cell? ⟨w.heap.size + 1, 1, none⟩ = some (.int .i64 b.k) ∧ w2.cell? ⟨w.heap.size + 1, 2, none⟩ = some (.int .i64 b.t) ∧ w2.cell? ⟨w.heap.size + 1, 3, none⟩ = some (.bool b.lb) ∧ w2.cell? ⟨w.heap.size + 1, 4, none⟩ = some (.int .i64 b.l) ∧ w2.cell? ⟨w.heap.size + 1, 5, none⟩ = some (.bool b.hb) ∧ w2.cell? ⟨w.heap.size + 1, 6, none⟩ = some (.int .i64 b.h)) := ⟨Frame.held_cell hb2 Kb401.out.1, Frame.held_cell hb2 Kb401.out.2.1, Frame.held_cell hb2 Kb401.out.2.2.1, Frame.held_cell hb2 Kb401.out.2.2.2.1, Frame.held_cell hb2 Kb401.out.2.2.2.2.1, Frame.held_cell hb2 Kb401.out.2.2.2.2.2.1, Frame.held_cell hb2 Kb401.out.2.2.2.2.2.2⟩
        have Kr412 : Hid (w2.cell? ⟨w.heap.size + 1 + 1, 0, none⟩ = some (.int .i64 0) ∧ w2.cell? ⟨w.heap.size + 1 + 1, 1, none⟩ = some (.int .i64 0) ∧ w2.cell? ⟨w.heap.size + 1 + 1, 2, none⟩ = some (.int .i64 0) ∧ w2.cell? ⟨w.heap.size + 1 + 1, 3, none⟩ = some (.bool false) ∧ w2.cell? ⟨w.heap.size + 1 + 1, 4, none⟩ = some (.int .i64 0) ∧ w2.cell? ⟨w.heap.size + 1 + 1, 5, none⟩ = some (.bool false) ∧ w2.cell? ⟨w.heap.size + 1 + 1, 6, none⟩ = some (.int .i64 0) ∧ w2.frozen? ⟨w.heap.size + 1 + 1, 0, none⟩ = false ∧ w2.frozen? ⟨w.heap.size + 1 + 1, 1, none⟩ = false ∧ w2.frozen? ⟨w.heap.size + 1 + 1, 2, none⟩ = false ∧ w2.frozen? ⟨w.heap.size + 1 + 1, 3, none⟩ = false ∧ w2.frozen? ⟨w.heap.size + 1 + 1, 4, none⟩ = false ∧ w2.frozen? ⟨w.heap.size + 1 + 1, 5, none⟩ = false ∧ w2.frozen? ⟨w.heap.size + 1 + 1, 6, none⟩ = false) := ⟨Frame.held_cell hb2 Kr402.out.1, Frame.held_cell hb2 Kr402.out.2.1, Frame.held_cell hb2 Kr402.out.2.2.1, Frame.held_cell hb2 Kr402.out.2.2.2.1, Frame.held_cell hb2 Kr402.out.2.2.2.2.1, Frame.held_cell hb2 Kr402.out.2.2.2.2.2.1, Frame.held_cell hb2 Kr402.out.2.2.2.2.2.2.1, (hb2.frozen (p := ⟨w.heap.size + 1 + 1, 0, none⟩) (Frame.cell_lt Kr402.out.1)).trans Kr402.out.2.2.2.2.2.2.2.1, (hb2.frozen (p := ⟨w.heap.size + 1 + 1, 1, none⟩) (Frame.cell_lt Kr402.out.2.1)).trans Kr402.out.2.2.2.2.2.2.2.2.1, (hb2.frozen (p := ⟨w.heap.size + 1 + 1, 2, none⟩) (Frame.cell_lt Kr402.out.2.2.1)).trans Kr402.out.2.2.2.2.2.2.2.2.2.1, (hb2.frozen (p := ⟨w.heap.size + 1 + 1, 3, none⟩) (Frame.cell_lt Kr402.out.2.2.2.1)).trans Kr402.out.2.2.2.2.2.2.2.2.2.2.1, (hb2.frozen (p := ⟨w.heap.size + 1 + 1, 4, none⟩) (Frame.cell_lt Kr402.out.2.2.2.2.1)).trans Kr402.out.2.2.2.2.2.2.2.2.2.2.2.1, (hb2.frozen (p := ⟨w.heap.size + 1 + 1, 5, none⟩) (Frame.cell_lt Kr402.out.2.2.2.2.2.1)).trans Kr402.out.2.2.2.2.2.2.2.2.2.2.2.2.1, (hb2.frozen (p := ⟨w.heap.size + 1 + 1, 6, none⟩) (Frame.cell_lt Kr402.out.2.2.2.2.2.2.1)).trans Kr402.out.2.2.2.2.2.2.2.2.2.2.2.2.2⟩
        have B2 : Hid (Below w.heap.size w w2) := Frame.next B1.out hb2 B1.out.size
        clear hb2
        have qa413 := Ka410.out.1
        have qa414 := Ka410.out.2.1
        have qa415 := Ka410.out.2.2.1
        have qa416 := Ka410.out.2.2.2.1
        have qa417 := Ka410.out.2.2.2.2.1
        have qa418 := Ka410.out.2.2.2.2.2.1
        have qa419 := Ka410.out.2.2.2.2.2.2
        have qb420 := Kb411.out.1
        have qb421 := Kb411.out.2.1
        have qb422 := Kb411.out.2.2.1
        have qb423 := Kb411.out.2.2.2.1
        have qb424 := Kb411.out.2.2.2.2.1
        have qb425 := Kb411.out.2.2.2.2.2.1
        have qb426 := Kb411.out.2.2.2.2.2.2
        have l1 : w.heap.size < w2.heap.size := Frame.cell_lt qa413
        have l2 : w.heap.size + 1 < w2.heap.size := Frame.cell_lt qb420
        go_wp2_with fail
        rw [EW.out.1, EW.out.2.1, EW.out.2.2]
        refine (spec_GoodSum _ _ _ _ _ _ _ _).mono ?_
        rintro e w3 ⟨rfl, hb3⟩
        rw [HG.out]
        clear qa413 qa414 qa415 qa416 qa417 qa418 qa419 qb420 qb421 qb422 qb423 qb424 qb425 qb426
        have hz3 := hb3.size
        rw [World.size_alloc] at hz3
        have bw : Below w2.heap.size w2 w3 := Frame.next ((Below.refl _ _).alloc (Nat.le_refl _) _) hb3 (by simp)
        have Ka427 : Hid (w3.cell? ⟨w.heap.size, 0, none⟩ = some (.int .i64 a.r) ∧ w3.cell? ⟨w.heap.size, 1, none⟩ = some (.int .i64 a.k) ∧ w3.cell? ⟨w.heap.size, 2, none⟩ = some (.int .i64 a.t) ∧ w3.cell? ⟨w.heap.size, 3, none⟩ = some (.bool a.lb) ∧ w3.cell? ⟨w.heap.size, 4, none⟩ = some (.int .i64 a.l) ∧ w3.cell? ⟨w.heap.size, 5, none⟩ = some (.bool a.hb) ∧ w3.cell? ⟨w.heap.size, 6, none⟩ = some (.int .i64 a.h)) := ⟨Frame.held_cell bw Ka410.out.1, Frame.held_cell bw Ka410.out.2.1, Frame.held_cell bw Ka410.out.2.2.1, Frame.held_cell bw Ka410.out.2.2.2.1, Frame.held_cell bw Ka410.out.2.2.2.2.1, Frame.held_cell bw Ka410.out.2.2.2.2.2.1, Frame.held_cell bw Ka410.out.2.2.2.2.2.2⟩
        have Kb428 : Hid (w3.cell? ⟨w.heap.size + 1, 0, none⟩ = some (.int .i64 b.r) ∧ w3.cell? ⟨w.heap.size + 1, 1, none⟩ = some (.int .i64 b.k) ∧ w3.cell? ⟨w.heap.size + 1, 2, none⟩ = some (.int .i64 b.t) ∧ w3.cell? ⟨w.heap.size + 1, 3, none⟩ = some (.bool b.lb) ∧ w3.cell? ⟨w.heap.size + 1, 4, none⟩ = some (.int .i64 b.l) ∧ w3.cell? ⟨w.heap.size + 1, 5, none⟩ = some (.bool b.hb) ∧ w3.cell? ⟨w.heap.size + 1, 6, none⟩ = some (.int .i64 b.h)) := ⟨Frame.held_cell bw Kb411.out.1, Frame.held_cell bw Kb411.out.2.1, Frame.held_cell bw Kb411.out.2.2.1, Frame.held_cell bw Kb411.out.2.2.2.1, Frame.held_cell bw Kb411.out.2.2.2.2.1, Frame.held_cell bw Kb411.out.2.2.2.2.2.1, Frame.held_cell bw Kb411.out.2.2.2.2.2.2⟩
        have Kr429 : Hid (w3.cell? ⟨w.heap.size + 1 + 1, 0, none⟩ = some (.int .i64 0) ∧ w3.cell? ⟨w.heap.size + 1 + 1, 1, none⟩ = some (.int .i64 0) ∧ w3.cell? ⟨w.heap.size + 1 + 1, 2, none⟩ = some (.int .i64 0) ∧ w3.cell? ⟨w.heap.size + 1 + 1, 3, none⟩ = some (.bool false) ∧ w3.cell? ⟨w.heap.size + 1 + 1, 4, none⟩ = some (.int .i64 0) ∧ w3.cell? ⟨w.heap.size + 1 + 1, 5, none⟩ = some (.bool false) ∧ w3.cell? ⟨w.heap.size + 1 + 1, 6, none⟩ = some (.int .i64 0) ∧ w3.frozen? ⟨w.heap.size + 1 + 1, 0, none⟩ = false ∧ w3.frozen? ⟨w.heap.size + 1 + 1, 1, none⟩ = false ∧ w3.frozen? ⟨w.heap.size + 1 + 1, 2, none⟩ = false ∧ w3.frozen? ⟨w.heap.size + 1 + 1, 3, none⟩ = false ∧ w3.frozen? ⟨w.heap.size + 1 + 1, 4, none⟩ = false ∧ w3.frozen? ⟨w.heap.size + 1 + 1, 5, none⟩ = false ∧ w3.frozen? ⟨w.heap.size + 1 + 1, 6, none⟩ = false) := ⟨Frame.held_cell bw Kr412.out.1, Frame.held_cell bw Kr412.out.2.1, Frame.held_cell bw Kr412.out.2.2.1, Frame.held_cell bw Kr412.out.2.2.2.1, Frame.held_cell bw Kr412.out.2.2.2.2.1, Frame.held_cell bw Kr412.out.2.2.2.2.2.1, Frame.held_cell bw Kr412.out.2.2.2.2.2.2.1, (bw.frozen (p := ⟨w.heap.size + 1 + 1, 0, none⟩) (Frame.cell_lt Kr412.out.1)).trans Kr412.out.2.2.2.2.2.2.2.1, (bw.frozen (p := ⟨w.heap.size + 1 + 1, 1, none⟩) (Frame.cell_lt Kr412.out.2.1)).trans Kr412.out.2.2.2.2.2.2.2.2.1, (bw.frozen (p := ⟨w.heap.size + 1 + 1, 2, none⟩) (Frame.cell_lt Kr412.out.2.2.1)).trans Kr412.out.2.2.2.2.2.2.2.2.2.1, (bw.frozen (p := ⟨w.heap.size + 1 + 1, 3, none⟩) (Frame.cell_lt Kr412.out.2.2.2.1)).trans Kr412.out.2.2.2.2.2.2.2.2.2.2.1, (bw.frozen (p := ⟨w.heap.size + 1 + 1, 4, none⟩) (Frame.cell_lt Kr412.out.2.2.2.2.1)).trans Kr412.out.2.2.2.2.2.2.2.2.2.2.2.1, (bw.frozen (p := ⟨w.heap.size + 1 + 1, 5, none⟩) (Frame.cell_lt Kr412.out.2.2.2.2.2.1)).trans Kr412.out.2.2.2.2.2.2.2.2.2.2.2.2.1, (bw.frozen (p := ⟨w.heap.size + 1 + 1, 6, none⟩) (Frame.cell_lt Kr412.out.2.2.2.2.2.2.1)).trans Kr412.out.2.2.2.2.2.2.2.2.2.2.2.2.2⟩
        have o0 : w3.cell? ⟨w2.heap.size, 0, none⟩ = some (.int .i64 (a.r + b.r)) := by rw [(Frame.bcell hb3).1 _ _ (by simp)]; go_simp
        have o1 : w3.cell? ⟨w2.heap.size, 1, none⟩ = some (.int .i64 (a.k + b.k)) := by rw [(Frame.bcell hb3).1 _ _ (by simp)]; go_simp
        have o2 : w3.cell? ⟨w2.heap.size, 2, none⟩ = some (.int .i64 (a.t + b.t)) := by rw [(Frame.bcell hb3).1 _ _ (by simp)]; go_simp
        have o3 : w3.cell? ⟨w2.heap.size, 3, none⟩ = some (.bool a.lb) := by rw [(Frame.bcell hb3).1 _ _ (by simp)]; go_simp
        have o4 : w3.cell? ⟨w2.heap.size, 4, none⟩ = some (.int .i64 a.l) := by rw [(Frame.bcell hb3).1 _ _ (by simp)]; go_simp
        have o5 : w3.cell? ⟨w2.heap.size, 5, none⟩ = some (.bool a.hb) := by rw [(Frame.bcell hb3).1 _ _ (by simp)]; go_simp
        have o6 : w3.cell? ⟨w2.heap.size, 6, none⟩ = some (.int .i64 a.h) := by rw [(Frame.bcell hb3).1 _ _ (by simp)]; go_simp
        have B3 : Hid (Below w.heap.size w w3) := Frame.next B2.out bw B2.out.size
        clear hb3 bw
        have qr430 := Kr429.out.1
        have qr431 := Kr429.out.2.1
        have qr432 := Kr429.out.2.2.1
        have qr433 := Kr429.out.2.2.2.1
        have qr434 := Kr429.out.2.2.2.2.1
        have qr435 := Kr429.out.2.2.2.2.2.1
        have qr436 := Kr429.out.2.2.2.2.2.2.1
        have qr437 := Kr429.out.2.2.2.2.2.2.2.1
        have qr438 := Kr429.out.2.2.2.2.2.2.2.2.1
        have qr439 := Kr429.out.2.2.2.2.2.2.2.2.2.1
        have qr440 := Kr429.out.2.2.2.2.2.2.2.2.2.2.1
        have qr441 := Kr429.out.2.2.2.2.2.2.2.2.2.2.2.1
        have qr442 := Kr429.out.2.2.2.2.2.2.2.2.2.2.2.2.1
        have qr443 := Kr429.out.2.2.2.2.2.2.2.2.2.2.2.2.2
        go_wp2
        refine bodyPost_ret (v := .tuple #[.agg #[.int .i64 0, .int .i64 0, .int .i64 0, .bool false, .int .i64 0, .bool false, .int .i64 0], .bool false]) (by simp [results, Tryd.results18, go_sem, qr430, qr431, qr432, qr433, qr434, qr435, qr436]) rfl ?_
        exact ⟨rfl, (((((((B3.out.setCell hr _).setCell hr _).setCell hr _).setCell hr _).setCell hr _).setCell hr _).setCell hr _)⟩
      · have HG : Hid (goodS (a.r + b.r) (a.k + b.k) (a.t + b.t) a.lb a.l a.hb a.h = true) := hG
        have e : fit (⟨a.r + b.r, a.k + b.k, a.t + b.t, a.lb, a.l, a.hb, a.h⟩ : Sm) = (⟨a.r + b.r, a.k + b.k, a.t + b.t, a.lb, a.l, a.hb, a.h⟩ : Sm) := if_pos hG
        have e' : (⟨a.r + b.r, a.k + b.k, a.t + b.t, a.lb, a.l, a.hb, a.h⟩ : Sm).good = true := hG
        rw [e, e']
        clear e e' hG
        go_enter Tryd.func18, Tryd.ntmps18
        go_wp2_with fail
        refine (spec_GoodSum a.r a.k a.t a.lb a.l a.hb a.h _).mono ?_
        rintro e w1 ⟨rfl, hb1⟩
        rw [HA.out]
        have Ka444 : Hid (w1.cell? ⟨w.heap.size, 0, none⟩ = some (.int .i64 a.r) ∧ w1.cell? ⟨w.heap.size, 1, none⟩ = some (.int .i64 a.k) ∧ w1.cell? ⟨w.heap.size, 2, none⟩ = some (.int .i64 a.t) ∧ w1.cell? ⟨w.heap.size, 3, none⟩ = some (.bool a.lb) ∧ w1.cell? ⟨w.heap.size, 4, none⟩ = some (.int .i64 a.l) ∧ w1.cell? ⟨w.heap.size, 5, none⟩ = some (.bool a.hb) ∧ w1.cell? ⟨w.heap.size, 6, none⟩ = some (.int .i64 a.h)) := ⟨Frame.held_cell hb1 Ka1.out.1, Frame.held_cell hb1 Ka1.out.2.1, Frame.held_cell hb1 Ka1.out.2.2.1, Frame.held_cell hb1 Ka1.out.2.2.2.1, Frame.held_cell hb1 Ka1.out.2.2.2.2.1, Frame.held_cell hb1 Ka1.out.2.2.2.2.2.1, Frame.held_cell hb1 Ka1.out.2.2.2.2.2.2⟩
        have Kb445 : Hid (w1.cell? ⟨w.heap.size + 1, 0, none⟩ = some (.int .i64 b.r) ∧ w1.cell? ⟨w.heap.size + 1, 1, none⟩ = some (.int .i64 b.k) ∧ w1.cell? ⟨w.heap.size + 1, 2, none⟩ = some (.int .i64 b.t) ∧ w1.cell? ⟨w.heap.size + 1, 3, none⟩ = some (.bool b.lb) ∧ w1.cell? ⟨w.heap.size + 1, 4, none⟩ = some (.int .i64 b.l) ∧ w1.cell? ⟨w.heap.size + 1, 5, none⟩ = some (.bool b.hb) ∧ w1.cell? ⟨w.heap.size + 1, 6, none⟩ = some (.int .i64 b.h)) := ⟨Frame.held_cell hb1 Kb2.out.1, Frame.held_cell hb1 Kb2.out.2.1, Frame.held_cell hb1 Kb2.out.2.2.1, Frame.held_cell hb1 Kb2.out.2.2.2.1, Frame.held_cell hb1 Kb2.out.2.2.2.2.1, Frame.held_cell hb1 Kb2.out.2.2.2.2.2.1, Frame.held_cell hb1 Kb2.out.2.2.2.2.2.2⟩
        have Kr446 : Hid (w1.cell? ⟨w.heap.size + 1 + 1, 0, none⟩ = some (.int .i64 0) ∧ w1.cell? ⟨w.heap.size + 1 + 1, 1, none⟩ = some (.int .i64 0) ∧ w1.cell? ⟨w.heap.size + 1 + 1, 2, none⟩ = some (.int .i64 0) ∧ w1.cell? ⟨w.heap.size + 1 + 1, 3, none⟩ = some (.bool false) ∧ w1.cell? ⟨w.heap.size + 1 + 1, 4, none⟩ = some (.int .i64 0) ∧ w1.cell? ⟨w.heap.size + 1 + 1, 5, none⟩ = some (.bool false) ∧ w1.cell? ⟨w.heap.size + 1 + 1, 6, none⟩ = some (.int .i64 0) ∧ w1.frozen? ⟨w.heap.size + 1 + 1, 0, none⟩ = false ∧ w1.frozen? ⟨w.heap.size + 1 + 1, 1, none⟩ = false ∧ w1.frozen? ⟨w.heap.size + 1 + 1, 2, none⟩ = false ∧ w1.frozen? ⟨w.heap.size + 1 + 1, 3, none⟩ = false ∧ w1.frozen? ⟨w.heap.size + 1 + 1, 4, none⟩ = false ∧ w1.frozen? ⟨w.heap.size + 1 + 1, 5, none⟩ = false ∧ w1.frozen? ⟨w.heap.size + 1 + 1, 6, none⟩ = false) := ⟨Frame.held_cell hb1 Kr3.out.1, Frame.held_cell hb1 Kr3.out.2.1, Frame.held_cell hb1 Kr3.out.2.2.1, Frame.held_cell hb1 Kr3.out.2.2.2.1, Frame.held_cell hb1 Kr3.out.2.2.2.2.1, Frame.held_cell hb1 Kr3.out.2.2.2.2.2.1, Frame.held_cell hb1 Kr3.out.2.2.2.2.2.2.1, (hb1.frozen (p := ⟨w.heap.size + 1 + 1, 0, none⟩) (Frame.cell_lt Kr3.out.1)).trans Kr3.out.2.2.2.2.2.2.2.1, (hb1.frozen (p := ⟨w.heap.size + 1 + 1, 1, none⟩) (Frame.cell_lt Kr3.out.2.1)).trans Kr3.out.2.2.2.2.2.2.2.2.1, (hb1.frozen (p := ⟨w.heap.size + 1 + 1, 2, none⟩) (Frame.cell_lt Kr3.out.2.2.1)).trans Kr3.out.2.2.2.2.2.2.2.2.2.1, (hb1.frozen (p := ⟨w.heap.size + 1 + 1, 3, none⟩) (Frame.cell_lt Kr3.out.2.2.2.1)).trans Kr3.out.2.2.2.2.2.2.2.2.2.2.1, (hb1.frozen (p := ⟨w.heap.size + 1 + 1, 4, none⟩) (Frame.cell_lt Kr3.out.2.2.2.2.1)).trans Kr3.out.2.2.2.2.2.2.2.2.2.2.2.1, (hb1.frozen (p := ⟨w.heap.size + 1 + 1, 5, none⟩) (Frame.cell_lt Kr3.out.2.2.2.2.2.1)).trans Kr3.out.2.2.2.2.2.2.2.2.2.2.2.2.1, (hb1.frozen (p := ⟨w.heap.size + 1 + 1, 6, none⟩) (Frame.cell_lt Kr3.out.2.2.2.2.2.2.1)).trans Kr3.out.2.2.2.2.2.2.2.2.2.2.2.2.2⟩
        have B1 : Hid (Below w.heap.size w w1) := Frame.next B0.out hb1 B0.out.size
        clear hb1
        have qb447 := Kb445.out.1
        have qb448 := Kb445.out.2.1
        have qb449 := Kb445.out.2.2.1
        have qb450 := Kb445.out.2.2.2.1
        have qb451 := Kb445.out.2.2.2.2.1
        have qb452 := Kb445.out.2.2.2.2.2.1
        have qb453 := Kb445.out.2.2.2.2.2.2
        go_wp2_with fail
        refine (spec_GoodSum b.r b.k b.t b.lb b.l b.hb b.h _).mono ?_
        rintro e w2 ⟨rfl, hb2⟩
        rw [HB.out]
        clear qb447 qb448 qb449 qb450 qb451 qb452 qb453
        have Ka454 : Hid (w2.cell? ⟨w.heap.size, 0, none⟩ = some (.int .i64 a.r) ∧ w2.cell? ⟨w.heap.size, 1, none⟩ = some (.int .i64 a.k) ∧ w2.cell? ⟨w.heap.size, 2, none⟩ = some (.int .i64 a.t) ∧ w2.cell? ⟨w.heap.size, 3, none⟩ = some (.bool a.lb) ∧ w2.cell? ⟨w.heap.size, 4, none⟩ = some (.int .i64 a.l) ∧ w2.cell? ⟨w.heap.size, 5, none⟩ = some (.bool a.hb) ∧ w2.cell? ⟨w.heap.size, 6, none⟩ = some (.int .i64 a.h)) := ⟨Frame.held_cell hb2 Ka444.out.1, Frame.held_cell hb2 Ka444.out.2.1, Frame.held_cell hb2 Ka444.out.2.2.1, Frame.held_cell hb2 Ka444.out.2.2.2.1, Frame.held_cell hb2 Ka444.out.2.2.2.2.1, Frame.held_cell hb2 Ka444.out.2.2.2.2.2.1, Frame.held_cell hb2 Ka444.out.2.2.2.2.2.2⟩
        have Kb455 : Hid (w2.cell? ⟨w.heap.size + 1, 0, none⟩ = some (.int .i64 b.r) ∧ w2.cell? ⟨w.heap.size + 1, 1, none⟩ = some (.int .i64 b.k) ∧ w2.cell? ⟨w.heap.size + 1, 2, none⟩ = some (.int .i64 b.t) ∧ w2.cell? ⟨w.heap.size + 1, 3, none⟩ = some (.bool b.lb) ∧ w2.cell? ⟨w.heap.size + 1, 4, none⟩ = some (.int .i64 b.l) ∧ w2.cell? ⟨w.heap.size + 1, 5, none⟩ = some (.bool b.hb) ∧ w2.cell? ⟨w.heap.size + 1, 6, none⟩ = some (.int .i64 b.h)) := ⟨Frame.held_cell hb2 Kb445.out.1, Frame.held_cell hb2 Kb445.out.2.1, Frame.held_cell hb2 Kb445.out.2.2.1, Frame.held_cell hb2 Kb445.out.2.2.2.1, Frame.held_cell hb2 Kb445.out.2.2.2.2.1, Frame.held_cell hb2 Kb445.out.2.2.2.2.2.1, Frame.held_cell hb2 Kb445.out.2.2.2.2.2.2⟩
        have Kr456 : Hid (w2.cell? ⟨w.heap.size + 1 + 1, 0, none⟩ = some (.int .i64 0) ∧ w2.cell? ⟨w.heap.size + 1 + 1, 1, none⟩ = some (.int .i64 0) ∧ w2.cell? ⟨w.heap.size + 1 + 1, 2, none⟩ = some (.int .i64 0) ∧ w2.cell? ⟨w.heap.size + 1 + 1, 3, none⟩ = some (.bool false) ∧ w2.cell? ⟨w.heap.size + 1 + 1, 4, none⟩ = some (.int .i64 0) ∧ w2.cell? ⟨w.heap.size + 1 + 1, 5, none⟩ = some (.bool false) ∧ w2.cell? ⟨w.heap.size + 1 + 1, 6, none⟩ = some (.int .i64 0) ∧ w2.frozen? ⟨w.heap.size + 1 + 1, 0, none⟩ = false ∧ w2.frozen? ⟨w.heap.size + 1 + 1, 1, none⟩ = false ∧ w2.frozen? ⟨w.heap.size + 1 + 1, 2, none⟩ = false ∧ w2.frozen? ⟨w.heap.size + 1 + 1, 3, none⟩ = false ∧ w2.frozen? ⟨w.heap.size + 1 + 1, 4, none⟩ = false ∧ w2.frozen? ⟨w.heap.size + 1 + 1, 5, none⟩ = false ∧ w2.frozen? ⟨w.heap.size + 1 + 1, 6, none⟩ = false) := ⟨Frame.held_cell hb2 Kr446.out.1, Frame.held_cell hb2 Kr446.out.2.1, Frame.held_cell hb2 Kr446.out.2.2.1, Frame.held_cell hb2 Kr446.out.2.2.2.1, Frame.held_cell hb2 Kr446.out.2.2.2.2.1, Frame.held_cell hb2 Kr446.out.2.2.2.2.2.1, Frame.held_cell hb2 Kr446.out.2.2.2.2.2.2.1, (hb2.frozen (p := ⟨w.heap.size + 1 + 1, 0, none⟩) (Frame.cell_lt Kr446.out.1)).trans Kr446.out.2.2.2.2.2.2.2.1, (hb2.frozen (p := ⟨w.heap.size + 1 + 1, 1, none⟩) (Frame.cell_lt Kr446.out.2.1)).trans Kr446.out.2.2.2.2.2.2.2.2.1, (hb2.frozen (p := ⟨w.heap.size + 1 + 1, 2, none⟩) (Frame.cell_lt Kr446.out.2.2.1)).trans Kr446.out.2.2.2.2.2.2.2.2.2.1, (hb2.frozen (p := ⟨w.heap.size + 1 + 1, 3, none⟩) (Frame.cell_lt Kr446.out.2.2.2.1)).trans Kr446.out.2.2.2.2.2.2.2.2.2.2.1, (hb2.frozen (p := ⟨w.heap.size + 1 + 1, 4, none⟩) (Frame.cell_lt Kr446.out.2.2.2.2.1)).trans Kr446.out.2.2.2.2.2.2.2.2.2.2.2.1, (hb2.frozen (p := ⟨w.heap.size + 1 + 1, 5, none⟩) (Frame.cell_lt Kr446.out.2.2.2.2.2.1)).trans Kr446.out.2.2.2.2.2.2.2.2.2.2.2.2.1, (hb2.frozen (p := ⟨w.heap.size + 1 + 1, 6, none⟩) (Frame.cell_lt Kr446.out.2.2.2.2.2.2.1)).trans Kr446.out.2.2.2.2.2.2.2.2.2.2.2.2.2⟩
        have B2 : Hid (Below w.heap.size w w2) := Frame.next B1.out hb2 B1.out.size
        clear hb2
        have qa457 := Ka454.out.1
        have qa458 := Ka454.out.2.1
        have qa459 := Ka454.out.2.2.1
        have qa460 := Ka454.out.2.2.2.1
        have qa461 := Ka454.out.2.2.2.2.1
        have qa462 := Ka454.out.2.2.2.2.2.1
        have qa463 := Ka454.out.2.2.2.2.2.2
        have qb464 := Kb455.out.1
        have qb465 := Kb455.out.2.1
        have qb466 := Kb455.out.2.2.1
        have qb467 := Kb455.out.2.2.2.1
        have qb468 := Kb455.out.2.2.2.2.1
        have qb469 := Kb455.out.2.2.2.2.2.1
        have qb470 := Kb455.out.2.2.2.2.2.2
        have l1 : w.heap.size < w2.heap.size := Frame.cell_lt qa457
        have l2 : w.heap.size + 1 < w2.heap.size := Frame.cell_lt qb464
        go_wp2_with fail
        rw [EW.out.1, EW.out.2.1, EW.out.2.2]
        refine (spec_GoodSum _ _ _ _ _ _ _ _).mono ?_
        rintro e w3 ⟨rfl, hb3⟩
        rw [HG.out]
        clear qa457 qa458 qa459 qa460 qa461 qa462 qa463 qb464 qb465 qb466 qb467 qb468 qb469 qb470
        have hz3 := hb3.size
        rw [World.size_alloc] at hz3
        have bw : Below w2.heap.size w2 w3 := Frame.next ((Below.refl _ _).alloc (Nat.le_refl _) _) hb3 (by simp)
        have Ka471 : Hid (w3.cell? ⟨w.heap.size, 0, none⟩ = some (.int .i64 a.r) ∧ w3.cell? ⟨w.heap.size, 1, none⟩ = some (.int .i64 a.k) ∧ w3.cell? ⟨w.heap.size, 2, none⟩ = some (.int .i64 a.t) ∧ w3.cell? ⟨w.heap.size, 3, none⟩ = some (.bool a.lb) ∧ w3.cell? ⟨w.heap.size, 4, none⟩ = some (.int .i64 a.l) ∧ w3.cell? ⟨w.heap.size, 5, none⟩ = some (.bool a.hb) ∧ w3.cell? ⟨w.heap.size, 6, none⟩ = some (.int .i64 a.h)) := ⟨Frame.held_cell bw Ka454.out.1, Frame.held_cell bw Ka454.out.2.1, Frame.held_cell bw Ka454.out.2.2.1, Frame.held_cell bw Ka454.out.2.2.2.1, Frame.held_cell bw Ka454.out.2.2.2.2.1, Frame.held_cell bw Ka454.out.2.2.2.2.2.1, Frame.held_cell bw Ka454.out.2.2.2.2.2.2⟩
        have Kb472 : Hid (w3.cell? ⟨w.heap.size + 1, 0, none⟩ = some (.int .i64 b.r) ∧ w3.cell? ⟨w.heap.size + 1, 1, none⟩ = some (.int .i64 b.k) ∧ w3.cell? ⟨w.heap.size + 1, 2, none⟩ = some (.int .i64 b.t) ∧ w3.cell? ⟨w.heap.size + 1, 3, none⟩ = some (.bool b.lb) ∧ w3.cell? ⟨w.heap.size + 1, 4, none⟩ = some (.int .i64 b.l) ∧ w3.cell? ⟨w.heap.size + 1, 5, none⟩ = some (.bool b.hb) ∧ w3.cell? ⟨w.heap.size + 1, 6, none⟩ = some (.int .i64 b.h)) := ⟨Frame.held_cell bw Kb455.out.1, Frame.held_cell bw Kb455.out.2.1, Frame.held_cell bw Kb455.out.2.2.1, Frame.held_cell bw Kb455.out.2.2.2.1, Frame.held_cell bw Kb455.out.2.2.2.2.1, Frame.held_cell bw Kb455.out.2.2.2.2.2.1, Frame.held_cell bw Kb455.out.2.2.2.2.2.2⟩
        have Kr473 : Hid (w3.cell? ⟨w.heap.size + 1 + 1, 0, none⟩ = some (.int .i64 0) ∧ w3.cell? ⟨w.heap.size + 1 + 1, 1, none⟩ = some (.int .i64 0) ∧ w3.cell? ⟨w.heap.size + 1 + 1, 2, none⟩ = some (.int .i64 0) ∧ w3.cell? ⟨w.heap.size + 1 + 1, 3, none⟩ = some (.bool false) ∧ w3.cell? ⟨w.heap.size + 1 + 1, 4, none⟩ = some (.int .i64 0) ∧ w3.cell? ⟨w.heap.size + 1 + 1, 5, none⟩ = some (.bool false) ∧ w3.cell? ⟨w.heap.size + 1 + 1, 6, none⟩ = some (.int .i64 0) ∧ w3.frozen? ⟨w.heap.size + 1 + 1, 0, none⟩ = false ∧ w3.frozen? ⟨w.heap.size + 1 + 1, 1, none⟩ = false ∧ w3.frozen? ⟨w.heap.size + 1 + 1, 2, none⟩ = false ∧ w3.frozen? ⟨w.heap.size + 1 + 1, 3, none⟩ = false ∧ w3.frozen? ⟨w.heap.size + 1 + 1, 4, none⟩ = false ∧ w3.frozen? ⟨w.heap.size + 1 + 1, 5, none⟩ = false ∧ w3.frozen? ⟨w.heap.size + 1 + 1, 6, none⟩ = false) := ⟨Frame.held_cell bw Kr456.out.1, Frame.held_cell bw Kr456.out.2.1, Frame.held_cell bw Kr456.out.2.2.1, Frame.held_cell bw Kr456.out.2.2.2.1, Frame.held_cell bw Kr456.out.2.2.2.2.1, Frame.held_cell bw Kr456.out.2.2.2.2.2.1, Frame.held_cell bw Kr456.out.2.2.2.2.2.2.1, (bw.frozen (p := ⟨w.heap.size + 1 + 1, 0, none⟩) (Frame.cell_lt Kr456.out.1)).trans Kr456.out.2.2.2.2.2.2.2.1, (bw.frozen (p := ⟨w.heap.size + 1 + 1, 1, none⟩) (Frame.cell_lt Kr456.out.2.1)).trans Kr456.out.2.2.2.2.2.2.2.2.1, (bw.frozen (p := ⟨w.heap.size + 1 + 1, 2, none⟩) (Frame.cell_lt Kr456.out.2.2.1)).trans Kr456.out.2.2.2.2.2.2.2.2.2.1, (bw.frozen (p := ⟨w.heap.size + 1 + 1, 3, none⟩) (Frame.cell_lt Kr456.out.2.2.2.1)).trans Kr456.out.2.2.2.2.2.2.2.2.2.2.1, (bw.frozen (p := ⟨w.heap.size + 1 + 1, 4, none⟩) (Frame.cell_lt Kr456.out.2.2.2.2.1)).trans Kr456.out.2.2.2.2.2.2.2.2.2.2.2.1, (bw.frozen (p := ⟨w.heap.size + 1 + 1, 5, none⟩) (Frame.cell_lt Kr456.out.2.2.2.2.2.1)).trans Kr456.out.2.2.2.2.2.2.2.2.2.2.2.2.1, (bw.frozen (p := ⟨w.heap.size + 1 + 1, 6, none⟩) (Frame.cell_lt Kr456.out.2.2.2.2.2.2.1)).trans Kr456.out.2.2.2.2.2.2.2.2.2.2.2.2.2⟩
        have o0 : w3.cell? ⟨w2.heap.size, 0, none⟩ = some (.int .i64 (a.r + b.r)) := by rw [(Frame.bcell hb3).1 _ _ (by simp)]; go_simp
        have o1 : w3.cell? ⟨w2.heap.size, 1, none⟩ = some (.int .i64 (a.k + b.k)) := by rw [(Frame.bcell hb3).1 _ _ (by simp)]; go_simp
        have o2 : w3.cell? ⟨w2.heap.size, 2, none⟩ = some (.int .i64 (a.t + b.t)) := by rw [(Frame.bcell hb3).1 _ _ (by simp)]; go_simp
        have o3 : w3.cell? ⟨w2.heap.size, 3, none⟩ = some (.bool a.lb) := by rw [(Frame.bcell hb3).1 _ _ (by simp)]; go_simp
        have o4 : w3.cell? ⟨w2.heap.size, 4, none⟩ = some (.int .i64 a.l) := by rw [(Frame.bcell hb3).1 _ _ (by simp)]; go_simp
        have o5 : w3.cell? ⟨w2.heap.size, 5, none⟩ = some (.bool a.hb) := by rw [(Frame.bcell hb3).1 _ _ (by simp)]; go_simp
        have o6 : w3.cell? ⟨w2.heap.size, 6, none⟩ = some (.int .i64 a.h) := by rw [(Frame.bcell hb3).1 _ _ (by simp)]; go_simp
        have B3 : Hid (Below w.heap.size w w3) := Frame.next B2.out bw B2.out.size
        clear hb3 bw
        have qr474 := Kr473.out.1
        have qr475 := Kr473.out.2.1
        have qr476 := Kr473.out.2.2.1
        have qr477 := Kr473.out.2.2.2.1
        have qr478 := Kr473.out.2.2.2.2.1
        have qr479 := Kr473.out.2.2.2.2.2.1
        have qr480 := Kr473.out.2.2.2.2.2.2.1
        have qr481 := Kr473.out.2.2.2.2.2.2.2.1
        have qr482 := Kr473.out.2.2.2.2.2.2.2.2.1
        have qr483 := Kr473.out.2.2.2.2.2.2.2.2.2.1
        have qr484 := Kr473.out.2.2.2.2.2.2.2.2.2.2.1
        have qr485 := Kr473.out.2.2.2.2.2.2.2.2.2.2.2.1
        have qr486 := Kr473.out.2.2.2.2.2.2.2.2.2.2.2.2.1
        have qr487 := Kr473.out.2.2.2.2.2.2.2.2.2.2.2.2.2
        go_wp2
        refine bodyPost_ret (v := .tuple #[.agg #[.int .i64 (a.r + b.r), .int .i64 (a.k + b.k), .int .i64 (a.t + b.t), .bool a.lb, .int .i64 a.l, .bool a.hb, .int .i64 a.h], .bool true]) (by simp [results, Tryd.results18, go_sem, qr474, qr475, qr476, qr477, qr478, qr479, qr480]) rfl ?_
        exact ⟨rfl, (((((((B3.out.setCell hr _).setCell hr _).setCell hr _).setCell hr _).setCell hr _).setCell hr _).setCell hr _)⟩
  · skip
    have T : tog a b = (⟨a.r + b.r, a.k + b.k, a.t + b.t, b.lb, b.l, b.hb, b.h⟩ : Sm) := by rw [TI, show lowB a b = true from by unfold lowB; simp [hk], show highB a b = true from by unfold highB; simp [hk]]; rfl
    rw [T]
    clear T TI
    cases hG : goodS (a.r + b.r) (a.k + b.k) (a.t + b.t) b.lb b.l b.hb b.h
    · have HG : Hid (goodS (a.r + b.r) (a.k + b.k) (a.t + b.t) b.lb b.l b.hb b.h = false) := hG
      have e : fit (⟨a.r + b.r, a.k + b.k, a.t + b.t, b.lb, b.l, b.hb, b.h⟩ : Sm) = zeroS := if_neg (by unfold Sm.good; rw [hG]; exact Bool.false_ne_true)
      have e' : (⟨a.r + b.r, a.k + b.k, a.t + b.t, b.lb, b.l, b.hb, b.h⟩ : Sm).good = false := hG
      rw [e, e']
      clear e e' hG
      go_enter Tryd.func18, Tryd.ntmps18
      go_wp2_with fail
      refine (spec_GoodSum a.r a.k a.t a.lb a.l a.hb a.h _).mono ?_
      rintro e w1 ⟨rfl, hb1⟩
      rw [HA.out]
      have Ka488 : Hid (w1.cell? ⟨w.heap.size, 0, none⟩ = some (.int .i64 a.r) ∧ w1.cell? ⟨w.heap.size, 1, none⟩ = some (.int .i64 a.k) ∧ w1.cell? ⟨w.heap.size, 2, none⟩ = some (.int .i64 a.t) ∧ w1.cell? ⟨w.heap.size, 3, none⟩ = some (.bool a.lb) ∧ w1.cell? ⟨w.heap.size, 4, none⟩ = some (.int .i64 a.l) ∧ w1.cell? ⟨w.heap.size, 5, none⟩ = some (.bool a.hb) ∧ w1.cell? ⟨w.heap.size, 6, none⟩ = some (.int .i64 a.h)) := ⟨Frame.held_cell hb1 Ka1.out.1, Frame.held_cell hb1 Ka1.out.2.1, Frame.held_cell hb1 Ka1.out.2.2.1, Frame.held_cell hb1 Ka1.out.2.2.2.1, Frame.held_cell hb1 Ka1.out.2.2.2.2.1, Frame.held_cell hb1 Ka1.out.2.2.2.2.2.1, Frame.held_cell hb1 Ka1.out.2.2.2.2.2.2⟩
      have Kb489 : Hid (w1.cell? ⟨w.heap.size + 1, 0, none⟩ = some (.int .i64 b.r) ∧ w1.cell? ⟨w.heap.size + 1, 1, none⟩ = some (.int .i64 b.k) ∧ w1.cell? ⟨w.heap.size + 1, 2, none⟩ = some (.int .i64 b.t) ∧ w1.cell? ⟨w.heap.size + 1, 3, none⟩ = some (.bool b.lb) ∧ w1.cell? ⟨w.heap.size + 1, 4, none⟩ = some (.int .i64 b.l) ∧ w1.cell? ⟨w.heap.size + 1, 5, none⟩ = some (.bool b.hb) ∧ w1.cell? ⟨w.heap.size + 1, 6, none⟩ = some (.int .i64 b.h)) := ⟨Frame.held_cell hb1 Kb2.out.1, Frame.held_cell hb1 Kb2.out.2.1, Frame.held_cell hb1 Kb2.out.2.2.1, Frame.held_cell hb1 Kb2.out.2.2.2.1, Frame.held_cell hb1 Kb2.out.2.2.2.2.1, Frame.held_cell hb1 Kb2.out.2.2.2.2.2.1, Frame.held_cell hb1 Kb2.out.2.2.2.2.2.2⟩
      have Kr490 : Hid (w1.cell? ⟨w.heap.size + 1 + 1, 0, none⟩ = some (.int .i64 0) ∧ w1.cell? ⟨w.heap.size + 1 + 1, 1, none⟩ = some (.int .i64 0) ∧ w1.cell? ⟨w.heap.size + 1 + 1, 2, none⟩ = some (.int .i64 0) ∧ w1.cell? ⟨w.heap.size + 1 + 1, 3, none⟩ = some (.bool false) ∧ w1.cell? ⟨w.heap.size + 1 + 1, 4, none⟩ = some (.int .i64 0) ∧ w1.cell? ⟨w.heap.size + 1 + 1, 5, none⟩ = some (.bool false) ∧ w1.cell? ⟨w.heap.size + 1 + 1, 6, none⟩ = some (.int .i64 0) ∧ w1.frozen? ⟨w.heap.size + 1 + 1, 0, none⟩ = false ∧ w1.frozen? ⟨w.heap.size + 1 + 1, 1, none⟩ = false ∧ w1.frozen? ⟨w.heap.size + 1 + 1, 2, none⟩ = false ∧ w1.frozen? ⟨w.heap.size + 1 + 1, 3, none⟩ = false ∧ w1.frozen? ⟨w.heap.size + 1 + 1, 4, none⟩ = false ∧ w1.frozen? ⟨w.heap.size + 1 + 1, 5, none⟩ = false ∧ w1.frozen? ⟨w.heap.size + 1 + 1, 6, none⟩ = false) := ⟨Frame.held_cell hb1 Kr3.out.1, Frame.held_cell hb1 Kr3.out.2.1, Frame.held_cell hb1 Kr3.out.2.2.1, Frame.held_cell hb1 Kr3.out.2.2.2.1, Frame.held_cell hb1 Kr3.out.2.2.2.2.1, Frame.held_cell hb1 Kr3.out.2.2.2.2.2.1, Frame.held_cell hb1 Kr3.out.2.2.2.2.2.2.1, (hb1.frozen (p := ⟨w.heap.size + 1 + 1, 0, none⟩) (Frame.cell_lt Kr3.out.1)).trans Kr3.out.2.2.2.2.2.2.2.1, (hb1.frozen (p := ⟨w.heap.size + 1 + 1, 1, none⟩) (Frame.cell_lt Kr3.out.2.1)).trans Kr3.out.2.2.2.2.2.2.2.2.1, (hb1.frozen (p := ⟨w.heap.size + 1 + 1, 2, none⟩) (Frame.cell_lt Kr3.out.2.2.1)).trans Kr3.out.2.2.2.2.2.2.2.2.2.1, (hb1.frozen (p := ⟨w.heap.size + 1 + 1, 3, none⟩) (Frame.cell_lt Kr3.out.2.2.2.1)).trans Kr3.out.2.2.2.2.2.2.2.2.2.2.1, (hb1.frozen (p := ⟨w.heap.size + 1 + 1, 4, none⟩) (Frame.cell_lt Kr3.out.2.2.2.2.1)).trans Kr3.out.2.2.2.2.2.2.2.2.2.2.2.1, (hb1.frozen (p := ⟨w.heap.size + 1 + 1, 5, none⟩) (Frame.cell_lt Kr3.out.2.2.2.2.2.1)).trans Kr3.out.2.2.2.2.2.2.2.2.2.2.2.2.1, (hb1.frozen (p := ⟨w.heap.size + 1 + 1, 6, none⟩) (Frame.cell_lt Kr3.out.2.2.2.2.2.2.1)).trans Kr3.out.2.2.2.2.2.2.2.2.2.2.2.2.2⟩
      have B1 : Hid (Below w.heap.size w w1) := Frame.next B0.out hb1 B0.out.size
      clear hb1
      have qb491 := Kb489.out.1
      have qb492 := Kb489.out.2.1
      have qb493 := Kb489.out.2.2.1
      have qb494 := Kb489.out.2.2.2.1
      have qb495 := Kb489.out.2.2.2.2.1
      have qb496 := Kb489.out.2.2.2.2.2.1
      have qb497 := Kb489.out.2.2.2.2.2.2
      go_wp2_with fail
      refine (spec_GoodSum b.r b.k b.t b.lb b.l b.hb b.h _).mono ?_
      rintro e w2 ⟨rfl, hb2⟩
      rw [HB.out]
      clear qb491 qb492 qb493 qb494 qb495 qb496 qb497
      have Ka498 : Hid (w2.cell? ⟨w.heap.size, 0, none⟩ = some (.int .i64 a.r) ∧ w2.cell? ⟨w.heap.size, 1, none⟩ = some (.int .i64 a.k) ∧ w2.cell? ⟨w.heap.size, 2, none⟩ = some (.int .i64 a.t) ∧ w2.cell? ⟨w.heap.size, 3, none⟩ = some (.bool a.lb) ∧ w2.cell? ⟨w.heap.size, 4, none⟩ = some (.int .i64 a.l) ∧ w2.cell? ⟨w.heap.size, 5, none⟩ = some (.bool a.hb) ∧ w2.cell? ⟨w.heap.size, 6, none⟩ = some (.int .i64 a.h)) := ⟨Frame.held_cell hb2 Ka488.out.1, Frame.held_cell hb2 Ka488.out.2.1, Frame.held_cell hb2 Ka488.out.2.2.1, Frame.held_cell hb2 Ka488.out.2.2.2.1, Frame.held_cell hb2 Ka488.out.2.2.2.2.1, Frame.held_cell hb2 Ka488.out.2.2.2.2.2.1, Frame.held_cell hb2 Ka488.out.2.2.2.2.2.2⟩
      have Kb499 : Hid (w2.cell? ⟨w.heap.size + 1, 0, none⟩ = some (.int .i64 b.r) ∧ w2.cell? ⟨w.heap.size + 1, 1, none⟩ = some (.int .i64 b.k) ∧ w2.cell? ⟨w.heap.size + 1, 2, none⟩ = some (.int .i64 b.t) ∧ w2.cell? ⟨w.heap.size + 1, 3, none⟩ = some (.bool b.lb) ∧ w2.cell? ⟨w.heap.size + 1, 4, none⟩ = some (.int .i64 b.l) ∧ w2.cell? ⟨w.heap.size + 1, 5, none⟩ = some (.bool b.hb) ∧ w2.cell? ⟨w.heap.size + 1, 6, none⟩ = some (.int .i64 b.h)) := ⟨Frame.held_cell hb2 Kb489.out.1, Frame.held_cell hb2 Kb489.out.2.1, Frame.held_cell hb2 Kb489.out.2.2.1, Frame.held_cell hb2 Kb489.out.2.2.2.1, Frame.held_cell hb2 Kb489.out.2.2.2.2.1, Frame.held_cell hb2 Kb489.out.2.2.2.2.2.1, Frame.held_cell hb2 Kb489.out.2.2.2.2.2.2⟩
      have Kr500 : Hid (w2.cell? ⟨w.heap.size + 1 + 1, 0, none⟩ = some (.int .i64 0) ∧ w2.cell? ⟨w.heap.size + 1 + 1, 1, none⟩ = some (.int .i64 0) ∧ w2.cell? ⟨w.heap.size + 1 + 1, 2, none⟩ = some (.int .i64 0) ∧ w2.cell? ⟨w.heap.size + 1 + 1, 3, none⟩ = some (.bool false) ∧ w2.cell? ⟨w.heap.size + 1 + 1, 4, none⟩ = some (.int .i64 0) ∧ w2.cell? ⟨w.heap.size + 1 + 1, 5, none⟩ = some (.bool false) ∧ w2.cell? ⟨w.heap.size + 1 + 1, 6, none⟩ = some (.int .i64 0) ∧ w2.frozen? ⟨w.heap.size + 1 + 1, 0, none⟩ = false ∧ w2.frozen? ⟨w.heap.size + 1 + 1, 1, none⟩ = false ∧ w2.frozen? ⟨w.heap.size + 1 + 1, 2, none⟩ = false ∧ w2.frozen? ⟨w.heap.size + 1 + 1, 3, none⟩ = false ∧ w2.frozen? ⟨w.heap.size + 1 + 1, 4, none⟩ = false ∧ w2.frozen? ⟨w.heap.size + 1 + 1, 5, none⟩ = false ∧ w2.frozen? ⟨w.heap.size + 1 + 1, 6, none⟩ = false) := ⟨Frame.held_cell hb2 Kr490.out.1, Frame.held_cell hb2 Kr490.out.2.1, Frame.held_cell hb2 Kr490.out.2.2.1, Frame.held_cell hb2 Kr490.out.2.2.2.1, Frame.held_cell hb2 Kr490.out.2.2.2.2.1, Frame.held_cell hb2 Kr490.out.2.2.2.2.2.1, Frame.held_cell hb2 Kr490.out.2.2.2.2.2.2.1, (hb2.frozen (p := ⟨w.heap.size + 1 + 1, 0, none⟩) (Frame.cell_lt Kr490.out.1)).trans Kr490.out.2.2.2.2.2.2.2.1, (hb2.frozen (p := ⟨w.heap.size + 1 + 1, 1, none⟩) (Frame.cell_lt Kr490.out.2.1)).trans Kr490.out.2.2.2.2.2.2.2.2.1, (hb2.frozen (p := ⟨w.heap.size + 1 + 1, 2, none⟩) (Frame.cell_lt Kr490.out.2.2.1)).trans Kr490.out.2.2.2.2.2.2.2.2.2.1, (hb2.frozen (p := ⟨w.heap.size + 1 + 1, 3, none⟩) (Frame.cell_lt Kr490.out.2.2.2.1)).trans Kr490.out.2.2.2.2.2.2.2.2.2.2.1, (hb2.frozen (p := ⟨w.heap.size + 1 + 1, 4, none⟩) (Frame.cell_lt Kr490.out.2.2.2.2.1)).trans Kr490.out.2.2.2.2.2.2.2.2.2.2.2.1, (hb2.frozen (p := ⟨w.heap.size + 1 + 1, 5, none⟩) (Frame.cell_lt Kr490.out.2.2.2.2.2.1)).trans Kr490.out.2.2.2.2.2.2.2.2.2.2.2.2.1, (hb2.frozen (p := ⟨w.heap.size + 1 + 1, 6, none⟩) (Frame.cell_lt Kr490.out.2.2.2.2.2.2.1)).trans Kr490.out.2.2.2.2.2.2.2.2.2.2.2.2.2⟩
      have B2 : Hid (Below w.heap.size w w2) := Frame.next B1.out hb2 B1.out.size
      clear hb2
      have qa501 := Ka498.out.1
      have qa502 := Ka498.out.2.1
      have qa503 := Ka498.out.2.2.1
      have qa504 := Ka498.out.2.2.2.1
      have qa505 := Ka498.out.2.2.2.2.1
      have qa506 := Ka498.out.2.2.2.2.2.1
      have qa507 := Ka498.out.2.2.2.2.2.2
      have qb508 := Kb499.out.1
      have qb509 := Kb499.out.2.1
      have qb510 := Kb499.out.2.2.1
      have qb511 := Kb499.out.2.2.2.1
      have qb512 := Kb499.out.2.2.2.2.1
      have qb513 := Kb499.out.2.2.2.2.2.1
      have qb514 := Kb499.out.2.2.2.2.2.2
      have l1 : w.heap.size < w2.heap.size := Frame.cell_lt qa501
      have l2 : w.heap.size + 1 < w2.heap.size := Frame.cell_lt qb508
      go_wp2_with fail
      rw [EW.out.1, EW.out.2.1, EW.out.2.2]
      refine (spec_GoodSum _ _ _ _ _ _ _ _).mono ?_
      rintro e w3 ⟨rfl, hb3⟩
      rw [HG.out]
      clear qa501 qa502 qa503 qa504 qa505 qa506 qa507 qb508 qb509 qb510 qb511 qb512 qb513 qb514
      have hz3 := hb3.size
      rw [World.size_alloc] at hz3
      have bw : Below w2.heap.size w2 w3 := Frame.next ((Below.refl _ _).alloc (Nat.le_refl _) _) hb3 (by simp)
      have Ka515 : Hid (w3.cell? ⟨w.heap.size, 0, none⟩ = some (.int .i64 a.r) ∧ w3.cell? ⟨w.heap.size, 1, none⟩ = some (.int .i64 a.k) ∧ w3.cell? ⟨w.heap.size, 2, none⟩ = some (.int .i64 a.t) ∧ w3.cell? ⟨w.heap.size, 3, none⟩ = some (.bool a.lb) ∧ w3.cell? ⟨w.heap.size, 4, none⟩ = some (.int .i64 a.l) ∧ w3.cell? ⟨w.heap.size, 5, none⟩ = some (.bool a.hb) ∧ w3.cell? ⟨w.heap.size, 6, none⟩ = some (.int .i64 a.h)) := ⟨Frame.held_cell bw Ka498.out.1, Frame.held_cell bw Ka498.out.2.1, Frame.held_cell bw Ka498.out.2.2.1, Frame.held_cell bw Ka498.out.2.2.2.1, Frame.held_cell bw Ka498.out.2.2.2.2.1, Frame.held_cell bw Ka498.out.2.2.2.2.2.1, Frame.held_cell bw Ka498.out.2.2.2.2.2.2⟩
      have Kb516 : Hid (w3.cell? ⟨w.heap.size + 1, 0, none⟩ = some (.int .i64 b.r) ∧ w3.cell? ⟨w.heap.size + 1, 1, none⟩ = some (.int .i64 b.k) ∧ w3.cell? ⟨w.heap.size + 1, 2, none⟩ = some (.int .i64 b.t) ∧ w3.cell? ⟨w.heap.size + 1, 3, none⟩ = some (.bool b.lb) ∧ w3.cell? ⟨w.heap.size + 1, 4, none⟩ = some (.int .i64 b.l) ∧ w3.cell? ⟨w.heap.size + 1, 5, none⟩ = some (.bool b.hb) ∧ w3.cell? ⟨w.heap.size + 1, 6, none⟩ = some (.int .i64 b.h)) := ⟨Frame.held_cell bw Kb499.out.1, Frame.held_cell bw Kb499.out.2.1, Frame.held_cell bw Kb499.out.2.2.1, Frame.held_cell bw Kb499.out.2.2.2.1, Frame.held_cell bw Kb499.out.2.2.2.2.1, Frame.held_cell bw Kb499.out.2.2.2.2.2.1, Frame.held_cell bw Kb499.out.2.2.2.2.2.2⟩
      have Kr517 : Hid (w3.cell? ⟨w.heap.size + 1 + 1, 0, none⟩ = some (.int .i64 0) ∧ w3.cell? ⟨w.heap.size + 1 + 1, 1, none⟩ = some (.int .i64 0) ∧ w3.cell? ⟨w.heap.size + 1 + 1, 2, none⟩ = some (.int .i64 0) ∧ w3.cell? ⟨w.heap.size + 1 + 1, 3, none⟩ = some (.bool false) ∧ w3.cell? ⟨w.heap.size + 1 + 1, 4, none⟩ = some (.int .i64 0) ∧ w3.cell? ⟨w.heap.size + 1 + 1, 5, none⟩ = some (.bool false) ∧ w3.cell? ⟨w.heap.size + 1 + 1, 6, none⟩ = some (.int .i64 0) ∧ w3.frozen? ⟨w.heap.size + 1 + 1, 0, none⟩ = false ∧ w3.frozen? ⟨w.heap.size + 1 + 1, 1, none⟩ = false ∧ w3.frozen? ⟨w.heap.size + 1 + 1, 2, none⟩ = false ∧ w3.frozen? ⟨w.heap.size + 1 + 1, 3, none⟩ = false ∧ w3.frozen? ⟨w.heap.size + 1 + 1, 4, none⟩ = false ∧ w3.frozen? ⟨w.heap.size + 1 + 1, 5, none⟩ = false ∧ w3.frozen? ⟨w.heap.size + 1 + 1, 6, none⟩ = false) := ⟨Frame.held_cell bw Kr500.out.1, Frame.held_cell bw Kr500.out.2.1, Frame.held_cell bw Kr500.out.2.2.1, Frame.held_cell bw Kr500.out.2.2.2.1, Frame.held_cell bw Kr500.out.2.2.2.2.1, Frame.held_cell bw Kr500.out.2.2.2.2.2.1, Frame.held_cell bw Kr500.out.2.2.2.2.2.2.1, (bw.frozen (p := ⟨w.heap.size + 1 + 1, 0, none⟩) (Frame.cell_lt Kr500.out.1)).trans Kr500.out.2.2.2.2.2.2.2.1, (bw.frozen (p := ⟨w.heap.size + 1 + 1, 1, none⟩) (Frame.cell_lt Kr500.out.2.1)).trans Kr500.out.2.2.2.2.2.2.2.2.1, (bw.frozen (p := ⟨w.heap.size + 1 + 1, 2, none⟩) (Frame.cell_lt Kr500.out.2.2.1)).trans Kr500.out.2.2.2.2.2.2.2.2.2.1, (bw.frozen (p := ⟨w.heap.size + 1 + 1, 3, none⟩) (Frame.cell_lt Kr500.out.2.2.2.1)).trans Kr500.out.2.2.2.2.2.2.2.2.2.2.1, (bw.frozen (p := ⟨w.heap.size + 1 + 1, 4, none⟩) (Frame.cell_lt Kr500.out.2.2.2.2.1)).trans Kr500.out.2.2.2.2.2.2.2.2.2.2.2.1, (bw.frozen (p := ⟨w.heap.size + 1 + 1, 5, none⟩) (Frame.cell_lt Kr500.out.2.2.2.2.2.1)).trans Kr500.out.2.2.2.2.2.2.2.2.2.2.2.2.1, (bw.frozen (p := ⟨w.heap.size + 1 + 1, 6, none⟩) (Frame.cell_lt Kr500.out.2.2.2.2.2.2.1)).trans Kr500.out.2.2.2.2.2.2.2.2.2.2.2.2.2⟩
      have o0 : w3.cell? ⟨w2.heap.size, 0, none⟩ = some (.int .i64 (a.r + b.r)) := by rw [(Frame.bcell hb3).1 _ _ (by simp)]; go_simp
      have o1 : w3.cell? ⟨w2.heap.size, 1, none⟩ = some (.int .i64 (a.k + b.k)) := by rw [(Frame.bcell hb3).1 _ _ (by simp)]; go_simp
      have o2 : w3.cell? ⟨w2.heap.size, 2, none⟩ = some (.int .i64 (a.t + b.t)) := by rw [(Frame.bcell hb3).1 _ _ (by simp)]; go_simp
      have o3 : w3.cell? ⟨w2.heap.size, 3, none⟩ = some (.bool b.lb) := by rw [(Frame.bcell hb3).1 _ _ (by simp)]; go_simp
      have o4 : w3.cell? ⟨w2.heap.size, 4, none⟩ = some (.int .i64 b.l) := by rw [(Frame.bcell hb3).1 _ _ (by simp)]; go_simp
      have o5 : w3.cell? ⟨w2.heap.size, 5, none⟩ = some (.bool b.hb) := by rw [(Frame.bcell hb3).1 _ _ (by simp)]; go_simp
      have o6 : w3.cell? ⟨w2.heap.size, 6, none⟩ = some (.int .i64 b.h) := by rw [(Frame.bcell hb3).1 _ _ (by simp)]; go_simp
      have B3 : Hid (Below w.heap.size w w3) := Frame.next B2.out bw B2.out.size
      clear hb3 bw
      have qr518 := Kr517.out.1
      have qr519 := Kr517.out.2.1
      have qr520 := Kr517.out.2.2.1
      have qr521 := Kr517.out.2.2.2.1
      have qr522 := Kr517.out.2.2.2.2.1
      have qr523 := Kr517.out.2.2.2.2.2.1
      have qr524 := Kr517.out.2.2.2.2.2.2.1
      have qr525 := Kr517.out.2.2.2.2.2.2.2.1
      have qr526 := Kr517.out.2.2.2.2.2.2.2.2.1
      have qr527 := Kr517.out.2.2.2.2.2.2.2.2.2.1
      have qr528 := Kr517.out.2.2.2.2.2.2.2.2.2.2.1
      have qr529 := Kr517.out.2.2.2.2.2.2.2.2.2.2.2.1
      have qr530 := Kr517.out.2.2.2.2.2.2.2.2.2.2.2.2.1
      have qr531 := Kr517.out.2.2.2.2.2.2.2.2.2.2.2.2.2
      go_wp2
      refine bodyPost_ret (v := .tuple #[.agg #[.int .i64 0, .int .i64 0, .int .i64 0, .bool false, .int .i64 0, .bool false, .int .i64 0], .bool false]) (by simp [results, Tryd.results18, go_sem, qr518, qr519, qr520, qr521, qr522, qr523, qr524]) rfl ?_
      exact ⟨rfl, (((((((B3.out.setCell hr _).setCell hr _).setCell hr _).setCell hr _).setCell hr _).setCell hr _).setCell hr _)⟩
    · have HG : Hid (goodS (a.r + b.r) (a.k + b.k) (a.t + b.t) b.lb b.l b.hb b.h = true) := hG
      have e : fit (⟨a.r + b.r, a.k + b.k, a.t + b.t, b.lb, b.l, b.hb, b.h⟩ : Sm) = (⟨a.r + b.r, a.k + b.k, a.t + b.t, b.lb, b.l, b.hb, b.h⟩ : Sm) := if_pos hG
      have e' : (⟨a.r + b.r, a.k + b.k, a.t + b.t, b.lb, b.l, b.hb, b.h⟩ : Sm).good = true := hG
      rw [e, e']
      clear e e' hG
      go_enter Tryd.func18, Tryd.ntmps18
      go_wp2_with fail
      refine (spec_GoodSum a.r a.k a.t a.lb a.l a.hb a.h _).mono ?_
      rintro e w1 ⟨rfl, hb1⟩
      rw [HA.out]
      have Ka532 : Hid (w1.cell? ⟨w.heap.size, 0, none⟩ = some (.int .i64 a.r) ∧ w1.cell? ⟨w.heap.size, 1, none⟩ = some (.int .i64 a.k) ∧ w1.cell? ⟨w.heap.size, 2, none⟩ = some (.int .i64 a.t) ∧ w1.cell? ⟨w.heap.size, 3, none⟩ = some (.bool a.lb) ∧ w1.cell? ⟨w.heap.size, 4, none⟩ = some (.int .i64 a.l) ∧ w1.cell? ⟨w.heap.size, 5, none⟩ = some (.bool a.hb) ∧ w1.cell? ⟨w.heap.size, 6, none⟩ = some (.int .i64 a.h)) := ⟨Frame.held_cell hb1 Ka1.out.1, Frame.held_cell hb1 Ka1.out.2.1, Frame.held_cell hb1 Ka1.out.2.2.1, Frame.held_cell hb1 Ka1.out.2.2.2.1, Frame.held_cell hb1 Ka1.out.2.2.2.2.1, Frame.held_cell hb1 Ka1.out.2.2.2.2.2.1, Frame.held_cell hb1 Ka1.out.2.2.2.2.2.2⟩
      have Kb533 : Hid (w1.cell? ⟨w.heap.size + 1, 0, none⟩ = some (.int .i64 b.r) ∧ w1.cell? ⟨w.heap.size + 1, 1, none⟩ = some (.int .i64 b.k) ∧ w1.cell? ⟨w.heap.size + 1, 2, none⟩ = some (.int .i64 b.t) ∧ w1.cell? ⟨w.heap.size + 1, 3, none⟩ = some (.bool b.lb) ∧ w1.cell? ⟨w.heap.size + 1, 4, none⟩ = some (.int .i64 b.l) ∧ w1.cell? ⟨w.heap.size + 1, 5, none⟩ = some (.bool b.hb) ∧ w1.cell? ⟨w.heap.size + 1, 6, none⟩ = some (.int .i64 b.h)) := ⟨Frame.held_cell hb1 Kb2.out.1, Frame.held_cell hb1 Kb2.out.2.1, Frame.held_cell hb1 Kb2.out.2.2.1, Frame.held_cell hb1 Kb2.out.2.2.2.1, Frame.held_cell hb1 Kb2.out.2.2.2.2.1, Frame.held_cell hb1 Kb2.out.2.2.2.2.2.1, Frame.held_cell hb1 Kb2.out.2.2.2.2.2.2⟩
      have Kr534 : Hid (w1.cell? ⟨w.heap.size + 1 + 1, 0, none⟩ = some (.int .i64 0) ∧ w1.cell? ⟨w.heap.size + 1 + 1, 1, none⟩ = some (.int .i64 0) ∧ w1.cell? ⟨w.heap.size + 1 + 1, 2, none⟩ = some (.int .i64 0) ∧ w1.cell? ⟨w.heap.size + 1 + 1, 3, none⟩ = some (.bool false) ∧ w1.cell? ⟨w.heap.size + 1 + 1, 4, none⟩ = some (.int .i64 0) ∧ w1.cell? ⟨w.heap.size + 1 + 1, 5, none⟩ = some (.bool false) ∧ w1.cell? ⟨w.heap.size + 1 + 1, 6, none⟩ = some (.int .i64 0) ∧ w1.frozen? ⟨w.heap.size + 1 + 1, 0, none⟩ = false ∧ w1.frozen? ⟨w.heap.size + 1 + 1, 1, none⟩ = false ∧ w1.frozen? ⟨w.heap.size + 1 + 1, 2, none⟩ = false ∧ w1.frozen? ⟨w.heap.size + 1 + 1, 3, none⟩ = false ∧ w1.frozen? ⟨w.heap.size + 1 + 1, 4, none⟩ = false ∧ w1.frozen? ⟨w.heap.size + 1 + 1, 5, none⟩ = false ∧ w1.frozen? ⟨w.heap.size + 1 + 1, 6, none⟩ = false) := ⟨Frame.held_cell hb1 Kr3.out.1, Frame.held_cell hb1 Kr3.out.2.1, Frame.held_cell hb1 Kr3.out.2.2.1, Frame.held_cell hb1 Kr3.out.2.2.2.1, Frame.held_cell hb1 Kr3.out.2.2.2.2.1, Frame.held_cell hb1 Kr3.out.2.2.2.2.2.1, Frame.held_cell hb1 Kr3.out.2.2.2.2.2.2.1, (hb1.frozen (p := ⟨w.heap.size + 1 + 1, 0, none⟩) (Frame.cell_lt Kr3.out.1)).trans Kr3.out.2.2.2.2.2.2.2.1, (hb1.frozen (p := ⟨w.heap.size + 1 + 1, 1, none⟩) (Frame.cell_lt Kr3.out.2.1)).trans Kr3.out.2.2.2.2.2.2.2.2.1, (hb1.frozen (p := ⟨w.heap.size + 1 + 1, 2, none⟩) (Frame.cell_lt Kr3.out.2.2.1)).trans Kr3.out.2.2.2.2.2.2.2.2.2.1, (hb1.frozen (p := ⟨w.heap.size + 1 + 1, 3, none⟩) (Frame.cell_lt Kr3.out.2.2.2.1)).trans Kr3.out.2.2.2.2.2.2.2.2.2.2.1, (hb1.frozen (p := ⟨w.heap.size + 1 + 1, 4, none⟩) (Frame.cell_lt Kr3.out.2.2.2.2.1)).trans Kr3.out.2.2.2.2.2.2.2.2.2.2.2.1, (hb1.frozen (p := ⟨w.heap.size + 1 + 1, 5, none⟩) (Frame.cell_lt Kr3.out.2.2.2.2.2.1)).trans Kr3.out.2.2.2.2.2.2.2.2.2.2.2.2.1, (hb1.frozen (p := ⟨w.heap.size + 1 + 1, 6, none⟩) (Frame.cell_lt Kr3.out.2.2.2.2.2.2.1)).trans Kr3.out.2.2.2.2.2.2.2.2.2.2.2.2.2⟩
      have B1 : Hid (Below w.heap.size w w1) := Frame.next B0.out hb1 B0.out.size
      clear hb1
      have qb535 := Kb533.out.1
      have qb536 := Kb533.out.2.1
      have qb537 := Kb533.out.2.2.1
      have qb538 := Kb533.out.2.2.2.1
      have qb539 := Kb533.out.2.2.2.2.1
      have qb540 := Kb533.out.2.2.2.2.2.1
      have qb541 := Kb533.out.2.2.2.2.2.2
      go_wp2_with fail
      refine (spec_GoodSum b.r b.k b.t b.lb b.l b.hb b.h _).mono ?_
      rintro e w2 ⟨rfl, hb2⟩
      rw [HB.out]
      clear qb535 qb536 qb537 qb538 qb539 qb540 qb541
      have Ka542 : Hid (w2.cell? ⟨w.heap.size, 0, none⟩ = some (.int .i64 a.r) ∧ w2.cell? ⟨w.heap.size, 1, none⟩ = some (.int .i64 a.k) ∧ w2.cell? ⟨w.heap.size, 2, none⟩ = some (.int .i64 a.t) ∧ w2.cell? ⟨w.heap.size, 3, none⟩ = some (.bool a.lb) ∧ w2.cell? ⟨w.heap.size, 4, none⟩ = some (.int .i64 a.l) ∧ w2.cell? ⟨w.heap.size, 5, none⟩ = some (.bool a.hb) ∧ w2.cell? ⟨w.heap.size, 6, none⟩ = some (.int .i64 a.h)) := ⟨Frame.held_cell hb2 Ka532.out.1, Frame.held_cell hb2 Ka532.out.2.1, Frame.held_cell hb2 Ka532.out.2.2.1, Frame.held_cell hb2 Ka532.out.2.2.2.1, Frame.held_cell hb2 Ka532.out.2.2.2.2.1, Frame.held_cell hb2 Ka532.out.2.2.2.2.2.1, Frame.held_cell hb2 Ka532.out.2.2.2.2.2.2⟩
      have Kb543 : Hid (w2.cell? ⟨w.heap.size + 1, 0, none⟩ = some (.int .i64 b.r) ∧ w2.cell? ⟨w.heap.size + 1, 1, none⟩ = some (.int .i64 b.k) ∧ w2.cell? ⟨w.heap.size + 1, 2, none⟩ = some (.int .i64 b.t) ∧ w2.cell? ⟨w.heap.size + 1, 3, none⟩ = some (.bool b.lb) ∧ w2.cell? ⟨w.heap.size + 1, 4, none⟩ = some (.int .i64 b.l) ∧ w2.cell? ⟨w.heap.size + 1, 5, none⟩ = some (.bool b.hb) ∧ w2.cell? ⟨w.heap.size + 1, 6, none⟩ = some (.int .i64 b.h)) := ⟨Frame.held_cell hb2 Kb533.out.1, Frame.held_cell hb2 Kb533.out.2.1, Frame.held_cell hb2 Kb533.out.2.2.1, Frame.held_cell hb2 Kb533.out.2.2.2.1, Frame.held_cell hb2 Kb533.out.2.2.2.2.1, Frame.held_cell hb2 Kb533.out.2.2.2.2.2.1, Frame.held_cell hb2 Kb533.out.2.2.2.2.2.2⟩
      have Kr544 : Hid (w2.cell? ⟨w.heap.size + 1 + 1, 0, none⟩ = some (.int .i64 0) ∧ w2.cell? ⟨w.heap.size + 1 + 1, 1, none⟩ = some (.int .i64 0) ∧ w2.cell? ⟨w.heap.size + 1 + 1, 2, none⟩ = some (.int .i64 0) ∧ w2.cell? ⟨w.heap.size + 1 + 1, 3, none⟩ = some (.bool false) ∧ w2.cell? ⟨w.heap.size + 1 + 1, 4, none⟩ = some (.int .i64 0) ∧ w2.cell? ⟨w.heap.size + 1 + 1, 5, none⟩ = some (.bool false) ∧ w2.cell? ⟨w.heap.size + 1 + 1, 6, none⟩ = some (.int .i64 0) ∧ w2.frozen? ⟨w.heap.size + 1 + 1, 0, none⟩ = false ∧ w2.frozen? ⟨w.heap.size + 1 + 1, 1, none⟩ = false ∧ w2.frozen? ⟨w.heap.size + 1 + 1, 2, none⟩ = false ∧ w2.frozen? ⟨w.heap.size + 1 + 1, 3, none⟩ = false ∧ w2.frozen? ⟨w.heap.size + 1 + 1, 4, none⟩ = false ∧ w2.frozen? ⟨w.heap.size + 1 + 1, 5, none⟩ = false ∧ w2.frozen? ⟨w.heap.size + 1 + 1, 6, none⟩ = false) := ⟨Frame.held_cell hb2 Kr534.out.1, Frame.held_cell hb2 Kr534.out.2.1, Frame.held_cell hb2 Kr534.out.2.2.1, Frame.held_cell hb2 Kr534.out.2.2.2.1, Frame.held_cell hb2 Kr534.out.2.2.2.2.1, Frame.held_cell hb2 Kr534.out.2.2.2.2.2.1, Frame.held_cell hb2 Kr534.out.2.2.2.2.2.2.1, (hb2.frozen (p := ⟨w.heap.size + 1 + 1, 0, none⟩) (Frame.cell_lt Kr534.out.1)).trans Kr534.out.2.2.2.2.2.2.2.1, (hb2.frozen (p := ⟨w.heap.size + 1 + 1, 1, none⟩) (Frame.cell_lt Kr534.out.2.1)).trans Kr534.out.2.2.2.2.2.2.2.2.1, (hb2.frozen (p := ⟨w.heap.size + 1 + 1, 2, none⟩) (Frame.cell_lt Kr534.out.2.2.1)).trans Kr534.out.2.2.2.2.2.2.2.2.2.1, (hb2.frozen (p := ⟨w.heap.size + 1 + 1, 3, none⟩) (Frame.cell_lt Kr534.out.2.2.2.1)).trans Kr534.out.2.2.2.2.2.2.2.2.2.2.1, (hb2.frozen (p := ⟨w.heap.size + 1 + 1, 4, none⟩) (Frame.cell_lt Kr534.out.2.2.2.2.1)).trans Kr534.out.2.2.2.2.2.2.2.2.2.2.2.1, (hb2.frozen (p := ⟨w.heap.size + 1 + 1, 5, none⟩) (Frame.cell_lt Kr534.out.2.2.2.2.2.1)).trans Kr534.out.2.2.2.2.2.2.2.2.2.2.2.2.1, (hb2.frozen (p := ⟨w.heap.size + 1 + 1, 6, none⟩) (Frame.cell_lt Kr534.out.2.2.2.2.2.2.1)).trans Kr534.out.2.2.2.2.2.2.2.2.2.2.2.2.2⟩
      have B2 : Hid (Below w.heap.size w w2) := Frame.next B1.out hb2 B1.out.size
      clear hb2
      have qa545 := Ka542.out.1
      have qa546 := Ka542.out.2.1
      have qa547 := Ka542.out.2.2.1
      have qa548 := Ka542.out.2.2.2.1
      have qa549 := Ka542.out.2.2.2.2.1
      have qa550 := Ka542.out.2.2.2.2.2.1
      have qa551 := Ka542.out.2.2.2.2.2.2
      have qb552 := Kb543.out.1
      have qb553 := Kb543.out.2.1
      have qb554 := Kb543.out.2.2.1
      have qb555 := Kb543.out.2.2.2.1
      have qb556 := Kb543.out.2.2.2.2.1
      have qb557 := Kb543.out.2.2.2.2.2.1
      have qb558 := Kb543.out.2.2.2.2.2.2
      have l1 : w.heap.size < w2.heap.size := Frame.cell_lt qa545
      have l2 : w.heap.size + 1 < w2.heap.size := Frame.cell_lt qb552
      go_wp2_with fail
      rw [EW.out.1, EW.out.2.1, EW.out.2.2]
      refine (spec_GoodSum _ _ _ _ _ _ _ _).mono ?_
      rintro e w3 ⟨rfl, hb3⟩
      rw [HG.out]
      clear qa545 qa546 qa547 qa548 qa549 qa550 qa551 qb552 qb553 qb554 qb555 qb556 qb557 qb558
      have hz3 := hb3.size
      rw [World.size_alloc] at hz3
      have bw : Below w2.heap.size w2 w3 := Frame.next ((Below.refl _ _).alloc (Nat.le_refl _) _) hb3 (by simp)
      have Ka559 : Hid (w3.cell? ⟨w.heap.size, 0, none⟩ = some (.int .i64 a.r) ∧ w3.cell? ⟨w.heap.size, 1, none⟩ = some (.int .i64 a.k) ∧ w3.cell? ⟨w.heap.size, 2, none⟩ = some (.int .i64 a.t) ∧ w3.cell? ⟨w.heap.size, 3, none⟩ = some (.bool a.lb) ∧ w3.cell? ⟨w.heap.size, 4, none⟩ = some (.int .i64 a.l) ∧ w3.cell? ⟨w.heap.size, 5, none⟩ = some (.bool a.hb) ∧ w3.cell? ⟨w.heap.size, 6, none⟩ = some (.int .i64 a.h)) := ⟨Frame.held_cell bw Ka542.out.1, Frame.held_cell bw Ka542.out.2.1, Frame.held_cell bw Ka542.out.2.2.1, Frame.held_cell bw Ka542.out.2.2.2.1, Frame.held_cell bw Ka542.out.2.2.2.2.1, Frame.held_cell bw Ka542.out.2.2.2.2.2.1, Frame.held_cell bw Ka542.out.2.2.2.2.2.2⟩
      have Kb560 : Hid (w3.cell? ⟨w.heap.size + 1, 0, none⟩ = some (.int .i64 b.r) ∧ w3.cell? ⟨w.heap.size + 1, 1, none⟩ = some (.int .i64 b.k) ∧ w3.cell? ⟨w.heap.size + 1, 2, none⟩ = some (.int .i64 b.t) ∧ w3.cell? ⟨w.heap.size + 1, 3, none⟩ = some (.bool b.lb) ∧ w3.cell? ⟨w.heap.size + 1, 4, none⟩ = some (.int .i64 b.l) ∧ w3.cell? ⟨w.heap.size + 1, 5, none⟩ = some (.bool b.hb) ∧ w3.cell? ⟨w.heap.size + 1, 6, none⟩ = some (.int .i64 b.h)) := ⟨Frame.held_cell bw Kb543.out.1, Frame.held_cell bw Kb543.out.2.1, Frame.held_cell bw Kb543.out.2.2.1, Frame.held_cell bw Kb543.out.2.2.2.1, Frame.held_cell bw Kb543.out.2.2.2.2.1, Frame.held_cell bw Kb543.out.2.2.2.2.2.1, Frame.held_cell bw Kb543.out.2.2.2.2.2.2⟩
      have Kr561 : Hid (w3.cell? ⟨w.heap.size + 1 + 1, 0, none⟩ = some (.int .i64 0) ∧ w3.cell? ⟨w.heap.size + 1 + 1, 1, none⟩ = some (.int .i64 0) ∧ w3.cell? ⟨w.heap.size + 1 + 1, 2, none⟩ = some (.int .i64 0) ∧ w3.cell? ⟨w.heap.size + 1 + 1, 3, none⟩ = some (.bool false) ∧ w3.cell? ⟨w.heap.size + 1 + 1, 4, none⟩ = some (.int .i64 0) ∧ w3.cell? ⟨w.heap.size + 1 + 1, 5, none⟩ = some (.bool false) ∧ w3.cell? ⟨w.heap.size + 1 + 1, 6, none⟩ = some (.int .i64 0) ∧ w3.frozen? ⟨w.heap.size + 1 + 1, 0, none⟩ = false ∧ w3.frozen? ⟨w.heap.size + 1 + 1, 1, none⟩ = false ∧ w3.frozen? ⟨w.heap.size + 1 + 1, 2, none⟩ = false ∧ w3.frozen? ⟨w.heap.size + 1 + 1, 3, none⟩ = false ∧ w3.frozen? ⟨w.heap.size + 1 + 1, 4, none⟩ = false ∧ w3.frozen? ⟨w.heap.size + 1 + 1, 5, none⟩ = false ∧ w3.frozen? ⟨w.heap.size + 1 + 1, 6, none⟩ = false) := ⟨Frame.held_cell bw Kr544.out.1, Frame.held_cell bw Kr544.out.2.1, Frame.held_cell bw Kr544.out.2.2.1, Frame.held_cell bw Kr544.out.2.2.2.1, Frame.held_cell bw Kr544.out.2.2.2.2.1, Frame.held_cell bw Kr544.out.2.2.2.2.2.1, Frame.held_cell bw Kr544.out.2.2.2.2.2.2.1, (bw.frozen (p := ⟨w.heap.size + 1 + 1, 0, none⟩) (Frame.cell_lt Kr544.out.1)).trans Kr544.out.2.2.2.2.2.2.2.1, (bw.frozen (p := ⟨w.heap.size + 1 + 1, 1, none⟩) (Frame.cell_lt Kr544.out.2.1)).trans Kr544.out.2.2.2.2.2.2.2.2.1, (bw.frozen (p := ⟨w.heap.size + 1 + 1, 2, none⟩) (Frame.cell_lt Kr544.out.2.2.1)).trans Kr544.out.2.2.2.2.2.2.2.2.2.1, (bw.frozen (p := ⟨w.heap.size + 1 + 1, 3, none⟩) (Frame.cell_lt Kr544.out.2.2.2.1)).trans Kr544.out.2.2.2.2.2.2.2.2.2.2.1, (bw.frozen (p := ⟨w.heap.size + 1 + 1, 4, none⟩) (Frame.cell_lt Kr544.out.2.2.2.2.1)).trans Kr544.out.2.2.2.2.2.2.2.2.2.2.2.1, (bw.frozen (p := ⟨w.heap.size + 1 + 1, 5, none⟩) (Frame.cell_lt Kr544.out.2.2.2.2.2.1)).trans Kr544.out.2.2.2.2.2.2.2.2.2.2.2.2.1, (bw.frozen (p := ⟨w.heap.size + 1 + 1, 6, none⟩) (Frame.cell_lt Kr544.out.2.2.2.2.2.2.1)).trans Kr544.out.2.2.2.2.2.2.2.2.2.2.2.2.2⟩
      have o0 : w3.cell? ⟨w2.heap.size, 0, none⟩ = some (.int .i64 (a.r + b.r)) := by rw [(Frame.bcell hb3).1 _ _ (by simp)]; go_simp
      have o1 : w3.cell? ⟨w2.heap.size, 1, none⟩ = some (.int .i64 (a.k + b.k)) := by rw [(Frame.bcell hb3).1 _ _ (by simp)]; go_simp
      have o2 : w3.cell? ⟨w2.heap.size, 2, none⟩ = some (.int .i64 (a.t + b.t)) := by rw [(Frame.bcell hb3).1 _ _ (by simp)]; go_simp
      have o3 : w3.cell? ⟨w2.heap.size, 3, none⟩ = some (.bool b.lb) := by rw [(Frame.bcell hb3).1 _ _ (by simp)]; go_simp
      have o4 : w3.cell? ⟨w2.heap.size, 4, none⟩ = some (.int .i64 b.l) := by rw [(Frame.bcell hb3).1 _ _ (by simp)]; go_simp
      have o5 : w3.cell? ⟨w2.heap.size, 5, none⟩ = some (.bool b.hb) := by rw [(Frame.bcell hb3).1 _ _ (by simp)]; go_simp
      have o6 : w3.cell? ⟨w2.heap.size, 6, none⟩ = some (.int .i64 b.h) := by rw [(Frame.bcell hb3).1 _ _ (by simp)]; go_simp
      have B3 : Hid (Below w.heap.size w w3) := Frame.next B2.out bw B2.out.size
      clear hb3 bw
      have qr562 := Kr561.out.1
      have qr563 := Kr561.out.2.1
      have qr564 := Kr561.out.2.2.1
      have qr565 := Kr561.out.2.2.2.1
      have qr566 := Kr561.out.2.2.2.2.1
      have qr567 := Kr561.out.2.2.2.2.2.1
      have qr568 := Kr561.out.2.2.2.2.2.2.1
      have qr569 := Kr561.out.2.2.2.2.2.2.2.1
      have qr570 := Kr561.out.2.2.2.2.2.2.2.2.1
      have qr571 := Kr561.out.2.2.2.2.2.2.2.2.2.1
      have qr572 := Kr561.out.2.2.2.2.2.2.2.2.2.2.1
      have qr573 := Kr561.out.2.2.2.2.2.2.2.2.2.2.2.1
      have qr574 := Kr561.out.2.2.2.2.2.2.2.2.2.2.2.2.1
      have qr575 := Kr561.out.2.2.2.2.2.2.2.2.2.2.2.2.2
      go_wp2
      refine bodyPost_ret (v := .tuple #[.agg #[.int .i64 (a.r + b.r), .int .i64 (a.k + b.k), .int .i64 (a.t + b.t), .bool b.lb, .int .i64 b.l, .bool b.hb, .int .i64 b.h], .bool true]) (by simp [results, Tryd.results18, go_sem, qr562, qr563, qr564, qr565, qr566, qr567, qr568]) rfl ?_
      exact ⟨rfl, (((((((B3.out.setCell hr _).setCell hr _).setCell hr _).setCell hr _).setCell hr _).setCell hr _).setCell hr _)⟩


end Go.Proofs.YtdlcjcobfckncaaDoor.Sgd
