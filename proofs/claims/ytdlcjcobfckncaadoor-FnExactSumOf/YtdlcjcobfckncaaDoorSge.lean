/-
  Sums in boxes: what stands while a drawn statement makes one; eqSum.
-/
import Derived.Test.YtdlcjcobfckncaaDoorSgd
import Derived.Test.YtdlcjcobfckncaaDoorVals
namespace Go.Proofs.YtdlcjcobfckncaaDoor.Sge
open Go.RowKit
open Go.Proofs.YtdlcjcobfckncaaDoor.Frame Go.Proofs.YtdlcjcobfckncaaDoor.Mem Go.Proofs.YtdlcjcobfckncaaDoor.Val Go.Proofs.YtdlcjcobfckncaaDoor.Sma Go.Proofs.YtdlcjcobfckncaaDoor.Sgb Go.Proofs.YtdlcjcobfckncaaDoor.Sgd

/-- A sum lies at b. -/
def At (W : World) (b : Nat) (s : Sm) : Prop := W.cell? ⟨b, 0, none⟩ = some (.int .i64 s.r) ∧ W.cell? ⟨b, 1, none⟩ = some (.int .i64 s.k) ∧ W.cell? ⟨b, 2, none⟩ = some (.int .i64 s.t) ∧ W.cell? ⟨b, 3, none⟩ = some (.bool s.lb) ∧ W.cell? ⟨b, 4, none⟩ = some (.int .i64 s.l) ∧ W.cell? ⟨b, 5, none⟩ = some (.bool s.hb) ∧ W.cell? ⟨b, 6, none⟩ = some (.int .i64 s.h)
theorem At.call {W W' : World} {b : Nat} {s : Sm} (h : At W b s) (hb : Below W.heap.size W W') : At W' b s := by
  obtain ⟨c0, c1, c2, c3, c4, c5, c6⟩ := h
  exact ⟨Frame.held_cell hb c0, Frame.held_cell hb c1, Frame.held_cell hb c2, Frame.held_cell hb c3, Frame.held_cell hb c4, Frame.held_cell hb c5, Frame.held_cell hb c6⟩
theorem At.lt {W : World} {b : Nat} {s : Sm} (h : At W b s) : b < W.heap.size := Frame.cell_lt h.1
theorem At.new (W : World) (s : Sm) (T : TypeId) : At (W.alloc (.cells #[.int .i64 s.r, .int .i64 s.k, .int .i64 s.t, .bool s.lb, .int .i64 s.l, .bool s.hb, .int .i64 s.h] T)) W.heap.size s := by
  refine ⟨?_, ?_, ?_, ?_, ?_, ?_, ?_⟩ <;> go_simp
/-- What stands behind D: two sums in boxes. -/
structure Inv2 (D : World) (p : Nat) (a b : Sm) (W : World) : Prop where
  one : At W p a
  two : At W (p + 1) b
  below : Below D.heap.size D W
section
variable {D : World} {p : Nat} {a b : Sm} {W : World}
theorem Inv2.call {W' : World} (h : Inv2 D p a b W) (hb : Below W.heap.size W W') : Inv2 D p a b W' := ⟨h.one.call hb, h.two.call hb, Frame.next h.below hb h.below.size⟩
theorem Inv2.drawn (h : Inv2 D p a b W) : Inv2 D p a b W.drew := h.call ((Below.refl _ _).drew)
theorem Inv2.made (o : Obj) (h : Inv2 D p a b W) : Inv2 D p a b (W.alloc o) := h.call ((Below.refl _ _).alloc (Nat.le_refl _) o)
theorem Inv2.set (c i : Nat) (v : Value) (hc : D.heap.size ≤ c) (hp : p + 1 < D.heap.size) (h : Inv2 D p a b W) : Inv2 D p a b (W.setCell ⟨c, i, none⟩ v) := by
  obtain ⟨⟨c0, c1, c2, c3, c4, c5, c6⟩, ⟨d0, d1, d2, d3, d4, d5, d6⟩, hD⟩ := h
  have n1 : p ≠ c := by omega
  have n2 : p + 1 ≠ c := by omega
  exact ⟨⟨far n1 c0, far n1 c1, far n1 c2, far n1 c3, far n1 c4, far n1 c5, far n1 c6⟩, ⟨far n2 d0, far n2 d1, far n2 d2, far n2 d3, far n2 d4, far n2 d5, far n2 d6⟩, hD.setCell hc _⟩
end
/-- A box for a sum that holds none yet. -/
structure Box7 (W : World) (b : Nat) : Prop where
  c : At W b zeroS
  f : ∀ i, W.frozen? ⟨b, i, none⟩ = false
theorem Box7.new (Y : World) : Box7 (Y.alloc (.cells #[.int .i64 0, .int .i64 0, .int .i64 0, .bool false, .int .i64 0, .bool false, .int .i64 0] 28)) Y.heap.size := by
  refine ⟨At.new Y zeroS _, fun i => ?_⟩
  go_simp
theorem Box7.call {X W : World} {b : Nat} (h : Box7 X b) (hb : Below X.heap.size X W) : Box7 W b := ⟨h.c.call hb, fun i => (hb.frozen (p := ⟨b, i, none⟩) h.c.lt).trans (h.f i)⟩
theorem Box7.drew {X : World} {b : Nat} (h : Box7 X b) : Box7 X.drew b := h.call ((Below.refl _ _).drew)
/-- The sum lies in its box behind the statement. -/
def Mk7 (D : World) (s : Sm) (W : World) (b : Nat) : Prop := Below D.heap.size D W ∧ At W b s
theorem mkA {D W : World} {s : Sm} (T : TypeId) (h : Below D.heap.size D W) : Mk7 D s (W.alloc (.cells #[.int .i64 s.r, .int .i64 s.k, .int .i64 s.t, .bool s.lb, .int .i64 s.l, .bool s.hb, .int .i64 s.h] T)) W.heap.size := ⟨h.alloc h.size _, At.new W s T⟩
theorem same {V : World} {r i : Nat} {v u : Value} (h : V.cell? ⟨r, i, none⟩ = some u) : (V.setCell ⟨r, i, none⟩ v).cell? ⟨r, i, none⟩ = some v := World.cell?_setCell_same _ _ _ h
theorem aside {V : World} {r i j : Nat} {v u : Value} (hij : j ≠ i) (h : V.cell? ⟨r, i, none⟩ = some u) : (V.setCell ⟨r, j, none⟩ v).cell? ⟨r, i, none⟩ = some u := by
  rw [World.cell?_setCell_other _ _ _ _ (by intro e; cases e; exact hij rfl)]
  exact h
theorem mkB {D W : World} {s : Sm} {b : Nat} (h : Below D.heap.size D W) (hb : At W b zeroS) (hd : D.heap.size ≤ b) : Mk7 D s (((((((W.setCell ⟨b, 0, none⟩ (.int .i64 s.r)).setCell ⟨b, 1, none⟩ (.int .i64 s.k)).setCell ⟨b, 2, none⟩ (.int .i64 s.t)).setCell ⟨b, 3, none⟩ (.bool s.lb)).setCell ⟨b, 4, none⟩ (.int .i64 s.l)).setCell ⟨b, 5, none⟩ (.bool s.hb)).setCell ⟨b, 6, none⟩ (.int .i64 s.h)) b := by
  obtain ⟨c0, c1, c2, c3, c4, c5, c6⟩ := hb
  refine ⟨((((((h.setCell hd _).setCell hd _).setCell hd _).setCell hd _).setCell hd _).setCell hd _).setCell hd _, ?_, ?_, ?_, ?_, ?_, ?_, ?_⟩
  · exact (aside (by decide) (aside (by decide) (aside (by decide) (aside (by decide) (aside (by decide) (aside (by decide) (same c0)))))))
  · exact (aside (by decide) (aside (by decide) (aside (by decide) (aside (by decide) (aside (by decide) (same (aside (by decide) c1)))))))
  · exact (aside (by decide) (aside (by decide) (aside (by decide) (aside (by decide) (same (aside (by decide) (aside (by decide) c2)))))))
  · exact (aside (by decide) (aside (by decide) (aside (by decide) (same (aside (by decide) (aside (by decide) (aside (by decide) c3)))))))
  · exact (aside (by decide) (aside (by decide) (same (aside (by decide) (aside (by decide) (aside (by decide) (aside (by decide) c4)))))))
  · exact (aside (by decide) (same (aside (by decide) (aside (by decide) (aside (by decide) (aside (by decide) (aside (by decide) c5)))))))
  · exact (same (aside (by decide) (aside (by decide) (aside (by decide) (aside (by decide) (aside (by decide) (aside (by decide) c6)))))))

set_option maxRecDepth 4000 in
theorem eqSum (s : Sm) (w : World) : Calls Tryd.prog 42 #[.agg #[.int .i64 s.r, .int .i64 s.k, .int .i64 s.t, .bool s.lb, .int .i64 s.l, .bool s.hb, .int .i64 s.h], .agg #[.int .i64 s.r, .int .i64 s.k, .int .i64 s.t, .bool s.lb, .int .i64 s.l, .bool s.hb, .int .i64 s.h]] w fun e w' => e = .returned (.bool true) ∧ Below w.heap.size w w' := by
  have B0 : Hid (Below w.heap.size w ((w.alloc (.cells #[.int .i64 s.r, .int .i64 s.k, .int .i64 s.t, .bool s.lb, .int .i64 s.l, .bool s.hb, .int .i64 s.h] 28)).alloc (.cells #[.int .i64 s.r, .int .i64 s.k, .int .i64 s.t, .bool s.lb, .int .i64 s.l, .bool s.hb, .int .i64 s.h] 28))) := ((Below.refl _ _).alloc (Nat.le_refl _) _).alloc (by simp) _
  have A1 : Hid (At ((w.alloc (.cells #[.int .i64 s.r, .int .i64 s.k, .int .i64 s.t, .bool s.lb, .int .i64 s.l, .bool s.hb, .int .i64 s.h] 28)).alloc (.cells #[.int .i64 s.r, .int .i64 s.k, .int .i64 s.t, .bool s.lb, .int .i64 s.l, .bool s.hb, .int .i64 s.h] 28)) w.heap.size s) := (At.new w s _).call ((Below.refl _ _).alloc (Nat.le_refl _) _)
  have A2 : Hid (At ((w.alloc (.cells #[.int .i64 s.r, .int .i64 s.k, .int .i64 s.t, .bool s.lb, .int .i64 s.l, .bool s.hb, .int .i64 s.h] 28)).alloc (.cells #[.int .i64 s.r, .int .i64 s.k, .int .i64 s.t, .bool s.lb, .int .i64 s.l, .bool s.hb, .int .i64 s.h] 28)) (w.heap.size + 1) s) := by
    have h := At.new (w.alloc (.cells #[.int .i64 s.r, .int .i64 s.k, .int .i64 s.t, .bool s.lb, .int .i64 s.l, .bool s.hb, .int .i64 s.h] 28)) s 28
    rwa [World.size_alloc] at h
  go_enter Tryd.func42, Tryd.ntmps42
  go_wp2_with fail
  refine (Vals.eqValue _ _ _ _ _).mono ?_
  rintro e w1 ⟨rfl, hb1⟩
  rw [show Vals.eqV (s.lb, s.l) (s.lb, s.l) = true from decide_eq_true rfl]
  have B1 : Hid (Below w.heap.size w w1) := Frame.next B0.out hb1 B0.out.size
  obtain ⟨_, _, _, _, _, p5, p6⟩ := A1.out.call hb1
  obtain ⟨_, _, _, _, _, q5, q6⟩ := A2.out.call hb1
  clear hb1
  go_wp2_with fail
  refine (Vals.eqValue _ _ _ _ _).mono ?_
  rintro e w2 ⟨rfl, hb2⟩
  rw [show Vals.eqV (s.hb, s.h) (s.hb, s.h) = true from decide_eq_true rfl]
  have B2 : Hid (Below w.heap.size w w2) := Frame.next B1.out hb2 B1.out.size
  clear hb2 p5 p6 q5 q6
  go_wp2_with fail
  go_ret
  exact ⟨rfl, B2.out⟩


end Go.Proofs.YtdlcjcobfckncaaDoor.Sge
