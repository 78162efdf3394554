/-
  The kind v: lists of values.
-/
import Derived.Test.YtdlcjcobfckncaaDoorKep
import Derived.Test.YtdlcjcobfckncaaDoorRws
namespace Go.Proofs.YtdlcjcobfckncaaDoor.Knv
open Go.RowKit
open Go.Proofs.YtdlcjcobfckncaaDoor.Frame Go.Proofs.YtdlcjcobfckncaaDoor.Mem Go.Proofs.YtdlcjcobfckncaaDoor.Kep Go.Proofs.YtdlcjcobfckncaaDoor.Vals

theorem v_sz (a : Option Addr) (n cap : Nat) (m : Int) (w : World) (hn : n ≤ maxLen) (h0 : 0 ≤ m) (h1 : m ≤ 1048576) :
    Calls Tryd.prog 40 #[.slice a n cap, .int .i64 m] w fun e w' => e = .returned (.int .i64 (Rws.left m n)) ∧ Below w.heap.size w w' := by
  refine (Rws.szValueS a n cap m w hn h0 h1).mono ?_
  rintro e w' ⟨rfl, rfl⟩
  exact ⟨rfl, Below.refl _ _⟩

def VIs (w : World) (v : Value) (zs : List (Bool × Int)) : Prop := ∃ a n cap, v = .slice a n cap ∧ IsVals w a n cap zs ∧ n ≤ 1048576
def VOwn (w : World) (lo hi : Nat) (v : Value) (zs : List (Bool × Int)) : Prop := ∃ a n cap, v = .slice a n cap ∧ w.ownsRow lo 26 2 (.slice a n cap) n (vcells zs) ∧ (∀ z ∈ zs, (Lit.int .i64 z.2).wf = true) ∧ n ≤ 1048576 ∧ ∀ x, a = some x → lo ≤ x.block ∧ x.block < hi
def VMarked (w : World) (lo hi : Nat) (v : Value) (k nx : Int) : Prop := ∃ n : Nat, VOwn w lo hi v (vmarks k n) ∧ nx = k + 2 * (n : Int) ∧ 0 ≤ k ∧ k ≤ 50000000

theorem vOwn_of {w : World} {lo : Nat} {a : Option Addr} {n cap : Nat} {zs : List (Bool × Int)} (h : w.ownsRow lo 26 2 (.slice a n cap) n (vcells zs)) (hw : ∀ z ∈ zs, (Lit.int .i64 z.2).wf = true) (hn : n ≤ 1048576) : VOwn w lo w.heap.size (.slice a n cap) zs :=
  ⟨a, n, cap, rfl, h, hw, hn, own_block h⟩
theorem vIs_below {w w' : World} {v : Value} {zs : List (Bool × Int)} (h : VIs w v zs) (hb : Below w.heap.size w w') : VIs w' v zs := by
  obtain ⟨a, n, cap, rfl, hr, hn⟩ := h
  exact ⟨a, n, cap, rfl, hr.below hb, hn⟩
theorem vOwn_is {w : World} {lo hi : Nat} {v : Value} {zs : List (Bool × Int)} (h : VOwn w lo hi v zs) : VIs w v zs := by
  obtain ⟨a, n, cap, rfl, ho, hw, hn, _⟩ := h
  obtain ⟨a', c', e, hr⟩ := isVals_own ho hw
  cases e
  exact ⟨_, _, _, rfl, hr, hn⟩
theorem vOwn_keeps {w w' : World} {lo hi lo' hi' : Nat} {v : Value} {zs : List (Bool × Int)} (h : VOwn w lo hi v zs) (t : Keeps lo' hi' w w') (hd : hi ≤ lo' ∨ hi' ≤ lo) : VOwn w' lo hi v zs := by
  obtain ⟨a, n, cap, rfl, ho, hw, hn, hb⟩ := h
  exact ⟨a, n, cap, rfl, own_keeps ho hb t hd, hw, hn, hb⟩
theorem vMarked_keeps {w w' : World} {lo hi lo' hi' : Nat} {v : Value} {k nx : Int} (h : VMarked w lo hi v k nx) (t : Keeps lo' hi' w w') (hd : hi ≤ lo' ∨ hi' ≤ lo) : VMarked w' lo hi v k nx := by
  obtain ⟨n, h1, h2⟩ := h
  exact ⟨n, vOwn_keeps h1 t hd, h2⟩
theorem vOwn_below {w w' : World} {lo hi : Nat} {v : Value} {zs : List (Bool × Int)} (h : VOwn w lo hi v zs) (hb : Below w.heap.size w w') : VOwn w' lo hi v zs := vOwn_keeps (lo' := hi) (hi' := hi) h (Keeps.of_below hb) (Or.inl (Nat.le_refl _))
theorem vMarked_below {w w' : World} {lo hi : Nat} {v : Value} {k nx : Int} (h : VMarked w lo hi v k nx) (hb : Below w.heap.size w w') : VMarked w' lo hi v k nx := vMarked_keeps (lo' := hi) (hi' := hi) h (Keeps.of_below hb) (Or.inl (Nat.le_refl _))

theorem v_to (v : Value) (zs : List (Bool × Int)) (w : World) (h : VIs w v zs) : Calls Tryd.prog 41 #[v] w fun e w' => ∃ u, e = .returned u ∧ VOwn w' w.heap.size w'.heap.size u zs ∧ Below w.heap.size w w' := by
  obtain ⟨a, n, cap, rfl, hr, hn⟩ := h
  refine (Vals.toValueS a n cap zs w hr hn).mono ?_
  rintro e w' ⟨rfl, ho, hb⟩
  exact ⟨_, rfl, vOwn_of ho hr.wf hn, hb⟩

theorem v_eq (u v : Value) (xs ys : List (Bool × Int)) (w : World) (h1 : VIs w u xs) (h2 : VIs w v ys) : Calls Tryd.prog 43 #[u, v] w fun e w' => e = .returned (.bool (decide (xs = ys))) ∧ Below w.heap.size w w' := by
  obtain ⟨a, n, cap, rfl, hr, hn⟩ := h1
  obtain ⟨b, m, cb, rfl, hs, hm⟩ := h2
  exact Vals.eqValueS a b n m cap cb xs ys w hr hs hn hm

theorem v_mark (v : Value) (zs : List (Bool × Int)) (lo hi : Nat) (k : Int) (w : World) (h : VOwn w lo hi v zs) (hk0 : 0 ≤ k) (hk1 : k ≤ 50000000) :
    Calls Tryd.prog 110 #[v, .int .i64 k] w fun e w' => ∃ nx, e = .returned (.int .i64 nx) ∧ 0 ≤ nx ∧ nx ≤ k + 8000000 ∧ VMarked w' lo hi v k nx ∧ Keeps lo hi w w' := by
  obtain ⟨a, n, cap, rfl, ho, hw, hn, hb⟩ := h
  refine (Vals.markValueS a n cap zs k lo w ho hn hk0 (by omega)).mono ?_
  rintro e w' ⟨rfl, ho', ht⟩
  exact ⟨_, rfl, by omega, by omega, ⟨n, ⟨a, n, cap, rfl, ho', vmarks_wf k n hk0 (by omega), hn, hb⟩, rfl, hk0, hk1⟩, Keeps.of_only ht hb⟩

theorem v_held (v : Value) (lo hi : Nat) (k nx : Int) (w : World) (h : VMarked w lo hi v k nx) :
    Calls Tryd.prog 111 #[v, .int .i64 k] w fun e w' => e = .returned (.int .i64 nx) ∧ Below w.heap.size w w' := by
  obtain ⟨n, ⟨a, m, cap, rfl, ho, hw, hm, hb⟩, rfl, hk0, hk1⟩ := h
  have hnm : n = m := by have := ho.1; rw [vcells_length, vmarks_length] at this; omega
  subst hnm
  obtain ⟨a', c', e, hr⟩ := isVals_own ho hw
  cases e
  refine (Vals.heldValueS _ _ _ k w hr hm hk0 (by omega)).mono ?_
  rintro e w' ⟨rfl, hb'⟩
  exact ⟨rfl, hb'⟩


end Go.Proofs.YtdlcjcobfckncaaDoor.Knv
