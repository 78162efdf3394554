/-
  The model's sum of none, and with one value more.
-/
import Derived.Test.YtdlcjcobfckncaaDoorSgd
namespace Go.Proofs.YtdlcjcobfckncaaDoor.Sgg
open Go.RowKit
open Go.Proofs.YtdlcjcobfckncaaDoor.Frame Go.Proofs.YtdlcjcobfckncaaDoor.Mem Go.Proofs.YtdlcjcobfckncaaDoor.Val Go.Proofs.YtdlcjcobfckncaaDoor.Sma Go.Proofs.YtdlcjcobfckncaaDoor.Sgd

def lowA (s : Sm) (vn : Int) : Bool := (s.k == 0) || decide (vn < s.l)
def highA (s : Sm) (vn : Int) : Bool := (s.k == 0) || decide (s.h < vn)
def addS (s : Sm) (v : Bool × Int) : Sm := if v.1 then ⟨s.r + 1, s.k, s.t, s.lb, s.l, s.hb, s.h⟩ else ⟨s.r + 1, s.k + 1, s.t + v.2, if lowA s v.2 then false else s.lb, if lowA s v.2 then v.2 else s.l, if highA s v.2 then false else s.hb, if highA s v.2 then v.2 else s.h⟩

theorem l4None (w : World) : Calls Tryd.prog 56 #[] w fun e w' => e = .returned (.agg #[.int .i64 0, .int .i64 0, .int .i64 0, .bool true, .int .i64 0, .bool true, .int .i64 0]) ∧ Below w.heap.size w w' := by
  go_enter Tryd.func56, Tryd.ntmps56
  go_wp2
  refine bodyPost_ret (v := .agg #[.int .i64 0, .int .i64 0, .int .i64 0, .bool true, .int .i64 0, .bool true, .int .i64 0]) (by simp [results, Tryd.results56, go_sem]) rfl ?_
  exact ⟨rfl, (Below.refl _ _).alloc (Nat.le_refl _) _⟩

set_option maxRecDepth 8000 in
set_option maxHeartbeats 3200000 in
theorem l4Add (s : Sm) (vb : Bool) (vn : Int) (w : World) (hr : 0 ≤ s.r ∧ s.r ≤ 1000) (hk : 0 ≤ s.k ∧ s.k ≤ 1000) (ht : -1000000 ≤ s.t ∧ s.t ≤ 1000000) (hv : -1000 ≤ vn ∧ vn ≤ 1000) : Calls Tryd.prog 57 #[.agg #[.int .i64 s.r, .int .i64 s.k, .int .i64 s.t, .bool s.lb, .int .i64 s.l, .bool s.hb, .int .i64 s.h], .agg #[.bool vb, .int .i64 vn]] w fun e w' => e = .returned (.agg #[.int .i64 (addS s (vb, vn)).r, .int .i64 (addS s (vb, vn)).k, .int .i64 (addS s (vb, vn)).t, .bool (addS s (vb, vn)).lb, .int .i64 (addS s (vb, vn)).l, .bool (addS s (vb, vn)).hb, .int .i64 (addS s (vb, vn)).h]) ∧ Below w.heap.size w w' := by
  have e1 : wrap64 (s.r + 1) = s.r + 1 := by unfold wrap64; omega
  have e2 : wrap64 (s.k + 1) = s.k + 1 := by unfold wrap64; omega
  have e3 : wrap64 (s.t + vn) = s.t + vn := by unfold wrap64; omega
  have EW : Hid (wrap64 (s.r + 1) = s.r + 1 ∧ wrap64 (s.k + 1) = s.k + 1 ∧ wrap64 (s.t + vn) = s.t + vn) := ⟨e1, e2, e3⟩
  cases vb
  · by_cases hk0 : s.k = 0
    · have hkb : (wrap64 (s.k + 1) == 1) = true := by rw [e2, beq_iff_eq]; omega
      have e : addS s (false, vn) = ⟨s.r + 1, 1, s.t + vn, false, vn, false, vn⟩ := by unfold addS; rw [if_neg Bool.false_ne_true, show lowA s vn = true from by unfold lowA; simp [hk0], show highA s vn = true from by unfold highA; simp [hk0]]; rw [hk0]; rfl
      rw [e]
      clear e e1 e2 e3 hr hk ht hv
      go_enter Tryd.func57, Tryd.ntmps57
      go_wp2
      refine bodyPost_ret (v := .agg #[.int .i64 (wrap64 (s.r + 1)), .int .i64 1, .int .i64 (wrap64 (s.t + vn)), .bool false, .int .i64 vn, .bool false, .int .i64 vn]) (by simp [results, Tryd.results57, go_sem]) rfl ?_
      rw [EW.out.1, EW.out.2.2]
      exact ⟨rfl, (((Below.refl _ _).alloc (Nat.le_refl _) _).alloc (by simp) _).alloc (by simp; omega) _⟩
    · have hkb : (wrap64 (s.k + 1) == 1) = false := by rw [e2, beq_eq_false_iff_ne]; omega
      by_cases hl : vn < s.l
      · by_cases hh : s.h < vn
        · skip
          have e : addS s (false, vn) = ⟨s.r + 1, s.k + 1, s.t + vn, false, vn, false, vn⟩ := by unfold addS; rw [if_neg Bool.false_ne_true, show lowA s vn = true from by unfold lowA; simp [hl], show highA s vn = true from by unfold highA; simp [hh]]; rfl
          rw [e]
          clear e e1 e2 e3 hr hk ht hv
          go_enter Tryd.func57, Tryd.ntmps57
          go_wp2
          refine bodyPost_ret (v := .agg #[.int .i64 (wrap64 (s.r + 1)), .int .i64 (wrap64 (s.k + 1)), .int .i64 (wrap64 (s.t + vn)), .bool false, .int .i64 vn, .bool false, .int .i64 vn]) (by simp [results, Tryd.results57, go_sem]) rfl ?_
          rw [EW.out.1, EW.out.2.1, EW.out.2.2]
          exact ⟨rfl, (((Below.refl _ _).alloc (Nat.le_refl _) _).alloc (by simp) _).alloc (by simp; omega) _⟩
        · skip
          have e : addS s (false, vn) = ⟨s.r + 1, s.k + 1, s.t + vn, false, vn, s.hb, s.h⟩ := by unfold addS; rw [if_neg Bool.false_ne_true, show lowA s vn = true from by unfold lowA; simp [hl], show highA s vn = false from by unfold highA; simp [hk0, hh]]; rfl
          rw [e]
          clear e e1 e2 e3 hr hk ht hv
          go_enter Tryd.func57, Tryd.ntmps57
          go_wp2
          refine bodyPost_ret (v := .agg #[.int .i64 (wrap64 (s.r + 1)), .int .i64 (wrap64 (s.k + 1)), .int .i64 (wrap64 (s.t + vn)), .bool false, .int .i64 vn, .bool s.hb, .int .i64 s.h]) (by simp [results, Tryd.results57, go_sem]) rfl ?_
          rw [EW.out.1, EW.out.2.1, EW.out.2.2]
          exact ⟨rfl, (((Below.refl _ _).alloc (Nat.le_refl _) _).alloc (by simp) _).alloc (by simp; omega) _⟩
      · by_cases hh : s.h < vn
        · skip
          have e : addS s (false, vn) = ⟨s.r + 1, s.k + 1, s.t + vn, s.lb, s.l, false, vn⟩ := by unfold addS; rw [if_neg Bool.false_ne_true, show lowA s vn = false from by unfold lowA; simp [hk0, hl], show highA s vn = true from by unfold highA; simp [hh]]; rfl
          rw [e]
          clear e e1 e2 e3 hr hk ht hv
          go_enter Tryd.func57, Tryd.ntmps57
          go_wp2
          refine bodyPost_ret (v := .agg #[.int .i64 (wrap64 (s.r + 1)), .int .i64 (wrap64 (s.k + 1)), .int .i64 (wrap64 (s.t + vn)), .bool s.lb, .int .i64 s.l, .bool false, .int .i64 vn]) (by simp [results, Tryd.results57, go_sem]) rfl ?_
          rw [EW.out.1, EW.out.2.1, EW.out.2.2]
          exact ⟨rfl, (((Below.refl _ _).alloc (Nat.le_refl _) _).alloc (by simp) _).alloc (by simp; omega) _⟩
        · skip
          have e : addS s (false, vn) = ⟨s.r + 1, s.k + 1, s.t + vn, s.lb, s.l, s.hb, s.h⟩ := by unfold addS; rw [if_neg Bool.false_ne_true, show lowA s vn = false from by unfold lowA; simp [hk0, hl], show highA s vn = false from by unfold highA; simp [hk0, hh]]; rfl
          rw [e]
          clear e e1 e2 e3 hr hk ht hv
          go_enter Tryd.func57, Tryd.ntmps57
          go_wp2
          refine bodyPost_ret (v := .agg #[.int .i64 (wrap64 (s.r + 1)), .int .i64 (wrap64 (s.k + 1)), .int .i64 (wrap64 (s.t + vn)), .bool s.lb, .int .i64 s.l, .bool s.hb, .int .i64 s.h]) (by simp [results, Tryd.results57, go_sem]) rfl ?_
          rw [EW.out.1, EW.out.2.1, EW.out.2.2]
          exact ⟨rfl, (((Below.refl _ _).alloc (Nat.le_refl _) _).alloc (by simp) _).alloc (by simp; omega) _⟩
  · have e : addS s (true, vn) = ⟨s.r + 1, s.k, s.t, s.lb, s.l, s.hb, s.h⟩ := if_pos rfl
    rw [e]
    clear e e1 e2 e3 hr hk ht hv
    go_enter Tryd.func57, Tryd.ntmps57
    go_wp2
    refine bodyPost_ret (v := .agg #[.int .i64 (wrap64 (s.r + 1)), .int .i64 s.k, .int .i64 s.t, .bool s.lb, .int .i64 s.l, .bool s.hb, .int .i64 s.h]) (by simp [results, Tryd.results57, go_sem]) rfl ?_
    rw [EW.out.1]
    exact ⟨rfl, (((Below.refl _ _).alloc (Nat.le_refl _) _).alloc (by simp) _).alloc (by simp; omega) _⟩


end Go.Proofs.YtdlcjcobfckncaaDoor.Sgg
