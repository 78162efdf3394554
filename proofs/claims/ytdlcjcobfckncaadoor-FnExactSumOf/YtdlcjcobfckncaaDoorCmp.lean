/-
  Contracts of Compare: of the program and of the model.
-/
import Derived.Test.YtdlcjcobfckncaaDoorVal
namespace Go.Proofs.YtdlcjcobfckncaaDoor.Cmp
open Go.ChangeShapes Go.WideShapes Go.ChangeAt Go.RowKit
open Go.Proofs.YtdlcjcobfckncaaDoor.Val

def cmpT (k : Int) (ab : Bool) (an : Int) (bb : Bool) (bn : Int) : Int :=
  if ab || bb then 1 else if k = 0 then (if an = bn then 2 else 0) else if k = 1 then (if an < bn then 2 else 0) else (if bn < an then 2 else 0)
def cmpB (k : Int) (ab : Bool) (an : Int) (bb : Bool) (bn : Int) : Bool := inB k 0 2 && goodV ab an && goodV bb bn
def cmpV (k : Int) (ab : Bool) (an : Int) (bb : Bool) (bn : Int) : Int := if cmpB k ab an bb bn then cmpT k ab an bb bn else 0

def CmpTab (w : World) : Prop :=
  w.cell? ⟨0, 0, none⟩ = some (.int .i64 0) ∧ w.cell? ⟨0, 1, none⟩ = some (.int .i64 2) ∧ w.cell? ⟨0, 2, none⟩ = some (.int .i64 0) ∧ w.cell? ⟨0, 3, none⟩ = some (.int .i64 2) ∧ w.cell? ⟨0, 4, none⟩ = some (.int .i64 0) ∧ w.cell? ⟨0, 5, none⟩ = some (.int .i64 0) ∧ w.cell? ⟨0, 6, none⟩ = some (.int .i64 0) ∧ w.cell? ⟨0, 7, none⟩ = some (.int .i64 0) ∧ w.cell? ⟨0, 8, none⟩ = some (.int .i64 2)

theorem CmpTab.below {w w' : World} (h : CmpTab w) (hb : Below w.heap.size w w') : CmpTab w' := by
  obtain ⟨t0, t1, t2, t3, t4, t5, t6, t7, t8⟩ := h
  refine ⟨?_, ?_, ?_, ?_, ?_, ?_, ?_, ?_, ?_⟩
  all_goals rw [(Frame.bcell hb).1 _ _ (Frame.cell_lt t0)]; assumption

theorem kind_cases {k : Int} (h : inB k 0 2 = true) : k = 0 ∨ k = 1 ∨ k = 2 := by
  unfold inB at h
  simp only [decide_eq_true_eq] at h
  omega

theorem below2 (w : World) (o o' : Obj) : Below w.heap.size w ((w.alloc o).alloc o') := ((Below.refl _ _).alloc (Nat.le_refl _) o).alloc (by simp) o'

theorem impl_isKind (n : Int) (w : World) : Calls Tryd.prog 80 #[.int .i64 n] w fun e w' => e = .returned (.bool (inB n 0 2)) ∧ w' = w := by
  by_cases h0 : 0 ≤ n
  · by_cases h2 : n ≤ 2
    · have e : inB n 0 2 = true := by unfold inB; simp [h0, h2]
      rw [e]
      go_enter Tryd.func80, Tryd.ntmps80
      go_wp2
      go_ret
      exact ⟨rfl, rfl⟩
    · have e : inB n 0 2 = false := by unfold inB; simp [h2]
      rw [e]
      go_enter Tryd.func80, Tryd.ntmps80
      go_wp2
      go_ret
      exact ⟨rfl, rfl⟩
  · have e : inB n 0 2 = false := by unfold inB; simp [h0]
    rw [e]
    go_enter Tryd.func80, Tryd.ntmps80
    go_wp2
    go_ret
    exact ⟨rfl, rfl⟩

def stV (a b : Int) : Int := if a < b then 0 else if b < a then 2 else 1
theorem impl_standing (a b : Int) (w : World) : Calls Tryd.prog 126 #[.int .i64 a, .int .i64 b] w fun e w' => e = .returned (.int .i64 (stV a b)) ∧ w' = w := by
  by_cases h0 : a < b
  · have e : stV a b = 0 := by unfold stV; simp [h0]
    rw [e]
    go_enter Tryd.func126, Tryd.ntmps126
    go_wp2
    go_ret
    exact ⟨rfl, rfl⟩
  · by_cases h1 : b < a
    · have e : stV a b = 2 := by unfold stV; simp [h0, h1]
      rw [e]
      go_enter Tryd.func126, Tryd.ntmps126
      go_wp2
      go_ret
      exact ⟨rfl, rfl⟩
    · have e : stV a b = 1 := by unfold stV; simp [h0, h1]
      rw [e]
      go_enter Tryd.func126, Tryd.ntmps126
      go_wp2
      go_ret
      exact ⟨rfl, rfl⟩

def isV (b : Bool) : Int := if b then 2 else 0
theorem spec_Is (b : Bool) (w : World) : Calls Tryd.prog 127 #[.bool b] w fun e w' => e = .returned (.int .i64 (isV b)) ∧ w' = w := by
  cases b
  all_goals
    go_enter Tryd.func127, Tryd.ntmps127
    go_wp2
    go_ret
    exact ⟨rfl, rfl⟩

theorem spec_l1Compare (k : Int) (ab bb : Bool) (an bn : Int) (w : World) (hk : inB k 0 2 = true) :
    Calls Tryd.prog 84 #[.int .i64 k, .agg #[.bool ab, .int .i64 an], .agg #[.bool bb, .int .i64 bn]] w fun e w' => e = .returned (.int .i64 (cmpT k ab an bb bn)) ∧ Below w.heap.size w w' := by
  cases ab
  · cases bb
    · rcases kind_cases hk with rfl | rfl | rfl <;> clear hk
      · have e : cmpT 0 false an false bn = isV (an == bn) := by unfold cmpT isV; simp
        rw [e]
        clear e
        go_enter Tryd.func84, Tryd.ntmps84
        go_wp2_with fail
        refine (spec_Is _ _).mono ?_
        rintro e w' ⟨rfl, rfl⟩
        go_wp2_with fail
        go_ret
        exact ⟨rfl, below2 _ _ _⟩
      · have e : cmpT 1 false an false bn = isV (decide (an < bn)) := by unfold cmpT isV; simp
        rw [e]
        clear e
        go_enter Tryd.func84, Tryd.ntmps84
        go_wp2_with fail
        refine (spec_Is _ _).mono ?_
        rintro e w' ⟨rfl, rfl⟩
        go_wp2_with fail
        go_ret
        exact ⟨rfl, below2 _ _ _⟩
      · have e : cmpT 2 false an false bn = isV (decide (bn < an)) := by unfold cmpT isV; simp
        rw [e]
        clear e
        go_enter Tryd.func84, Tryd.ntmps84
        go_wp2_with fail
        refine (spec_Is _ _).mono ?_
        rintro e w' ⟨rfl, rfl⟩
        go_wp2_with fail
        go_ret
        exact ⟨rfl, below2 _ _ _⟩
    · have e : cmpT k false an true bn = 1 := by unfold cmpT; simp
      rw [e]
      clear e hk
      go_enter Tryd.func84, Tryd.ntmps84
      go_wp2
      go_ret
      exact ⟨rfl, below2 _ _ _⟩
  · have e : cmpT k true an bb bn = 1 := by unfold cmpT; simp
    rw [e]
    clear e hk
    go_enter Tryd.func84, Tryd.ntmps84
    go_wp2
    go_ret
    exact ⟨rfl, below2 _ _ _⟩

theorem impl_Compare (k : Int) (ab bb : Bool) (an bn : Int) (w : World) (hT : CmpTab w) :
    Calls Tryd.prog 83 #[.int .i64 k, .agg #[.bool ab, .int .i64 an], .agg #[.bool bb, .int .i64 bn]] w fun e w' => e = .returned (.tuple #[.int .i64 (cmpV k ab an bb bn), .bool (cmpB k ab an bb bn)]) ∧ Below w.heap.size w w' := by
  cases hk : inB k 0 2
  · have eb : cmpB k ab an bb bn = false := by unfold cmpB; simp [hk]
    have ev : cmpV k ab an bb bn = 0 := by unfold cmpV; simp [eb]
    rw [ev, eb]
    have Hk : Hid (inB k 0 2 = false) := hk
    clear hk eb ev
    go_enter Tryd.func83, Tryd.ntmps83
    go_wp2_with fail
    refine (impl_isKind _ _).mono ?_
    rintro e w' ⟨rfl, rfl⟩
    rw [Hk.out]
    go_wp2_with fail
    go_ret2
    exact ⟨rfl, below2 _ _ _⟩
  have Hk : Hid (inB k 0 2 = true) := hk
  cases ha : goodV ab an
  · have eb : cmpB k ab an bb bn = false := by unfold cmpB; simp [ha]
    have ev : cmpV k ab an bb bn = 0 := by unfold cmpV; simp [eb]
    rw [ev, eb]
    have Ha : Hid (goodV ab an = false) := ha
    clear hk ha eb ev
    go_enter Tryd.func83, Tryd.ntmps83
    go_wp2_with fail
    refine (impl_isKind _ _).mono ?_
    rintro e w' ⟨rfl, rfl⟩
    rw [Hk.out]
    go_wp2_with fail
    refine (impl_GoodValue _ _ _).mono ?_
    rintro e w1 ⟨rfl, hb1⟩
    rw [Ha.out]
    go_wp2_with fail
    go_ret2
    exact ⟨rfl, Frame.next (below2 _ _ _) hb1 (by simp; omega)⟩
  have Ha : Hid (goodV ab an = true) := ha
  cases hb : goodV bb bn
  · have eb : cmpB k ab an bb bn = false := by unfold cmpB; simp [hb]
    have ev : cmpV k ab an bb bn = 0 := by unfold cmpV; simp [eb]
    rw [ev, eb]
    have Hb : Hid (goodV bb bn = false) := hb
    clear hk ha hb eb ev
    go_enter Tryd.func83, Tryd.ntmps83
    go_wp2_with fail
    refine (impl_isKind _ _).mono ?_
    rintro e w' ⟨rfl, rfl⟩
    rw [Hk.out]
    go_wp2_with fail
    refine (impl_GoodValue _ _ _).mono ?_
    rintro e w1 ⟨rfl, hb1⟩
    rw [Ha.out]
    have c0 : w1.cell? ⟨w.heap.size + 1, 0, none⟩ = some (.bool bb) := by rw [(Frame.bcell hb1).1 _ _ (by simp)]; simp
    have c1 : w1.cell? ⟨w.heap.size + 1, 1, none⟩ = some (.int .i64 bn) := by rw [(Frame.bcell hb1).1 _ _ (by simp)]; simp
    go_wp2_with fail
    refine (impl_GoodValue _ _ _).mono ?_
    rintro e w2 ⟨rfl, hb2⟩
    rw [Hb.out]
    go_wp2_with fail
    go_ret2
    have k1 := Frame.next (below2 _ _ _) hb1 (by simp; omega)
    exact ⟨rfl, Frame.next k1 hb2 k1.size⟩
  have Hb : Hid (goodV bb bn = true) := hb
  have eb : cmpB k ab an bb bn = true := by unfold cmpB; simp [hk, ha, hb]
  have ev : cmpV k ab an bb bn = cmpT k ab an bb bn := by unfold cmpV; simp [eb]
  rw [ev, eb]
  clear ha hb eb ev
  cases hn : (ab || bb)
  · obtain ⟨rfl, rfl⟩ : ab = false ∧ bb = false := by simpa using hn
    clear hn
    have HT : Hid (CmpTab w) := hT
    clear hT
    have hst : stV an bn = 0 ∧ an < bn ∨ stV an bn = 1 ∧ an = bn ∨ stV an bn = 2 ∧ bn < an := by
      unfold stV
      by_cases h1 : an < bn
      · simp [h1]
      · by_cases h2 : bn < an
        · simp [h1, h2]
        · right; left; simp [h1, h2]; omega
    have hval : cmpT k false an false bn = (if k = 0 then (if stV an bn = 1 then 2 else 0) else if k = 1 then (if stV an bn = 0 then 2 else 0) else (if stV an bn = 2 then 2 else 0)) := by
      unfold cmpT
      rcases hst with ⟨e, h⟩ | ⟨e, h⟩ | ⟨e, h⟩ <;> rw [e]
      · have h1 : ¬ an = bn := by omega
        have h2 : ¬ bn < an := by omega
        simp [h, h1, h2]
      · subst h; simp
      · have h1 : ¬ an = bn := by omega
        have h2 : ¬ an < bn := by omega
        simp [h, h1, h2]
    rw [hval]
    have hst' : stV an bn = 0 ∨ stV an bn = 1 ∨ stV an bn = 2 := by omega
    clear hst hval
    have hS := impl_standing an bn
    revert hst' hS
    generalize stV an bn = st
    intro hst' hS
    have HS : Hid _ := hS
    clear hS
    rcases kind_cases hk with rfl | rfl | rfl <;> clear hk <;> rcases hst' with rfl | rfl | rfl
    all_goals
      go_enter Tryd.func83, Tryd.ntmps83
      go_wp2_with fail
      refine (impl_isKind _ _).mono ?_
      rintro e w' ⟨rfl, rfl⟩
      rw [Hk.out]
      go_wp2_with fail
      refine (impl_GoodValue _ _ _).mono ?_
      rintro e w1 ⟨rfl, hb1⟩
      rw [Ha.out]
      have hz1 := (Frame.bcell hb1).2.2
      simp only [World.size_alloc] at hz1
      have c0 : w1.cell? ⟨w.heap.size + 1, 0, none⟩ = some (.bool false) := by rw [(Frame.bcell hb1).1 _ _ (by simp)]; simp
      have c1 : w1.cell? ⟨w.heap.size + 1, 1, none⟩ = some (.int .i64 bn) := by rw [(Frame.bcell hb1).1 _ _ (by simp)]; simp
      go_wp2_with fail
      refine (impl_GoodValue _ _ _).mono ?_
      rintro e w2 ⟨rfl, hb2⟩
      rw [Hb.out]
      have d0 : w2.cell? ⟨w.heap.size + 1, 0, none⟩ = some (.bool false) := by rw [(Frame.bcell hb2).1 _ _ (by omega)]; exact c0
      have d1 : w2.cell? ⟨w.heap.size + 1, 1, none⟩ = some (.int .i64 bn) := by rw [(Frame.bcell hb2).1 _ _ (by omega)]; exact c1
      have d2 : w2.cell? ⟨w.heap.size, 0, none⟩ = some (.bool false) := by rw [(Frame.bcell hb2).1 _ _ (by omega), (Frame.bcell hb1).1 _ _ (by simp; omega)]; simp
      have d3 : w2.cell? ⟨w.heap.size, 1, none⟩ = some (.int .i64 an) := by rw [(Frame.bcell hb2).1 _ _ (by omega), (Frame.bcell hb1).1 _ _ (by simp; omega)]; simp
      have k1 := Frame.next (below2 _ _ _) hb1 (by simp; omega)
      have k2 := Frame.next k1 hb2 k1.size
      clear c0 c1
      obtain ⟨t0, t1, t2, t3, t4, t5, t6, t7, t8⟩ := HT.out.below k2
      go_wp2_with fail
      go_quiet ((go_at_call 126; exact Calls.quiet_of_same (HS.out _)))
      go_wp2
      go_ret2
      exact ⟨rfl, below_drewN k2 _⟩
  · have e : cmpT k ab an bb bn = 1 := by unfold cmpT; simp [hn]
    rw [e]
    clear e hT hk
    cases ab
    · obtain rfl : bb = true := by simpa using hn
      clear hn
      go_enter Tryd.func83, Tryd.ntmps83
      go_wp2_with fail
      refine (impl_isKind _ _).mono ?_
      rintro e w' ⟨rfl, rfl⟩
      rw [Hk.out]
      go_wp2_with fail
      refine (impl_GoodValue _ _ _).mono ?_
      rintro e w1 ⟨rfl, hb1⟩
      rw [Ha.out]
      have hz1 := (Frame.bcell hb1).2.2
      simp only [World.size_alloc] at hz1
      have c0 : w1.cell? ⟨w.heap.size + 1, 0, none⟩ = some (.bool true) := by rw [(Frame.bcell hb1).1 _ _ (by simp)]; simp
      have c1 : w1.cell? ⟨w.heap.size + 1, 1, none⟩ = some (.int .i64 bn) := by rw [(Frame.bcell hb1).1 _ _ (by simp)]; simp
      go_wp2_with fail
      refine (impl_GoodValue _ _ _).mono ?_
      rintro e w2 ⟨rfl, hb2⟩
      rw [Hb.out]
      have d0 : w2.cell? ⟨w.heap.size + 1, 0, none⟩ = some (.bool true) := by rw [(Frame.bcell hb2).1 _ _ (by omega)]; exact c0
      have d1 : w2.cell? ⟨w.heap.size + 1, 1, none⟩ = some (.int .i64 bn) := by rw [(Frame.bcell hb2).1 _ _ (by omega)]; exact c1
      have d2 : w2.cell? ⟨w.heap.size, 0, none⟩ = some (.bool false) := by rw [(Frame.bcell hb2).1 _ _ (by omega), (Frame.bcell hb1).1 _ _ (by simp; omega)]; simp
      have d3 : w2.cell? ⟨w.heap.size, 1, none⟩ = some (.int .i64 an) := by rw [(Frame.bcell hb2).1 _ _ (by omega), (Frame.bcell hb1).1 _ _ (by simp; omega)]; simp
      have k1 := Frame.next (below2 _ _ _) hb1 (by simp; omega)
      have k2 := Frame.next k1 hb2 k1.size
      clear c0 c1
      go_wp2
      go_ret2
      exact ⟨rfl, k2⟩
    · clear hn
      go_enter Tryd.func83, Tryd.ntmps83
      go_wp2_with fail
      refine (impl_isKind _ _).mono ?_
      rintro e w' ⟨rfl, rfl⟩
      rw [Hk.out]
      go_wp2_with fail
      refine (impl_GoodValue _ _ _).mono ?_
      rintro e w1 ⟨rfl, hb1⟩
      rw [Ha.out]
      have hz1 := (Frame.bcell hb1).2.2
      simp only [World.size_alloc] at hz1
      have c0 : w1.cell? ⟨w.heap.size + 1, 0, none⟩ = some (.bool bb) := by rw [(Frame.bcell hb1).1 _ _ (by simp)]; simp
      have c1 : w1.cell? ⟨w.heap.size + 1, 1, none⟩ = some (.int .i64 bn) := by rw [(Frame.bcell hb1).1 _ _ (by simp)]; simp
      go_wp2_with fail
      refine (impl_GoodValue _ _ _).mono ?_
      rintro e w2 ⟨rfl, hb2⟩
      rw [Hb.out]
      have d0 : w2.cell? ⟨w.heap.size + 1, 0, none⟩ = some (.bool bb) := by rw [(Frame.bcell hb2).1 _ _ (by omega)]; exact c0
      have d1 : w2.cell? ⟨w.heap.size + 1, 1, none⟩ = some (.int .i64 bn) := by rw [(Frame.bcell hb2).1 _ _ (by omega)]; exact c1
      have d2 : w2.cell? ⟨w.heap.size, 0, none⟩ = some (.bool true) := by rw [(Frame.bcell hb2).1 _ _ (by omega), (Frame.bcell hb1).1 _ _ (by simp; omega)]; simp
      have d3 : w2.cell? ⟨w.heap.size, 1, none⟩ = some (.int .i64 an) := by rw [(Frame.bcell hb2).1 _ _ (by omega), (Frame.bcell hb1).1 _ _ (by simp; omega)]; simp
      have k1 := Frame.next (below2 _ _ _) hb1 (by simp; omega)
      have k2 := Frame.next k1 hb2 k1.size
      clear c0 c1
      go_wp2
      go_ret2
      exact ⟨rfl, k2⟩


end Go.Proofs.YtdlcjcobfckncaaDoor.Cmp
