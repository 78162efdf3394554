/-
  Sums: what makes one good, and its mean: contracts of the program and of the model.
-/
import Derived.Test.YtdlcjcobfckncaaDoorVal
import Derived.Test.YtdlcjcobfckncaaDoorMem
namespace Go.Proofs.YtdlcjcobfckncaaDoor.Sma
open Go.ChangeShapes Go.WideShapes Go.ChangeAt Go.RowKit
open Go.Proofs.YtdlcjcobfckncaaDoor.Val

def liesB (k t : Int) (lb : Bool) (l : Int) (hb : Bool) (h : Int) : Bool := !lb && (!hb && (decide (l ≤ h) && (decide (k * l ≤ t) && decide (t ≤ k * h))))
def zeroB (t : Int) (lb hb : Bool) : Bool := lb && (hb && (t == 0))
def goodS (r k t : Int) (lb : Bool) (l : Int) (hb : Bool) (h : Int) : Bool :=
  inB r 0 10000 && (inB k 0 r && (inB t (-1000000) 1000000 && (goodV lb l && (goodV hb h && (if k = 0 then zeroB t lb hb else liesB k t lb l hb h)))))

set_option maxRecDepth 4000 in
theorem toSum (r k t : Int) (lb : Bool) (l : Int) (hb : Bool) (h : Int) (w : World) : Calls Tryd.prog 44 #[.agg #[.int .i64 r, .int .i64 k, .int .i64 t, .bool lb, .int .i64 l, .bool hb, .int .i64 h]] w fun e w' => e = .returned (.agg #[.int .i64 r, .int .i64 k, .int .i64 t, .bool lb, .int .i64 l, .bool hb, .int .i64 h]) ∧ Below w.heap.size w w' := by
  have hsz : (((w.alloc (.cells #[.int .i64 r, .int .i64 k, .int .i64 t, .bool lb, .int .i64 l, .bool hb, .int .i64 h] 75)).alloc (.cells #[.int .i64 0, .int .i64 0, .int .i64 0, .bool false, .int .i64 0, .bool false, .int .i64 0] 28)).alloc (.cells #[.int .i64 r, .int .i64 k, .int .i64 t, .bool false, .int .i64 0, .bool false, .int .i64 0] 28)).heap.size = w.heap.size + 3 := by simp
  have B3 : Hid (Below w.heap.size w (((w.alloc (.cells #[.int .i64 r, .int .i64 k, .int .i64 t, .bool lb, .int .i64 l, .bool hb, .int .i64 h] 75)).alloc (.cells #[.int .i64 0, .int .i64 0, .int .i64 0, .bool false, .int .i64 0, .bool false, .int .i64 0] 28)).alloc (.cells #[.int .i64 r, .int .i64 k, .int .i64 t, .bool false, .int .i64 0, .bool false, .int .i64 0] 28))) := (((Below.refl _ _).alloc (Nat.le_refl _) _).alloc (by simp) _).alloc (by simp; omega) _
  go_enter Tryd.func44, Tryd.ntmps44
  go_wp2_with fail
  refine (toValue _ _ _).mono ?_
  rintro e w1 ⟨rfl, hb1⟩
  have bc := Frame.bcell hb1
  rw [hsz] at bc
  have p5 : w1.cell? ⟨w.heap.size, 5, none⟩ = some (.bool hb) := by rw [bc.1 _ _ (by omega)]; go_simp
  have p6 : w1.cell? ⟨w.heap.size, 6, none⟩ = some (.int .i64 h) := by rw [bc.1 _ _ (by omega)]; go_simp
  have c0 : w1.cell? ⟨w.heap.size + 1, 0, none⟩ = some (.int .i64 0) := by rw [bc.1 _ _ (by omega)]; go_simp
  have f0 : w1.frozen? ⟨w.heap.size + 1, 0, none⟩ = false := by rw [bc.2.1 _ _ (by omega)]; go_simp
  have c1 : w1.cell? ⟨w.heap.size + 1, 1, none⟩ = some (.int .i64 0) := by rw [bc.1 _ _ (by omega)]; go_simp
  have f1 : w1.frozen? ⟨w.heap.size + 1, 1, none⟩ = false := by rw [bc.2.1 _ _ (by omega)]; go_simp
  have c2 : w1.cell? ⟨w.heap.size + 1, 2, none⟩ = some (.int .i64 0) := by rw [bc.1 _ _ (by omega)]; go_simp
  have f2 : w1.frozen? ⟨w.heap.size + 1, 2, none⟩ = false := by rw [bc.2.1 _ _ (by omega)]; go_simp
  have c3 : w1.cell? ⟨w.heap.size + 1, 3, none⟩ = some (.bool false) := by rw [bc.1 _ _ (by omega)]; go_simp
  have f3 : w1.frozen? ⟨w.heap.size + 1, 3, none⟩ = false := by rw [bc.2.1 _ _ (by omega)]; go_simp
  have c4 : w1.cell? ⟨w.heap.size + 1, 4, none⟩ = some (.int .i64 0) := by rw [bc.1 _ _ (by omega)]; go_simp
  have f4 : w1.frozen? ⟨w.heap.size + 1, 4, none⟩ = false := by rw [bc.2.1 _ _ (by omega)]; go_simp
  have c5 : w1.cell? ⟨w.heap.size + 1, 5, none⟩ = some (.bool false) := by rw [bc.1 _ _ (by omega)]; go_simp
  have f5 : w1.frozen? ⟨w.heap.size + 1, 5, none⟩ = false := by rw [bc.2.1 _ _ (by omega)]; go_simp
  have c6 : w1.cell? ⟨w.heap.size + 1, 6, none⟩ = some (.int .i64 0) := by rw [bc.1 _ _ (by omega)]; go_simp
  have f6 : w1.frozen? ⟨w.heap.size + 1, 6, none⟩ = false := by rw [bc.2.1 _ _ (by omega)]; go_simp
  have d0 : w1.cell? ⟨w.heap.size + 1 + 1, 0, none⟩ = some (.int .i64 r) := by rw [bc.1 _ _ (by omega)]; go_simp
  have d1 : w1.cell? ⟨w.heap.size + 1 + 1, 1, none⟩ = some (.int .i64 k) := by rw [bc.1 _ _ (by omega)]; go_simp
  have d2 : w1.cell? ⟨w.heap.size + 1 + 1, 2, none⟩ = some (.int .i64 t) := by rw [bc.1 _ _ (by omega)]; go_simp
  have d3 : w1.cell? ⟨w.heap.size + 1 + 1, 3, none⟩ = some (.bool false) := by rw [bc.1 _ _ (by omega)]; go_simp
  have d4 : w1.cell? ⟨w.heap.size + 1 + 1, 4, none⟩ = some (.int .i64 0) := by rw [bc.1 _ _ (by omega)]; go_simp
  have d5 : w1.cell? ⟨w.heap.size + 1 + 1, 5, none⟩ = some (.bool false) := by rw [bc.1 _ _ (by omega)]; go_simp
  have d6 : w1.cell? ⟨w.heap.size + 1 + 1, 6, none⟩ = some (.int .i64 0) := by rw [bc.1 _ _ (by omega)]; go_simp
  have g3 : w1.frozen? ⟨w.heap.size + 1 + 1, 3, none⟩ = false := by rw [bc.2.1 _ _ (by omega)]; go_simp
  have g4 : w1.frozen? ⟨w.heap.size + 1 + 1, 4, none⟩ = false := by rw [bc.2.1 _ _ (by omega)]; go_simp
  have g5 : w1.frozen? ⟨w.heap.size + 1 + 1, 5, none⟩ = false := by rw [bc.2.1 _ _ (by omega)]; go_simp
  have g6 : w1.frozen? ⟨w.heap.size + 1 + 1, 6, none⟩ = false := by rw [bc.2.1 _ _ (by omega)]; go_simp
  have B1 : Hid (Below w.heap.size w w1) := Frame.next B3.out hb1 (by rw [hsz]; omega)
  have hs1 : w.heap.size + 3 ≤ w1.heap.size := bc.2.2
  clear bc hb1 hsz B3
  have F : Hid (w1.cell? ⟨w.heap.size + 1, 0, none⟩ = some (.int .i64 0) ∧ w1.frozen? ⟨w.heap.size + 1, 0, none⟩ = false ∧ w1.cell? ⟨w.heap.size + 1, 1, none⟩ = some (.int .i64 0) ∧ w1.frozen? ⟨w.heap.size + 1, 1, none⟩ = false ∧ w1.cell? ⟨w.heap.size + 1, 2, none⟩ = some (.int .i64 0) ∧ w1.frozen? ⟨w.heap.size + 1, 2, none⟩ = false ∧ w1.cell? ⟨w.heap.size + 1, 3, none⟩ = some (.bool false) ∧ w1.frozen? ⟨w.heap.size + 1, 3, none⟩ = false ∧ w1.cell? ⟨w.heap.size + 1, 4, none⟩ = some (.int .i64 0) ∧ w1.frozen? ⟨w.heap.size + 1, 4, none⟩ = false ∧ w1.cell? ⟨w.heap.size + 1, 5, none⟩ = some (.bool false) ∧ w1.frozen? ⟨w.heap.size + 1, 5, none⟩ = false ∧ w1.cell? ⟨w.heap.size + 1, 6, none⟩ = some (.int .i64 0) ∧ w1.frozen? ⟨w.heap.size + 1, 6, none⟩ = false ∧ w1.cell? ⟨w.heap.size + 1 + 1, 0, none⟩ = some (.int .i64 r) ∧ w1.cell? ⟨w.heap.size + 1 + 1, 1, none⟩ = some (.int .i64 k) ∧ w1.cell? ⟨w.heap.size + 1 + 1, 2, none⟩ = some (.int .i64 t) ∧ w1.cell? ⟨w.heap.size + 1 + 1, 3, none⟩ = some (.bool false) ∧ w1.cell? ⟨w.heap.size + 1 + 1, 4, none⟩ = some (.int .i64 0) ∧ w1.cell? ⟨w.heap.size + 1 + 1, 5, none⟩ = some (.bool false) ∧ w1.cell? ⟨w.heap.size + 1 + 1, 6, none⟩ = some (.int .i64 0) ∧ w1.frozen? ⟨w.heap.size + 1 + 1, 5, none⟩ = false ∧ w1.frozen? ⟨w.heap.size + 1 + 1, 6, none⟩ = false) := ⟨c0, f0, c1, f1, c2, f2, c3, f3, c4, f4, c5, f5, c6, f6, d0, d1, d2, d3, d4, d5, d6, g5, g6⟩
  clear c0 f0 c1 f1 c2 f2 c3 f3 c4 f4 c5 f5 c6 f6 d0 d1 d2 d5 d6 g5 g6
  go_wp2_with fail
  refine (toValue _ _ _).mono ?_
  rintro e w2 ⟨rfl, hb2⟩
  obtain ⟨c0, f0, c1, f1, c2, f2, c3, f3, c4, f4, c5, f5, c6, f6, d0', d1', d2', d3', d4', d5', d6', g5, g6⟩ := F.out
  have hs2 : ((w1.setCell ⟨w.heap.size + 1 + 1, 3, none⟩ (.bool lb)).setCell ⟨w.heap.size + 1 + 1, 4, none⟩ (.int .i64 l)).heap.size = w1.heap.size := by simp
  have bc := Frame.bcell hb2
  rw [hs2] at bc
  have c0b : w2.cell? ⟨w.heap.size + 1, 0, none⟩ = some (.int .i64 0) := by rw [bc.1 _ _ (by omega), World.cell?_setCell_other _ _ _ _ (by simp), World.cell?_setCell_other _ _ _ _ (by simp)]; exact c0
  have f0b : w2.frozen? ⟨w.heap.size + 1, 0, none⟩ = false := by rw [bc.2.1 _ _ (by omega), World.frozen?_setCell, World.frozen?_setCell]; exact f0
  have c1b : w2.cell? ⟨w.heap.size + 1, 1, none⟩ = some (.int .i64 0) := by rw [bc.1 _ _ (by omega), World.cell?_setCell_other _ _ _ _ (by simp), World.cell?_setCell_other _ _ _ _ (by simp)]; exact c1
  have f1b : w2.frozen? ⟨w.heap.size + 1, 1, none⟩ = false := by rw [bc.2.1 _ _ (by omega), World.frozen?_setCell, World.frozen?_setCell]; exact f1
  have c2b : w2.cell? ⟨w.heap.size + 1, 2, none⟩ = some (.int .i64 0) := by rw [bc.1 _ _ (by omega), World.cell?_setCell_other _ _ _ _ (by simp), World.cell?_setCell_other _ _ _ _ (by simp)]; exact c2
  have f2b : w2.frozen? ⟨w.heap.size + 1, 2, none⟩ = false := by rw [bc.2.1 _ _ (by omega), World.frozen?_setCell, World.frozen?_setCell]; exact f2
  have c3b : w2.cell? ⟨w.heap.size + 1, 3, none⟩ = some (.bool false) := by rw [bc.1 _ _ (by omega), World.cell?_setCell_other _ _ _ _ (by simp), World.cell?_setCell_other _ _ _ _ (by simp)]; exact c3
  have f3b : w2.frozen? ⟨w.heap.size + 1, 3, none⟩ = false := by rw [bc.2.1 _ _ (by omega), World.frozen?_setCell, World.frozen?_setCell]; exact f3
  have c4b : w2.cell? ⟨w.heap.size + 1, 4, none⟩ = some (.int .i64 0) := by rw [bc.1 _ _ (by omega), World.cell?_setCell_other _ _ _ _ (by simp), World.cell?_setCell_other _ _ _ _ (by simp)]; exact c4
  have f4b : w2.frozen? ⟨w.heap.size + 1, 4, none⟩ = false := by rw [bc.2.1 _ _ (by omega), World.frozen?_setCell, World.frozen?_setCell]; exact f4
  have c5b : w2.cell? ⟨w.heap.size + 1, 5, none⟩ = some (.bool false) := by rw [bc.1 _ _ (by omega), World.cell?_setCell_other _ _ _ _ (by simp), World.cell?_setCell_other _ _ _ _ (by simp)]; exact c5
  have f5b : w2.frozen? ⟨w.heap.size + 1, 5, none⟩ = false := by rw [bc.2.1 _ _ (by omega), World.frozen?_setCell, World.frozen?_setCell]; exact f5
  have c6b : w2.cell? ⟨w.heap.size + 1, 6, none⟩ = some (.int .i64 0) := by rw [bc.1 _ _ (by omega), World.cell?_setCell_other _ _ _ _ (by simp), World.cell?_setCell_other _ _ _ _ (by simp)]; exact c6
  have f6b : w2.frozen? ⟨w.heap.size + 1, 6, none⟩ = false := by rw [bc.2.1 _ _ (by omega), World.frozen?_setCell, World.frozen?_setCell]; exact f6
  have d0b : w2.cell? ⟨w.heap.size + 1 + 1, 0, none⟩ = some (.int .i64 r) := by rw [bc.1 _ _ (by omega), World.cell?_setCell_other _ _ _ _ (by simp), World.cell?_setCell_other _ _ _ _ (by simp)]; exact d0'
  have d1b : w2.cell? ⟨w.heap.size + 1 + 1, 1, none⟩ = some (.int .i64 k) := by rw [bc.1 _ _ (by omega), World.cell?_setCell_other _ _ _ _ (by simp), World.cell?_setCell_other _ _ _ _ (by simp)]; exact d1'
  have d2b : w2.cell? ⟨w.heap.size + 1 + 1, 2, none⟩ = some (.int .i64 t) := by rw [bc.1 _ _ (by omega), World.cell?_setCell_other _ _ _ _ (by simp), World.cell?_setCell_other _ _ _ _ (by simp)]; exact d2'
  have d3b : w2.cell? ⟨w.heap.size + 1 + 1, 3, none⟩ = some (.bool lb) := by rw [bc.1 _ _ (by omega), World.cell?_setCell_other _ _ _ _ (by simp)]; exact World.cell?_setCell_same _ _ _ d3'
  have d4b : w2.cell? ⟨w.heap.size + 1 + 1, 4, none⟩ = some (.int .i64 l) := by rw [bc.1 _ _ (by omega)]; exact World.cell?_setCell_same _ _ _ (by rw [World.cell?_setCell_other _ _ _ _ (by simp)]; exact d4')
  have d5b : w2.cell? ⟨w.heap.size + 1 + 1, 5, none⟩ = some (.bool false) := by rw [bc.1 _ _ (by omega), World.cell?_setCell_other _ _ _ _ (by simp), World.cell?_setCell_other _ _ _ _ (by simp)]; exact d5'
  have d6b : w2.cell? ⟨w.heap.size + 1 + 1, 6, none⟩ = some (.int .i64 0) := by rw [bc.1 _ _ (by omega), World.cell?_setCell_other _ _ _ _ (by simp), World.cell?_setCell_other _ _ _ _ (by simp)]; exact d6'
  have g5b : w2.frozen? ⟨w.heap.size + 1 + 1, 5, none⟩ = false := by rw [bc.2.1 _ _ (by omega), World.frozen?_setCell, World.frozen?_setCell]; exact g5
  have g6b : w2.frozen? ⟨w.heap.size + 1 + 1, 6, none⟩ = false := by rw [bc.2.1 _ _ (by omega), World.frozen?_setCell, World.frozen?_setCell]; exact g6
  have B2 : Hid (Below w.heap.size w w2) := Frame.next ((B1.out.setCell (by show w.heap.size ≤ w.heap.size + 1 + 1; omega) _).setCell (by show w.heap.size ≤ w.heap.size + 1 + 1; omega) _) hb2 (by rw [hs2]; omega)
  clear bc hb2 hs2 c0 f0 d0' c1 f1 d1' c2 f2 d2' c3 f3 d3' c4 f4 d4' c5 f5 d5' c6 f6 d6' d3 d4 g3 g4 g5 g6 p5 p6 F
  go_wp2
  refine bodyPost_ret (v := .agg #[.int .i64 r, .int .i64 k, .int .i64 t, .bool lb, .int .i64 l, .bool hb, .int .i64 h]) (by simp [results, Tryd.results44, go_sem, c0b, c1b, c2b, c3b, c4b, c5b, c6b]) rfl ?_
  exact ⟨rfl, (((((((((B2.out.setCell (by show w.heap.size ≤ w.heap.size + 1 + 1; omega) _).setCell (by show w.heap.size ≤ w.heap.size + 1 + 1; omega) _).setCell (by show w.heap.size ≤ w.heap.size + 1; omega) _).setCell (by show w.heap.size ≤ w.heap.size + 1; omega) _).setCell (by show w.heap.size ≤ w.heap.size + 1; omega) _).setCell (by show w.heap.size ≤ w.heap.size + 1; omega) _).setCell (by show w.heap.size ≤ w.heap.size + 1; omega) _).setCell (by show w.heap.size ≤ w.heap.size + 1; omega) _).setCell (by show w.heap.size ≤ w.heap.size + 1; omega) _)⟩

theorem mul_fits {k l : Int} (hk0 : 0 ≤ k) (hk : k ≤ 10000) (h1 : -1000 ≤ l) (h2 : l ≤ 1000) : wrap64 (k * l) = k * l := by
  have h3 : k * l ≤ 10000 * 1000 := Int.le_trans (Int.mul_le_mul_of_nonneg_left h2 hk0) (Int.mul_le_mul_of_nonneg_right hk (by omega))
  have h4 : 10000 * (-1000) ≤ k * l := by
    have h5 : k * (-1000) ≤ k * l := Int.mul_le_mul_of_nonneg_left h1 hk0
    omega
  generalize k * l = m at h3 h4 ⊢
  unfold wrap64
  omega
theorem goodV_bound {b : Bool} {n : Int} (h : goodV b n = true) : -1000 ≤ n ∧ n ≤ 1000 := by unfold goodV inB at h; simp at h; exact h.1
theorem inB_no {n lo hi : Int} (h : ¬ (lo ≤ n ∧ n ≤ hi)) : inB n lo hi = false := decide_eq_false h
theorem inB_yes {n lo hi : Int} (h : lo ≤ n ∧ n ≤ hi) : inB n lo hi = true := decide_eq_true h

theorem lies (r k t : Int) (lb : Bool) (l : Int) (hb : Bool) (h : Int) (w : World) (hk0 : 0 ≤ k) (hk : k ≤ 10000) (hl : goodV lb l = true) (hh : goodV hb h = true) : Calls Tryd.prog 61 #[.agg #[.int .i64 r, .int .i64 k, .int .i64 t, .bool lb, .int .i64 l, .bool hb, .int .i64 h]] w fun e w' => e = .returned (.bool (liesB k t lb l hb h)) ∧ Below w.heap.size w w' := by
  have M1 := mul_fits hk0 hk (goodV_bound hl).1 (goodV_bound hl).2
  have M2 := mul_fits hk0 hk (goodV_bound hh).1 (goodV_bound hh).2
  clear hl hh hk0 hk
  cases lb
  · cases hb
    · by_cases h1 : l ≤ h
      · by_cases h2 : wrap64 (k * l) ≤ t
        · have e : liesB k t false l false h = decide (t ≤ wrap64 (k * h)) := by rw [M1] at h2; unfold liesB; rw [M2]; simp [h1, h2]
          rw [e]
          clear e M1 M2
          go_enter Tryd.func61, Tryd.ntmps61
          go_wp2
          go_ret
          exact ⟨rfl, (Below.refl _ _).alloc (Nat.le_refl _) _⟩
        · have e : liesB k t false l false h = false := by rw [M1] at h2; unfold liesB; simp [h1, h2]
          rw [e]
          clear e M1 M2
          go_enter Tryd.func61, Tryd.ntmps61
          go_wp2
          go_ret
          exact ⟨rfl, (Below.refl _ _).alloc (Nat.le_refl _) _⟩
      · have e : liesB k t false l false h = false := by unfold liesB; simp [h1]
        rw [e]
        clear e
        go_enter Tryd.func61, Tryd.ntmps61
        go_wp2
        go_ret
        exact ⟨rfl, (Below.refl _ _).alloc (Nat.le_refl _) _⟩
    · have e : liesB k t false l true h = false := by unfold liesB; simp
      rw [e]
      clear e
      go_enter Tryd.func61, Tryd.ntmps61
      go_wp2
      go_ret
      exact ⟨rfl, (Below.refl _ _).alloc (Nat.le_refl _) _⟩
  · have e : liesB k t true l hb h = false := by unfold liesB; simp
    rw [e]
    clear e
    go_enter Tryd.func61, Tryd.ntmps61
    go_wp2
    go_ret
    exact ⟨rfl, (Below.refl _ _).alloc (Nat.le_refl _) _⟩

set_option maxRecDepth 4000 in
set_option maxHeartbeats 1600000 in
theorem impl_GoodSum (r k t : Int) (lb : Bool) (l : Int) (hb : Bool) (h : Int) (w : World) : Calls Tryd.prog 16 #[.agg #[.int .i64 r, .int .i64 k, .int .i64 t, .bool lb, .int .i64 l, .bool hb, .int .i64 h]] w fun e w' => e = .returned (.bool (goodS r k t lb l hb h)) ∧ Below w.heap.size w w' := by
  by_cases c1 : r < 0
  · have e : goodS r k t lb l hb h = false := by unfold goodS; rw [inB_no (by omega)]; rfl
    rw [e]
    clear e
    go_enter Tryd.func16, Tryd.ntmps16
    go_wp2
    go_ret
    exact ⟨rfl, (Below.refl _ _).alloc (Nat.le_refl _) _⟩
  by_cases c2 : 10000 < r
  · have e : goodS r k t lb l hb h = false := by unfold goodS; rw [inB_no (by omega)]; rfl
    rw [e]
    clear e
    go_enter Tryd.func16, Tryd.ntmps16
    go_wp2
    go_ret
    exact ⟨rfl, (Below.refl _ _).alloc (Nat.le_refl _) _⟩
  by_cases c3 : k < 0
  · have e : goodS r k t lb l hb h = false := by unfold goodS; rw [inB_no (n := k) (by omega), Bool.false_and, Bool.and_false]
    rw [e]
    clear e
    go_enter Tryd.func16, Tryd.ntmps16
    go_wp2
    go_ret
    exact ⟨rfl, (Below.refl _ _).alloc (Nat.le_refl _) _⟩
  by_cases c4 : r < k
  · have e : goodS r k t lb l hb h = false := by unfold goodS; rw [inB_no (n := k) (by omega), Bool.false_and, Bool.and_false]
    rw [e]
    clear e
    go_enter Tryd.func16, Tryd.ntmps16
    go_wp2
    go_ret
    exact ⟨rfl, (Below.refl _ _).alloc (Nat.le_refl _) _⟩
  by_cases c5 : t < -1000000
  · have e : goodS r k t lb l hb h = false := by unfold goodS; rw [inB_no (n := t) (by omega), Bool.false_and, Bool.and_false, Bool.and_false]
    rw [e]
    clear e
    go_enter Tryd.func16, Tryd.ntmps16
    go_wp2
    go_ret
    exact ⟨rfl, (Below.refl _ _).alloc (Nat.le_refl _) _⟩
  by_cases c6 : 1000000 < t
  · have e : goodS r k t lb l hb h = false := by unfold goodS; rw [inB_no (n := t) (by omega), Bool.false_and, Bool.and_false, Bool.and_false]
    rw [e]
    clear e
    go_enter Tryd.func16, Tryd.ntmps16
    go_wp2
    go_ret
    exact ⟨rfl, (Below.refl _ _).alloc (Nat.le_refl _) _⟩
  have e : goodS r k t lb l hb h = (goodV lb l && (goodV hb h && (if k = 0 then zeroB t lb hb else liesB k t lb l hb h))) := by unfold goodS; rw [inB_yes (n := r) (by omega), inB_yes (n := k) (by omega), inB_yes (n := t) (by omega)]; rfl
  rw [e]
  clear e
  have hk0 : 0 ≤ k := by omega
  have hk1 : k ≤ 10000 := by omega
  cases ha : goodV lb l
  · have Ha : Hid (goodV lb l = false) := ha
    clear ha hk0 hk1
    rw [Bool.false_and]
    go_enter Tryd.func16, Tryd.ntmps16
    go_wp2_with fail
    refine (impl_GoodValue lb l _).mono ?_
    rintro e w1 ⟨rfl, hb1⟩
    rw [Ha.out]
    go_wp2_with fail
    go_ret
    exact ⟨rfl, Frame.next ((Below.refl _ _).alloc (Nat.le_refl _) _) hb1 (by simp)⟩
  have Ha : Hid (goodV lb l = true) := ha
  rw [Bool.true_and]
  clear ha
  cases hc : goodV hb h
  · have Hc : Hid (goodV hb h = false) := hc
    clear hc hk0 hk1
    rw [Bool.false_and]
    go_enter Tryd.func16, Tryd.ntmps16
    go_wp2_with fail
    refine (impl_GoodValue lb l _).mono ?_
    rintro e w1 ⟨rfl, hb1⟩
    rw [Ha.out]
    have bc := Frame.bcell hb1
    have hsz := bc.2.2
    simp only [World.size_alloc] at hsz
    have p0 : w1.cell? ⟨w.heap.size, 0, none⟩ = some (.int .i64 r) := by rw [bc.1 _ _ (by simp; try omega)]; go_simp
    have p1 : w1.cell? ⟨w.heap.size, 1, none⟩ = some (.int .i64 k) := by rw [bc.1 _ _ (by simp; try omega)]; go_simp
    have p2 : w1.cell? ⟨w.heap.size, 2, none⟩ = some (.int .i64 t) := by rw [bc.1 _ _ (by simp; try omega)]; go_simp
    have p3 : w1.cell? ⟨w.heap.size, 3, none⟩ = some (.bool lb) := by rw [bc.1 _ _ (by simp; try omega)]; go_simp
    have p4 : w1.cell? ⟨w.heap.size, 4, none⟩ = some (.int .i64 l) := by rw [bc.1 _ _ (by simp; try omega)]; go_simp
    have p5 : w1.cell? ⟨w.heap.size, 5, none⟩ = some (.bool hb) := by rw [bc.1 _ _ (by simp; try omega)]; go_simp
    have p6 : w1.cell? ⟨w.heap.size, 6, none⟩ = some (.int .i64 h) := by rw [bc.1 _ _ (by simp; try omega)]; go_simp
    clear bc
    have B1 : Hid (Below w.heap.size w w1) := Frame.next ((Below.refl _ _).alloc (Nat.le_refl _) _) hb1 (by simp)
    clear hb1
    have F1 : Hid (w1.cell? ⟨w.heap.size, 0, none⟩ = some (.int .i64 r) ∧ w1.cell? ⟨w.heap.size, 1, none⟩ = some (.int .i64 k) ∧ w1.cell? ⟨w.heap.size, 2, none⟩ = some (.int .i64 t) ∧ w1.cell? ⟨w.heap.size, 3, none⟩ = some (.bool lb) ∧ w1.cell? ⟨w.heap.size, 4, none⟩ = some (.int .i64 l) ∧ w1.cell? ⟨w.heap.size, 5, none⟩ = some (.bool hb) ∧ w1.cell? ⟨w.heap.size, 6, none⟩ = some (.int .i64 h)) := ⟨p0, p1, p2, p3, p4, p5, p6⟩
    clear p0 p1 p2 p3 p4
    go_wp2_with fail
    refine (impl_GoodValue hb h _).mono ?_
    rintro e w2 ⟨rfl, hb2⟩
    rw [Hc.out]
    clear p5 p6
    have B2 : Hid (Below w.heap.size w w2) := Frame.next B1.out hb2 B1.out.size
    go_wp2_with fail
    go_ret
    exact ⟨rfl, B2.out⟩
  have Hc : Hid (goodV hb h = true) := hc
  rw [Bool.true_and]
  clear hc
  by_cases h0 : k = 0
  · rw [if_pos h0]
    have hk2 : (k == 0) = true := by rw [beq_iff_eq]; exact h0
    clear h0
    cases lb
    · have e : zeroB t false hb = false := rfl
      rw [e]
      go_enter Tryd.func16, Tryd.ntmps16
      go_wp2_with fail
      refine (impl_GoodValue false l _).mono ?_
      rintro e w1 ⟨rfl, hb1⟩
      rw [Ha.out]
      have bc := Frame.bcell hb1
      have hsz := bc.2.2
      simp only [World.size_alloc] at hsz
      have p0 : w1.cell? ⟨w.heap.size, 0, none⟩ = some (.int .i64 r) := by rw [bc.1 _ _ (by simp; try omega)]; go_simp
      have p1 : w1.cell? ⟨w.heap.size, 1, none⟩ = some (.int .i64 k) := by rw [bc.1 _ _ (by simp; try omega)]; go_simp
      have p2 : w1.cell? ⟨w.heap.size, 2, none⟩ = some (.int .i64 t) := by rw [bc.1 _ _ (by simp; try omega)]; go_simp
      have p3 : w1.cell? ⟨w.heap.size, 3, none⟩ = some (.bool false) := by rw [bc.1 _ _ (by simp; try omega)]; go_simp
      have p4 : w1.cell? ⟨w.heap.size, 4, none⟩ = some (.int .i64 l) := by rw [bc.1 _ _ (by simp; try omega)]; go_simp
      have p5 : w1.cell? ⟨w.heap.size, 5, none⟩ = some (.bool hb) := by rw [bc.1 _ _ (by simp; try omega)]; go_simp
      have p6 : w1.cell? ⟨w.heap.size, 6, none⟩ = some (.int .i64 h) := by rw [bc.1 _ _ (by simp; try omega)]; go_simp
      clear bc
      have B1 : Hid (Below w.heap.size w w1) := Frame.next ((Below.refl _ _).alloc (Nat.le_refl _) _) hb1 (by simp)
      clear hb1
      have F1 : Hid (w1.cell? ⟨w.heap.size, 0, none⟩ = some (.int .i64 r) ∧ w1.cell? ⟨w.heap.size, 1, none⟩ = some (.int .i64 k) ∧ w1.cell? ⟨w.heap.size, 2, none⟩ = some (.int .i64 t) ∧ w1.cell? ⟨w.heap.size, 3, none⟩ = some (.bool false) ∧ w1.cell? ⟨w.heap.size, 4, none⟩ = some (.int .i64 l) ∧ w1.cell? ⟨w.heap.size, 5, none⟩ = some (.bool hb) ∧ w1.cell? ⟨w.heap.size, 6, none⟩ = some (.int .i64 h)) := ⟨p0, p1, p2, p3, p4, p5, p6⟩
      clear p0 p1 p2 p3 p4
      go_wp2_with fail
      refine (impl_GoodValue hb h _).mono ?_
      rintro e w2 ⟨rfl, hb2⟩
      rw [Hc.out]
      clear p5 p6
      have B2 : Hid (Below w.heap.size w w2) := Frame.next B1.out hb2 B1.out.size
      obtain ⟨q0, q1, q2, q3, q4, q5, q6⟩ := F1.out
      have p0 : w2.cell? ⟨w.heap.size, 0, none⟩ = some (.int .i64 r) := Frame.held_cell hb2 q0
      have p1 : w2.cell? ⟨w.heap.size, 1, none⟩ = some (.int .i64 k) := Frame.held_cell hb2 q1
      have p2 : w2.cell? ⟨w.heap.size, 2, none⟩ = some (.int .i64 t) := Frame.held_cell hb2 q2
      have p3 : w2.cell? ⟨w.heap.size, 3, none⟩ = some (.bool false) := Frame.held_cell hb2 q3
      have p4 : w2.cell? ⟨w.heap.size, 4, none⟩ = some (.int .i64 l) := Frame.held_cell hb2 q4
      have p5 : w2.cell? ⟨w.heap.size, 5, none⟩ = some (.bool hb) := Frame.held_cell hb2 q5
      have p6 : w2.cell? ⟨w.heap.size, 6, none⟩ = some (.int .i64 h) := Frame.held_cell hb2 q6
      clear hb2 F1 q0 q1 q2 q3 q4 q5 q6
      go_wp2_with fail
      go_ret
      exact ⟨rfl, B2.out⟩
    · cases hb
      · have e : zeroB t true false = false := rfl
        rw [e]
        go_enter Tryd.func16, Tryd.ntmps16
        go_wp2_with fail
        refine (impl_GoodValue true l _).mono ?_
        rintro e w1 ⟨rfl, hb1⟩
        rw [Ha.out]
        have bc := Frame.bcell hb1
        have hsz := bc.2.2
        simp only [World.size_alloc] at hsz
        have p0 : w1.cell? ⟨w.heap.size, 0, none⟩ = some (.int .i64 r) := by rw [bc.1 _ _ (by simp; try omega)]; go_simp
        have p1 : w1.cell? ⟨w.heap.size, 1, none⟩ = some (.int .i64 k) := by rw [bc.1 _ _ (by simp; try omega)]; go_simp
        have p2 : w1.cell? ⟨w.heap.size, 2, none⟩ = some (.int .i64 t) := by rw [bc.1 _ _ (by simp; try omega)]; go_simp
        have p3 : w1.cell? ⟨w.heap.size, 3, none⟩ = some (.bool true) := by rw [bc.1 _ _ (by simp; try omega)]; go_simp
        have p4 : w1.cell? ⟨w.heap.size, 4, none⟩ = some (.int .i64 l) := by rw [bc.1 _ _ (by simp; try omega)]; go_simp
        have p5 : w1.cell? ⟨w.heap.size, 5, none⟩ = some (.bool false) := by rw [bc.1 _ _ (by simp; try omega)]; go_simp
        have p6 : w1.cell? ⟨w.heap.size, 6, none⟩ = some (.int .i64 h) := by rw [bc.1 _ _ (by simp; try omega)]; go_simp
        clear bc
        have B1 : Hid (Below w.heap.size w w1) := Frame.next ((Below.refl _ _).alloc (Nat.le_refl _) _) hb1 (by simp)
        clear hb1
        have F1 : Hid (w1.cell? ⟨w.heap.size, 0, none⟩ = some (.int .i64 r) ∧ w1.cell? ⟨w.heap.size, 1, none⟩ = some (.int .i64 k) ∧ w1.cell? ⟨w.heap.size, 2, none⟩ = some (.int .i64 t) ∧ w1.cell? ⟨w.heap.size, 3, none⟩ = some (.bool true) ∧ w1.cell? ⟨w.heap.size, 4, none⟩ = some (.int .i64 l) ∧ w1.cell? ⟨w.heap.size, 5, none⟩ = some (.bool false) ∧ w1.cell? ⟨w.heap.size, 6, none⟩ = some (.int .i64 h)) := ⟨p0, p1, p2, p3, p4, p5, p6⟩
        clear p0 p1 p2 p3 p4
        go_wp2_with fail
        refine (impl_GoodValue false h _).mono ?_
        rintro e w2 ⟨rfl, hb2⟩
        rw [Hc.out]
        clear p5 p6
        have B2 : Hid (Below w.heap.size w w2) := Frame.next B1.out hb2 B1.out.size
        obtain ⟨q0, q1, q2, q3, q4, q5, q6⟩ := F1.out
        have p0 : w2.cell? ⟨w.heap.size, 0, none⟩ = some (.int .i64 r) := Frame.held_cell hb2 q0
        have p1 : w2.cell? ⟨w.heap.size, 1, none⟩ = some (.int .i64 k) := Frame.held_cell hb2 q1
        have p2 : w2.cell? ⟨w.heap.size, 2, none⟩ = some (.int .i64 t) := Frame.held_cell hb2 q2
        have p3 : w2.cell? ⟨w.heap.size, 3, none⟩ = some (.bool true) := Frame.held_cell hb2 q3
        have p4 : w2.cell? ⟨w.heap.size, 4, none⟩ = some (.int .i64 l) := Frame.held_cell hb2 q4
        have p5 : w2.cell? ⟨w.heap.size, 5, none⟩ = some (.bool false) := Frame.held_cell hb2 q5
        have p6 : w2.cell? ⟨w.heap.size, 6, none⟩ = some (.int .i64 h) := Frame.held_cell hb2 q6
        clear hb2 F1 q0 q1 q2 q3 q4 q5 q6
        go_wp2_with fail
        go_ret
        exact ⟨rfl, B2.out⟩
      · have e : zeroB t true true = (t == 0) := rfl
        rw [e]
        go_enter Tryd.func16, Tryd.ntmps16
        go_wp2_with fail
        refine (impl_GoodValue true l _).mono ?_
        rintro e w1 ⟨rfl, hb1⟩
        rw [Ha.out]
        have bc := Frame.bcell hb1
        have hsz := bc.2.2
        simp only [World.size_alloc] at hsz
        have p0 : w1.cell? ⟨w.heap.size, 0, none⟩ = some (.int .i64 r) := by rw [bc.1 _ _ (by simp; try omega)]; go_simp
        have p1 : w1.cell? ⟨w.heap.size, 1, none⟩ = some (.int .i64 k) := by rw [bc.1 _ _ (by simp; try omega)]; go_simp
        have p2 : w1.cell? ⟨w.heap.size, 2, none⟩ = some (.int .i64 t) := by rw [bc.1 _ _ (by simp; try omega)]; go_simp
        have p3 : w1.cell? ⟨w.heap.size, 3, none⟩ = some (.bool true) := by rw [bc.1 _ _ (by simp; try omega)]; go_simp
        have p4 : w1.cell? ⟨w.heap.size, 4, none⟩ = some (.int .i64 l) := by rw [bc.1 _ _ (by simp; try omega)]; go_simp
        have p5 : w1.cell? ⟨w.heap.size, 5, none⟩ = some (.bool true) := by rw [bc.1 _ _ (by simp; try omega)]; go_simp
        have p6 : w1.cell? ⟨w.heap.size, 6, none⟩ = some (.int .i64 h) := by rw [bc.1 _ _ (by simp; try omega)]; go_simp
        clear bc
        have B1 : Hid (Below w.heap.size w w1) := Frame.next ((Below.refl _ _).alloc (Nat.le_refl _) _) hb1 (by simp)
        clear hb1
        have F1 : Hid (w1.cell? ⟨w.heap.size, 0, none⟩ = some (.int .i64 r) ∧ w1.cell? ⟨w.heap.size, 1, none⟩ = some (.int .i64 k) ∧ w1.cell? ⟨w.heap.size, 2, none⟩ = some (.int .i64 t) ∧ w1.cell? ⟨w.heap.size, 3, none⟩ = some (.bool true) ∧ w1.cell? ⟨w.heap.size, 4, none⟩ = some (.int .i64 l) ∧ w1.cell? ⟨w.heap.size, 5, none⟩ = some (.bool true) ∧ w1.cell? ⟨w.heap.size, 6, none⟩ = some (.int .i64 h)) := ⟨p0, p1, p2, p3, p4, p5, p6⟩
        clear p0 p1 p2 p3 p4
        go_wp2_with fail
        refine (impl_GoodValue true h _).mono ?_
        rintro e w2 ⟨rfl, hb2⟩
        rw [Hc.out]
        clear p5 p6
        have B2 : Hid (Below w.heap.size w w2) := Frame.next B1.out hb2 B1.out.size
        obtain ⟨q0, q1, q2, q3, q4, q5, q6⟩ := F1.out
        have p0 : w2.cell? ⟨w.heap.size, 0, none⟩ = some (.int .i64 r) := Frame.held_cell hb2 q0
        have p1 : w2.cell? ⟨w.heap.size, 1, none⟩ = some (.int .i64 k) := Frame.held_cell hb2 q1
        have p2 : w2.cell? ⟨w.heap.size, 2, none⟩ = some (.int .i64 t) := Frame.held_cell hb2 q2
        have p3 : w2.cell? ⟨w.heap.size, 3, none⟩ = some (.bool true) := Frame.held_cell hb2 q3
        have p4 : w2.cell? ⟨w.heap.size, 4, none⟩ = some (.int .i64 l) := Frame.held_cell hb2 q4
        have p5 : w2.cell? ⟨w.heap.size, 5, none⟩ = some (.bool true) := Frame.held_cell hb2 q5
        have p6 : w2.cell? ⟨w.heap.size, 6, none⟩ = some (.int .i64 h) := Frame.held_cell hb2 q6
        clear hb2 F1 q0 q1 q2 q3 q4 q5 q6
        go_wp2_with fail
        go_ret
        exact ⟨rfl, B2.out⟩
  · rw [if_neg h0]
    have hk2 : (k == 0) = false := by rw [beq_eq_false_iff_ne]; exact h0
    clear h0
    go_enter Tryd.func16, Tryd.ntmps16
    go_wp2_with fail
    refine (impl_GoodValue lb l _).mono ?_
    rintro e w1 ⟨rfl, hb1⟩
    rw [Ha.out]
    have bc := Frame.bcell hb1
    have hsz := bc.2.2
    simp only [World.size_alloc] at hsz
    have p0 : w1.cell? ⟨w.heap.size, 0, none⟩ = some (.int .i64 r) := by rw [bc.1 _ _ (by simp; try omega)]; go_simp
    have p1 : w1.cell? ⟨w.heap.size, 1, none⟩ = some (.int .i64 k) := by rw [bc.1 _ _ (by simp; try omega)]; go_simp
    have p2 : w1.cell? ⟨w.heap.size, 2, none⟩ = some (.int .i64 t) := by rw [bc.1 _ _ (by simp; try omega)]; go_simp
    have p3 : w1.cell? ⟨w.heap.size, 3, none⟩ = some (.bool lb) := by rw [bc.1 _ _ (by simp; try omega)]; go_simp
    have p4 : w1.cell? ⟨w.heap.size, 4, none⟩ = some (.int .i64 l) := by rw [bc.1 _ _ (by simp; try omega)]; go_simp
    have p5 : w1.cell? ⟨w.heap.size, 5, none⟩ = some (.bool hb) := by rw [bc.1 _ _ (by simp; try omega)]; go_simp
    have p6 : w1.cell? ⟨w.heap.size, 6, none⟩ = some (.int .i64 h) := by rw [bc.1 _ _ (by simp; try omega)]; go_simp
    clear bc
    have B1 : Hid (Below w.heap.size w w1) := Frame.next ((Below.refl _ _).alloc (Nat.le_refl _) _) hb1 (by simp)
    clear hb1
    have F1 : Hid (w1.cell? ⟨w.heap.size, 0, none⟩ = some (.int .i64 r) ∧ w1.cell? ⟨w.heap.size, 1, none⟩ = some (.int .i64 k) ∧ w1.cell? ⟨w.heap.size, 2, none⟩ = some (.int .i64 t) ∧ w1.cell? ⟨w.heap.size, 3, none⟩ = some (.bool lb) ∧ w1.cell? ⟨w.heap.size, 4, none⟩ = some (.int .i64 l) ∧ w1.cell? ⟨w.heap.size, 5, none⟩ = some (.bool hb) ∧ w1.cell? ⟨w.heap.size, 6, none⟩ = some (.int .i64 h)) := ⟨p0, p1, p2, p3, p4, p5, p6⟩
    clear p0 p1 p2 p3 p4
    go_wp2_with fail
    refine (impl_GoodValue hb h _).mono ?_
    rintro e w2 ⟨rfl, hb2⟩
    rw [Hc.out]
    clear p5 p6
    have B2 : Hid (Below w.heap.size w w2) := Frame.next B1.out hb2 B1.out.size
    obtain ⟨q0, q1, q2, q3, q4, q5, q6⟩ := F1.out
    have p0 : w2.cell? ⟨w.heap.size, 0, none⟩ = some (.int .i64 r) := Frame.held_cell hb2 q0
    have p1 : w2.cell? ⟨w.heap.size, 1, none⟩ = some (.int .i64 k) := Frame.held_cell hb2 q1
    have p2 : w2.cell? ⟨w.heap.size, 2, none⟩ = some (.int .i64 t) := Frame.held_cell hb2 q2
    have p3 : w2.cell? ⟨w.heap.size, 3, none⟩ = some (.bool lb) := Frame.held_cell hb2 q3
    have p4 : w2.cell? ⟨w.heap.size, 4, none⟩ = some (.int .i64 l) := Frame.held_cell hb2 q4
    have p5 : w2.cell? ⟨w.heap.size, 5, none⟩ = some (.bool hb) := Frame.held_cell hb2 q5
    have p6 : w2.cell? ⟨w.heap.size, 6, none⟩ = some (.int .i64 h) := Frame.held_cell hb2 q6
    clear hb2 F1 q0 q1 q2 q3 q4 q5 q6
    go_wp2_with fail
    refine (lies r k t lb l hb h _ hk0 hk1 Ha.out Hc.out).mono ?_
    rintro e w3 ⟨rfl, hb3⟩
    go_wp2_with fail
    go_ret
    exact ⟨rfl, Frame.next B2.out hb3 B2.out.size⟩

set_option maxRecDepth 4000 in
set_option maxHeartbeats 1600000 in
theorem spec_GoodSum (r k t : Int) (lb : Bool) (l : Int) (hb : Bool) (h : Int) (w : World) : Calls Tryd.prog 21 #[.agg #[.int .i64 r, .int .i64 k, .int .i64 t, .bool lb, .int .i64 l, .bool hb, .int .i64 h]] w fun e w' => e = .returned (.bool (goodS r k t lb l hb h)) ∧ Below w.heap.size w w' := by
  show Calls _ _ _ _ fun e w' => e = .returned (.bool (inB r 0 10000 && (inB k 0 r && (inB t (-1000000) 1000000 && (goodV lb l && (goodV hb h && (if k = 0 then zeroB t lb hb else liesB k t lb l hb h))))))) ∧ Below w.heap.size w w'
  cases h1 : inB r 0 10000
  · have H1 : Hid (inB r 0 10000 = false) := h1
    clear h1
    rw [Bool.false_and]
    go_enter Tryd.func21, Tryd.ntmps21
    go_wp2_with fail
    refine (spec_In r 0 10000 _).mono ?_
    rintro e w' ⟨rfl, rfl⟩
    rw [H1.out]
    go_wp2_with fail
    go_ret
    exact ⟨rfl, (Below.refl _ _).alloc (Nat.le_refl _) _⟩
  have H1 : Hid (inB r 0 10000 = true) := h1
  clear h1
  rw [Bool.true_and]
  cases h2 : inB k 0 r
  · have H2 : Hid (inB k 0 r = false) := h2
    clear h2
    rw [Bool.false_and]
    go_enter Tryd.func21, Tryd.ntmps21
    go_wp2_with fail
    refine (spec_In r 0 10000 _).mono ?_
    rintro e w' ⟨rfl, rfl⟩
    rw [H1.out]
    go_wp2_with fail
    refine (spec_In k 0 r _).mono ?_
    rintro e w' ⟨rfl, rfl⟩
    rw [H2.out]
    go_wp2_with fail
    go_ret
    exact ⟨rfl, (Below.refl _ _).alloc (Nat.le_refl _) _⟩
  have H2 : Hid (inB k 0 r = true) := h2
  clear h2
  rw [Bool.true_and]
  cases h3 : inB t (-1000000) 1000000
  · have H3 : Hid (inB t (-1000000) 1000000 = false) := h3
    clear h3
    rw [Bool.false_and]
    go_enter Tryd.func21, Tryd.ntmps21
    go_wp2_with fail
    refine (spec_In r 0 10000 _).mono ?_
    rintro e w' ⟨rfl, rfl⟩
    rw [H1.out]
    go_wp2_with fail
    refine (spec_In k 0 r _).mono ?_
    rintro e w' ⟨rfl, rfl⟩
    rw [H2.out]
    go_wp2_with fail
    refine (spec_In t (-1000000) 1000000 _).mono ?_
    rintro e w' ⟨rfl, rfl⟩
    rw [H3.out]
    go_wp2_with fail
    go_ret
    exact ⟨rfl, (Below.refl _ _).alloc (Nat.le_refl _) _⟩
  have H3 : Hid (inB t (-1000000) 1000000 = true) := h3
  clear h3
  rw [Bool.true_and]
  cases h4 : goodV lb l
  · have H4 : Hid (goodV lb l = false) := h4
    clear h4
    rw [Bool.false_and]
    go_enter Tryd.func21, Tryd.ntmps21
    go_wp2_with fail
    refine (spec_In r 0 10000 _).mono ?_
    rintro e w' ⟨rfl, rfl⟩
    rw [H1.out]
    go_wp2_with fail
    refine (spec_In k 0 r _).mono ?_
    rintro e w' ⟨rfl, rfl⟩
    rw [H2.out]
    go_wp2_with fail
    refine (spec_In t (-1000000) 1000000 _).mono ?_
    rintro e w' ⟨rfl, rfl⟩
    rw [H3.out]
    go_wp2_with fail
    refine (spec_GoodValue lb l _).mono ?_
    rintro e w1 ⟨rfl, hb1⟩
    have bc := Frame.bcell hb1
    have hsz := bc.2.2
    simp only [World.size_alloc] at hsz
    have p0 : w1.cell? ⟨w.heap.size, 0, none⟩ = some (.int .i64 r) := by rw [bc.1 _ _ (by simp; try omega)]; go_simp
    have p1 : w1.cell? ⟨w.heap.size, 1, none⟩ = some (.int .i64 k) := by rw [bc.1 _ _ (by simp; try omega)]; go_simp
    have p2 : w1.cell? ⟨w.heap.size, 2, none⟩ = some (.int .i64 t) := by rw [bc.1 _ _ (by simp; try omega)]; go_simp
    have p3 : w1.cell? ⟨w.heap.size, 3, none⟩ = some (.bool lb) := by rw [bc.1 _ _ (by simp; try omega)]; go_simp
    have p4 : w1.cell? ⟨w.heap.size, 4, none⟩ = some (.int .i64 l) := by rw [bc.1 _ _ (by simp; try omega)]; go_simp
    have p5 : w1.cell? ⟨w.heap.size, 5, none⟩ = some (.bool hb) := by rw [bc.1 _ _ (by simp; try omega)]; go_simp
    have p6 : w1.cell? ⟨w.heap.size, 6, none⟩ = some (.int .i64 h) := by rw [bc.1 _ _ (by simp; try omega)]; go_simp
    clear bc
    have B1 : Hid (Below w.heap.size w w1) := Frame.next ((Below.refl _ _).alloc (Nat.le_refl _) _) hb1 (by simp)
    clear hb1
    have F1 : Hid (w1.cell? ⟨w.heap.size, 0, none⟩ = some (.int .i64 r) ∧ w1.cell? ⟨w.heap.size, 1, none⟩ = some (.int .i64 k) ∧ w1.cell? ⟨w.heap.size, 2, none⟩ = some (.int .i64 t) ∧ w1.cell? ⟨w.heap.size, 3, none⟩ = some (.bool lb) ∧ w1.cell? ⟨w.heap.size, 4, none⟩ = some (.int .i64 l) ∧ w1.cell? ⟨w.heap.size, 5, none⟩ = some (.bool hb) ∧ w1.cell? ⟨w.heap.size, 6, none⟩ = some (.int .i64 h)) := ⟨p0, p1, p2, p3, p4, p5, p6⟩
    clear p0 p1 p2 p3 p4
    rw [H4.out]
    go_wp2_with fail
    go_ret
    exact ⟨rfl, B1.out⟩
  have H4 : Hid (goodV lb l = true) := h4
  clear h4
  rw [Bool.true_and]
  cases h5 : goodV hb h
  · have H5 : Hid (goodV hb h = false) := h5
    clear h5
    rw [Bool.false_and]
    go_enter Tryd.func21, Tryd.ntmps21
    go_wp2_with fail
    refine (spec_In r 0 10000 _).mono ?_
    rintro e w' ⟨rfl, rfl⟩
    rw [H1.out]
    go_wp2_with fail
    refine (spec_In k 0 r _).mono ?_
    rintro e w' ⟨rfl, rfl⟩
    rw [H2.out]
    go_wp2_with fail
    refine (spec_In t (-1000000) 1000000 _).mono ?_
    rintro e w' ⟨rfl, rfl⟩
    rw [H3.out]
    go_wp2_with fail
    refine (spec_GoodValue lb l _).mono ?_
    rintro e w1 ⟨rfl, hb1⟩
    have bc := Frame.bcell hb1
    have hsz := bc.2.2
    simp only [World.size_alloc] at hsz
    have p0 : w1.cell? ⟨w.heap.size, 0, none⟩ = some (.int .i64 r) := by rw [bc.1 _ _ (by simp; try omega)]; go_simp
    have p1 : w1.cell? ⟨w.heap.size, 1, none⟩ = some (.int .i64 k) := by rw [bc.1 _ _ (by simp; try omega)]; go_simp
    have p2 : w1.cell? ⟨w.heap.size, 2, none⟩ = some (.int .i64 t) := by rw [bc.1 _ _ (by simp; try omega)]; go_simp
    have p3 : w1.cell? ⟨w.heap.size, 3, none⟩ = some (.bool lb) := by rw [bc.1 _ _ (by simp; try omega)]; go_simp
    have p4 : w1.cell? ⟨w.heap.size, 4, none⟩ = some (.int .i64 l) := by rw [bc.1 _ _ (by simp; try omega)]; go_simp
    have p5 : w1.cell? ⟨w.heap.size, 5, none⟩ = some (.bool hb) := by rw [bc.1 _ _ (by simp; try omega)]; go_simp
    have p6 : w1.cell? ⟨w.heap.size, 6, none⟩ = some (.int .i64 h) := by rw [bc.1 _ _ (by simp; try omega)]; go_simp
    clear bc
    have B1 : Hid (Below w.heap.size w w1) := Frame.next ((Below.refl _ _).alloc (Nat.le_refl _) _) hb1 (by simp)
    clear hb1
    have F1 : Hid (w1.cell? ⟨w.heap.size, 0, none⟩ = some (.int .i64 r) ∧ w1.cell? ⟨w.heap.size, 1, none⟩ = some (.int .i64 k) ∧ w1.cell? ⟨w.heap.size, 2, none⟩ = some (.int .i64 t) ∧ w1.cell? ⟨w.heap.size, 3, none⟩ = some (.bool lb) ∧ w1.cell? ⟨w.heap.size, 4, none⟩ = some (.int .i64 l) ∧ w1.cell? ⟨w.heap.size, 5, none⟩ = some (.bool hb) ∧ w1.cell? ⟨w.heap.size, 6, none⟩ = some (.int .i64 h)) := ⟨p0, p1, p2, p3, p4, p5, p6⟩
    clear p0 p1 p2 p3 p4
    rw [H4.out]
    go_wp2_with fail
    refine (spec_GoodValue hb h _).mono ?_
    rintro e w2 ⟨rfl, hb2⟩
    clear p5 p6
    have B2 : Hid (Below w.heap.size w w2) := Frame.next B1.out hb2 B1.out.size
    obtain ⟨q0, q1, q2, q3, q4, q5, q6⟩ := F1.out
    have p0 : w2.cell? ⟨w.heap.size, 0, none⟩ = some (.int .i64 r) := Frame.held_cell hb2 q0
    have p1 : w2.cell? ⟨w.heap.size, 1, none⟩ = some (.int .i64 k) := Frame.held_cell hb2 q1
    have p2 : w2.cell? ⟨w.heap.size, 2, none⟩ = some (.int .i64 t) := Frame.held_cell hb2 q2
    have p3 : w2.cell? ⟨w.heap.size, 3, none⟩ = some (.bool lb) := Frame.held_cell hb2 q3
    have p4 : w2.cell? ⟨w.heap.size, 4, none⟩ = some (.int .i64 l) := Frame.held_cell hb2 q4
    have p5 : w2.cell? ⟨w.heap.size, 5, none⟩ = some (.bool hb) := Frame.held_cell hb2 q5
    have p6 : w2.cell? ⟨w.heap.size, 6, none⟩ = some (.int .i64 h) := Frame.held_cell hb2 q6
    clear hb2 F1 q0 q1 q2 q3 q4 q5 q6
    rw [H5.out]
    go_wp2_with fail
    go_ret
    exact ⟨rfl, B2.out⟩
  have H5 : Hid (goodV hb h = true) := h5
  clear h5
  rw [Bool.true_and]
  by_cases h0 : k = 0
  · rw [if_pos h0]
    have hk2 : (k == 0) = true := by rw [beq_iff_eq]; exact h0
    clear h0
    cases lb
    · have e : zeroB t false hb = false := rfl
      rw [e]
      go_enter Tryd.func21, Tryd.ntmps21
      go_wp2_with fail
      refine (spec_In r 0 10000 _).mono ?_
      rintro e w' ⟨rfl, rfl⟩
      rw [H1.out]
      go_wp2_with fail
      refine (spec_In k 0 r _).mono ?_
      rintro e w' ⟨rfl, rfl⟩
      rw [H2.out]
      go_wp2_with fail
      refine (spec_In t (-1000000) 1000000 _).mono ?_
      rintro e w' ⟨rfl, rfl⟩
      rw [H3.out]
      go_wp2_with fail
      refine (spec_GoodValue false l _).mono ?_
      rintro e w1 ⟨rfl, hb1⟩
      have bc := Frame.bcell hb1
      have hsz := bc.2.2
      simp only [World.size_alloc] at hsz
      have p0 : w1.cell? ⟨w.heap.size, 0, none⟩ = some (.int .i64 r) := by rw [bc.1 _ _ (by simp; try omega)]; go_simp
      have p1 : w1.cell? ⟨w.heap.size, 1, none⟩ = some (.int .i64 k) := by rw [bc.1 _ _ (by simp; try omega)]; go_simp
      have p2 : w1.cell? ⟨w.heap.size, 2, none⟩ = some (.int .i64 t) := by rw [bc.1 _ _ (by simp; try omega)]; go_simp
      have p3 : w1.cell? ⟨w.heap.size, 3, none⟩ = some (.bool false) := by rw [bc.1 _ _ (by simp; try omega)]; go_simp
      have p4 : w1.cell? ⟨w.heap.size, 4, none⟩ = some (.int .i64 l) := by rw [bc.1 _ _ (by simp; try omega)]; go_simp
      have p5 : w1.cell? ⟨w.heap.size, 5, none⟩ = some (.bool hb) := by rw [bc.1 _ _ (by simp; try omega)]; go_simp
      have p6 : w1.cell? ⟨w.heap.size, 6, none⟩ = some (.int .i64 h) := by rw [bc.1 _ _ (by simp; try omega)]; go_simp
      clear bc
      have B1 : Hid (Below w.heap.size w w1) := Frame.next ((Below.refl _ _).alloc (Nat.le_refl _) _) hb1 (by simp)
      clear hb1
      have F1 : Hid (w1.cell? ⟨w.heap.size, 0, none⟩ = some (.int .i64 r) ∧ w1.cell? ⟨w.heap.size, 1, none⟩ = some (.int .i64 k) ∧ w1.cell? ⟨w.heap.size, 2, none⟩ = some (.int .i64 t) ∧ w1.cell? ⟨w.heap.size, 3, none⟩ = some (.bool false) ∧ w1.cell? ⟨w.heap.size, 4, none⟩ = some (.int .i64 l) ∧ w1.cell? ⟨w.heap.size, 5, none⟩ = some (.bool hb) ∧ w1.cell? ⟨w.heap.size, 6, none⟩ = some (.int .i64 h)) := ⟨p0, p1, p2, p3, p4, p5, p6⟩
      clear p0 p1 p2 p3 p4
      rw [H4.out]
      go_wp2_with fail
      refine (spec_GoodValue hb h _).mono ?_
      rintro e w2 ⟨rfl, hb2⟩
      clear p5 p6
      have B2 : Hid (Below w.heap.size w w2) := Frame.next B1.out hb2 B1.out.size
      obtain ⟨q0, q1, q2, q3, q4, q5, q6⟩ := F1.out
      have p0 : w2.cell? ⟨w.heap.size, 0, none⟩ = some (.int .i64 r) := Frame.held_cell hb2 q0
      have p1 : w2.cell? ⟨w.heap.size, 1, none⟩ = some (.int .i64 k) := Frame.held_cell hb2 q1
      have p2 : w2.cell? ⟨w.heap.size, 2, none⟩ = some (.int .i64 t) := Frame.held_cell hb2 q2
      have p3 : w2.cell? ⟨w.heap.size, 3, none⟩ = some (.bool false) := Frame.held_cell hb2 q3
      have p4 : w2.cell? ⟨w.heap.size, 4, none⟩ = some (.int .i64 l) := Frame.held_cell hb2 q4
      have p5 : w2.cell? ⟨w.heap.size, 5, none⟩ = some (.bool hb) := Frame.held_cell hb2 q5
      have p6 : w2.cell? ⟨w.heap.size, 6, none⟩ = some (.int .i64 h) := Frame.held_cell hb2 q6
      clear hb2 F1 q0 q1 q2 q3 q4 q5 q6
      rw [H5.out]
      go_wp2_with fail
      go_ret
      exact ⟨rfl, B2.out⟩
    · cases hb
      · have e : zeroB t true false = false := rfl
        rw [e]
        go_enter Tryd.func21, Tryd.ntmps21
        go_wp2_with fail
        refine (spec_In r 0 10000 _).mono ?_
        rintro e w' ⟨rfl, rfl⟩
        rw [H1.out]
        go_wp2_with fail
        refine (spec_In k 0 r _).mono ?_
        rintro e w' ⟨rfl, rfl⟩
        rw [H2.out]
        go_wp2_with fail
        refine (spec_In t (-1000000) 1000000 _).mono ?_
        rintro e w' ⟨rfl, rfl⟩
        rw [H3.out]
        go_wp2_with fail
        refine (spec_GoodValue true l _).mono ?_
        rintro e w1 ⟨rfl, hb1⟩
        have bc := Frame.bcell hb1
        have hsz := bc.2.2
        simp only [World.size_alloc] at hsz
        have p0 : w1.cell? ⟨w.heap.size, 0, none⟩ = some (.int .i64 r) := by rw [bc.1 _ _ (by simp; try omega)]; go_simp
        have p1 : w1.cell? ⟨w.heap.size, 1, none⟩ = some (.int .i64 k) := by rw [bc.1 _ _ (by simp; try omega)]; go_simp
        have p2 : w1.cell? ⟨w.heap.size, 2, none⟩ = some (.int .i64 t) := by rw [bc.1 _ _ (by simp; try omega)]; go_simp
        have p3 : w1.cell? ⟨w.heap.size, 3, none⟩ = some (.bool true) := by rw [bc.1 _ _ (by simp; try omega)]; go_simp
        have p4 : w1.cell? ⟨w.heap.size, 4, none⟩ = some (.int .i64 l) := by rw [bc.1 _ _ (by simp; try omega)]; go_simp
        have p5 : w1.cell? ⟨w.heap.size, 5, none⟩ = some (.bool false) := by rw [bc.1 _ _ (by simp; try omega)]; go_simp
        have p6 : w1.cell? ⟨w.heap.size, 6, none⟩ = some (.int .i64 h) := by rw [bc.1 _ _ (by simp; try omega)]; go_simp
        clear bc
        have B1 : Hid (Below w.heap.size w w1) := Frame.next ((Below.refl _ _).alloc (Nat.le_refl _) _) hb1 (by simp)
        clear hb1
        have F1 : Hid (w1.cell? ⟨w.heap.size, 0, none⟩ = some (.int .i64 r) ∧ w1.cell? ⟨w.heap.size, 1, none⟩ = some (.int .i64 k) ∧ w1.cell? ⟨w.heap.size, 2, none⟩ = some (.int .i64 t) ∧ w1.cell? ⟨w.heap.size, 3, none⟩ = some (.bool true) ∧ w1.cell? ⟨w.heap.size, 4, none⟩ = some (.int .i64 l) ∧ w1.cell? ⟨w.heap.size, 5, none⟩ = some (.bool false) ∧ w1.cell? ⟨w.heap.size, 6, none⟩ = some (.int .i64 h)) := ⟨p0, p1, p2, p3, p4, p5, p6⟩
        clear p0 p1 p2 p3 p4
        rw [H4.out]
        go_wp2_with fail
        refine (spec_GoodValue false h _).mono ?_
        rintro e w2 ⟨rfl, hb2⟩
        clear p5 p6
        have B2 : Hid (Below w.heap.size w w2) := Frame.next B1.out hb2 B1.out.size
        obtain ⟨q0, q1, q2, q3, q4, q5, q6⟩ := F1.out
        have p0 : w2.cell? ⟨w.heap.size, 0, none⟩ = some (.int .i64 r) := Frame.held_cell hb2 q0
        have p1 : w2.cell? ⟨w.heap.size, 1, none⟩ = some (.int .i64 k) := Frame.held_cell hb2 q1
        have p2 : w2.cell? ⟨w.heap.size, 2, none⟩ = some (.int .i64 t) := Frame.held_cell hb2 q2
        have p3 : w2.cell? ⟨w.heap.size, 3, none⟩ = some (.bool true) := Frame.held_cell hb2 q3
        have p4 : w2.cell? ⟨w.heap.size, 4, none⟩ = some (.int .i64 l) := Frame.held_cell hb2 q4
        have p5 : w2.cell? ⟨w.heap.size, 5, none⟩ = some (.bool false) := Frame.held_cell hb2 q5
        have p6 : w2.cell? ⟨w.heap.size, 6, none⟩ = some (.int .i64 h) := Frame.held_cell hb2 q6
        clear hb2 F1 q0 q1 q2 q3 q4 q5 q6
        rw [H5.out]
        go_wp2_with fail
        go_ret
        exact ⟨rfl, B2.out⟩
      · have e : zeroB t true true = (t == 0) := rfl
        rw [e]
        go_enter Tryd.func21, Tryd.ntmps21
        go_wp2_with fail
        refine (spec_In r 0 10000 _).mono ?_
        rintro e w' ⟨rfl, rfl⟩
        rw [H1.out]
        go_wp2_with fail
        refine (spec_In k 0 r _).mono ?_
        rintro e w' ⟨rfl, rfl⟩
        rw [H2.out]
        go_wp2_with fail
        refine (spec_In t (-1000000) 1000000 _).mono ?_
        rintro e w' ⟨rfl, rfl⟩
        rw [H3.out]
        go_wp2_with fail
        refine (spec_GoodValue true l _).mono ?_
        rintro e w1 ⟨rfl, hb1⟩
        have bc := Frame.bcell hb1
        have hsz := bc.2.2
        simp only [World.size_alloc] at hsz
        have p0 : w1.cell? ⟨w.heap.size, 0, none⟩ = some (.int .i64 r) := by rw [bc.1 _ _ (by simp; try omega)]; go_simp
        have p1 : w1.cell? ⟨w.heap.size, 1, none⟩ = some (.int .i64 k) := by rw [bc.1 _ _ (by simp; try omega)]; go_simp
        have p2 : w1.cell? ⟨w.heap.size, 2, none⟩ = some (.int .i64 t) := by rw [bc.1 _ _ (by simp; try omega)]; go_simp
        have p3 : w1.cell? ⟨w.heap.size, 3, none⟩ = some (.bool true) := by rw [bc.1 _ _ (by simp; try omega)]; go_simp
        have p4 : w1.cell? ⟨w.heap.size, 4, none⟩ = some (.int .i64 l) := by rw [bc.1 _ _ (by simp; try omega)]; go_simp
        have p5 : w1.cell? ⟨w.heap.size, 5, none⟩ = some (.bool true) := by rw [bc.1 _ _ (by simp; try omega)]; go_simp
        have p6 : w1.cell? ⟨w.heap.size, 6, none⟩ = some (.int .i64 h) := by rw [bc.1 _ _ (by simp; try omega)]; go_simp
        clear bc
        have B1 : Hid (Below w.heap.size w w1) := Frame.next ((Below.refl _ _).alloc (Nat.le_refl _) _) hb1 (by simp)
        clear hb1
        have F1 : Hid (w1.cell? ⟨w.heap.size, 0, none⟩ = some (.int .i64 r) ∧ w1.cell? ⟨w.heap.size, 1, none⟩ = some (.int .i64 k) ∧ w1.cell? ⟨w.heap.size, 2, none⟩ = some (.int .i64 t) ∧ w1.cell? ⟨w.heap.size, 3, none⟩ = some (.bool true) ∧ w1.cell? ⟨w.heap.size, 4, none⟩ = some (.int .i64 l) ∧ w1.cell? ⟨w.heap.size, 5, none⟩ = some (.bool true) ∧ w1.cell? ⟨w.heap.size, 6, none⟩ = some (.int .i64 h)) := ⟨p0, p1, p2, p3, p4, p5, p6⟩
        clear p0 p1 p2 p3 p4
        rw [H4.out]
        go_wp2_with fail
        refine (spec_GoodValue true h _).mono ?_
        rintro e w2 ⟨rfl, hb2⟩
        clear p5 p6
        have B2 : Hid (Below w.heap.size w w2) := Frame.next B1.out hb2 B1.out.size
        obtain ⟨q0, q1, q2, q3, q4, q5, q6⟩ := F1.out
        have p0 : w2.cell? ⟨w.heap.size, 0, none⟩ = some (.int .i64 r) := Frame.held_cell hb2 q0
        have p1 : w2.cell? ⟨w.heap.size, 1, none⟩ = some (.int .i64 k) := Frame.held_cell hb2 q1
        have p2 : w2.cell? ⟨w.heap.size, 2, none⟩ = some (.int .i64 t) := Frame.held_cell hb2 q2
        have p3 : w2.cell? ⟨w.heap.size, 3, none⟩ = some (.bool true) := Frame.held_cell hb2 q3
        have p4 : w2.cell? ⟨w.heap.size, 4, none⟩ = some (.int .i64 l) := Frame.held_cell hb2 q4
        have p5 : w2.cell? ⟨w.heap.size, 5, none⟩ = some (.bool true) := Frame.held_cell hb2 q5
        have p6 : w2.cell? ⟨w.heap.size, 6, none⟩ = some (.int .i64 h) := Frame.held_cell hb2 q6
        clear hb2 F1 q0 q1 q2 q3 q4 q5 q6
        rw [H5.out]
        go_wp2_with fail
        go_ret
        exact ⟨rfl, B2.out⟩
  · rw [if_neg h0]
    have hk2 : (k == 0) = false := by rw [beq_eq_false_iff_ne]; exact h0
    clear h0
    have hin := (of_decide_eq_true H1.out : 0 ≤ r ∧ r ≤ 10000)
    have hik := (of_decide_eq_true H2.out : 0 ≤ k ∧ k ≤ r)
    have M1 := mul_fits hik.1 (by omega) (goodV_bound H4.out).1 (goodV_bound H4.out).2
    have M2 := mul_fits hik.1 (by omega) (goodV_bound H5.out).1 (goodV_bound H5.out).2
    have M : Hid (wrap64 (k * l) = k * l ∧ wrap64 (k * h) = k * h) := ⟨M1, M2⟩
    clear hin hik M1 M2
    cases lb
    · cases hb
      · by_cases h1 : l ≤ h
        · have e : liesB k t false l false h = inB t (wrap64 (k * l)) (wrap64 (k * h)) := by rw [M.out.1, M.out.2]; unfold liesB inB; simp [h1]
          rw [e]
          clear e
          go_enter Tryd.func21, Tryd.ntmps21
          go_wp2_with fail
          refine (spec_In r 0 10000 _).mono ?_
          rintro e w' ⟨rfl, rfl⟩
          rw [H1.out]
          go_wp2_with fail
          refine (spec_In k 0 r _).mono ?_
          rintro e w' ⟨rfl, rfl⟩
          rw [H2.out]
          go_wp2_with fail
          refine (spec_In t (-1000000) 1000000 _).mono ?_
          rintro e w' ⟨rfl, rfl⟩
          rw [H3.out]
          go_wp2_with fail
          refine (spec_GoodValue false l _).mono ?_
          rintro e w1 ⟨rfl, hb1⟩
          have bc := Frame.bcell hb1
          have hsz := bc.2.2
          simp only [World.size_alloc] at hsz
          have p0 : w1.cell? ⟨w.heap.size, 0, none⟩ = some (.int .i64 r) := by rw [bc.1 _ _ (by simp; try omega)]; go_simp
          have p1 : w1.cell? ⟨w.heap.size, 1, none⟩ = some (.int .i64 k) := by rw [bc.1 _ _ (by simp; try omega)]; go_simp
          have p2 : w1.cell? ⟨w.heap.size, 2, none⟩ = some (.int .i64 t) := by rw [bc.1 _ _ (by simp; try omega)]; go_simp
          have p3 : w1.cell? ⟨w.heap.size, 3, none⟩ = some (.bool false) := by rw [bc.1 _ _ (by simp; try omega)]; go_simp
          have p4 : w1.cell? ⟨w.heap.size, 4, none⟩ = some (.int .i64 l) := by rw [bc.1 _ _ (by simp; try omega)]; go_simp
          have p5 : w1.cell? ⟨w.heap.size, 5, none⟩ = some (.bool false) := by rw [bc.1 _ _ (by simp; try omega)]; go_simp
          have p6 : w1.cell? ⟨w.heap.size, 6, none⟩ = some (.int .i64 h) := by rw [bc.1 _ _ (by simp; try omega)]; go_simp
          clear bc
          have B1 : Hid (Below w.heap.size w w1) := Frame.next ((Below.refl _ _).alloc (Nat.le_refl _) _) hb1 (by simp)
          clear hb1
          have F1 : Hid (w1.cell? ⟨w.heap.size, 0, none⟩ = some (.int .i64 r) ∧ w1.cell? ⟨w.heap.size, 1, none⟩ = some (.int .i64 k) ∧ w1.cell? ⟨w.heap.size, 2, none⟩ = some (.int .i64 t) ∧ w1.cell? ⟨w.heap.size, 3, none⟩ = some (.bool false) ∧ w1.cell? ⟨w.heap.size, 4, none⟩ = some (.int .i64 l) ∧ w1.cell? ⟨w.heap.size, 5, none⟩ = some (.bool false) ∧ w1.cell? ⟨w.heap.size, 6, none⟩ = some (.int .i64 h)) := ⟨p0, p1, p2, p3, p4, p5, p6⟩
          clear p0 p1 p2 p3 p4
          rw [H4.out]
          go_wp2_with fail
          refine (spec_GoodValue false h _).mono ?_
          rintro e w2 ⟨rfl, hb2⟩
          clear p5 p6
          have B2 : Hid (Below w.heap.size w w2) := Frame.next B1.out hb2 B1.out.size
          obtain ⟨q0, q1, q2, q3, q4, q5, q6⟩ := F1.out
          have p0 : w2.cell? ⟨w.heap.size, 0, none⟩ = some (.int .i64 r) := Frame.held_cell hb2 q0
          have p1 : w2.cell? ⟨w.heap.size, 1, none⟩ = some (.int .i64 k) := Frame.held_cell hb2 q1
          have p2 : w2.cell? ⟨w.heap.size, 2, none⟩ = some (.int .i64 t) := Frame.held_cell hb2 q2
          have p3 : w2.cell? ⟨w.heap.size, 3, none⟩ = some (.bool false) := Frame.held_cell hb2 q3
          have p4 : w2.cell? ⟨w.heap.size, 4, none⟩ = some (.int .i64 l) := Frame.held_cell hb2 q4
          have p5 : w2.cell? ⟨w.heap.size, 5, none⟩ = some (.bool false) := Frame.held_cell hb2 q5
          have p6 : w2.cell? ⟨w.heap.size, 6, none⟩ = some (.int .i64 h) := Frame.held_cell hb2 q6
          clear hb2 F1 q0 q1 q2 q3 q4 q5 q6
          rw [H5.out]
          go_wp2_with fail
          refine (spec_In t _ _ _).mono ?_
          rintro e w' ⟨rfl, rfl⟩
          go_wp2_with fail
          go_ret
          exact ⟨rfl, B2.out⟩
        · have e : liesB k t false l false h = false := by unfold liesB; simp [h1]
          rw [e]
          clear e
          go_enter Tryd.func21, Tryd.ntmps21
          go_wp2_with fail
          refine (spec_In r 0 10000 _).mono ?_
          rintro e w' ⟨rfl, rfl⟩
          rw [H1.out]
          go_wp2_with fail
          refine (spec_In k 0 r _).mono ?_
          rintro e w' ⟨rfl, rfl⟩
          rw [H2.out]
          go_wp2_with fail
          refine (spec_In t (-1000000) 1000000 _).mono ?_
          rintro e w' ⟨rfl, rfl⟩
          rw [H3.out]
          go_wp2_with fail
          refine (spec_GoodValue false l _).mono ?_
          rintro e w1 ⟨rfl, hb1⟩
          have bc := Frame.bcell hb1
          have hsz := bc.2.2
          simp only [World.size_alloc] at hsz
          have p0 : w1.cell? ⟨w.heap.size, 0, none⟩ = some (.int .i64 r) := by rw [bc.1 _ _ (by simp; try omega)]; go_simp
          have p1 : w1.cell? ⟨w.heap.size, 1, none⟩ = some (.int .i64 k) := by rw [bc.1 _ _ (by simp; try omega)]; go_simp
          have p2 : w1.cell? ⟨w.heap.size, 2, none⟩ = some (.int .i64 t) := by rw [bc.1 _ _ (by simp; try omega)]; go_simp
          have p3 : w1.cell? ⟨w.heap.size, 3, none⟩ = some (.bool false) := by rw [bc.1 _ _ (by simp; try omega)]; go_simp
          have p4 : w1.cell? ⟨w.heap.size, 4, none⟩ = some (.int .i64 l) := by rw [bc.1 _ _ (by simp; try omega)]; go_simp
          have p5 : w1.cell? ⟨w.heap.size, 5, none⟩ = some (.bool false) := by rw [bc.1 _ _ (by simp; try omega)]; go_simp
          have p6 : w1.cell? ⟨w.heap.size, 6, none⟩ = some (.int .i64 h) := by rw [bc.1 _ _ (by simp; try omega)]; go_simp
          clear bc
          have B1 : Hid (Below w.heap.size w w1) := Frame.next ((Below.refl _ _).alloc (Nat.le_refl _) _) hb1 (by simp)
          clear hb1
          have F1 : Hid (w1.cell? ⟨w.heap.size, 0, none⟩ = some (.int .i64 r) ∧ w1.cell? ⟨w.heap.size, 1, none⟩ = some (.int .i64 k) ∧ w1.cell? ⟨w.heap.size, 2, none⟩ = some (.int .i64 t) ∧ w1.cell? ⟨w.heap.size, 3, none⟩ = some (.bool false) ∧ w1.cell? ⟨w.heap.size, 4, none⟩ = some (.int .i64 l) ∧ w1.cell? ⟨w.heap.size, 5, none⟩ = some (.bool false) ∧ w1.cell? ⟨w.heap.size, 6, none⟩ = some (.int .i64 h)) := ⟨p0, p1, p2, p3, p4, p5, p6⟩
          clear p0 p1 p2 p3 p4
          rw [H4.out]
          go_wp2_with fail
          refine (spec_GoodValue false h _).mono ?_
          rintro e w2 ⟨rfl, hb2⟩
          clear p5 p6
          have B2 : Hid (Below w.heap.size w w2) := Frame.next B1.out hb2 B1.out.size
          obtain ⟨q0, q1, q2, q3, q4, q5, q6⟩ := F1.out
          have p0 : w2.cell? ⟨w.heap.size, 0, none⟩ = some (.int .i64 r) := Frame.held_cell hb2 q0
          have p1 : w2.cell? ⟨w.heap.size, 1, none⟩ = some (.int .i64 k) := Frame.held_cell hb2 q1
          have p2 : w2.cell? ⟨w.heap.size, 2, none⟩ = some (.int .i64 t) := Frame.held_cell hb2 q2
          have p3 : w2.cell? ⟨w.heap.size, 3, none⟩ = some (.bool false) := Frame.held_cell hb2 q3
          have p4 : w2.cell? ⟨w.heap.size, 4, none⟩ = some (.int .i64 l) := Frame.held_cell hb2 q4
          have p5 : w2.cell? ⟨w.heap.size, 5, none⟩ = some (.bool false) := Frame.held_cell hb2 q5
          have p6 : w2.cell? ⟨w.heap.size, 6, none⟩ = some (.int .i64 h) := Frame.held_cell hb2 q6
          clear hb2 F1 q0 q1 q2 q3 q4 q5 q6
          rw [H5.out]
          go_wp2_with fail
          go_ret
          exact ⟨rfl, B2.out⟩
      · have e : liesB k t false l true h = false := by unfold liesB; simp
        rw [e]
        clear e
        go_enter Tryd.func21, Tryd.ntmps21
        go_wp2_with fail
        refine (spec_In r 0 10000 _).mono ?_
        rintro e w' ⟨rfl, rfl⟩
        rw [H1.out]
        go_wp2_with fail
        refine (spec_In k 0 r _).mono ?_
        rintro e w' ⟨rfl, rfl⟩
        rw [H2.out]
        go_wp2_with fail
        refine (spec_In t (-1000000) 1000000 _).mono ?_
        rintro e w' ⟨rfl, rfl⟩
        rw [H3.out]
        go_wp2_with fail
        refine (spec_GoodValue false l _).mono ?_
        rintro e w1 ⟨rfl, hb1⟩
        have bc := Frame.bcell hb1
        have hsz := bc.2.2
        simp only [World.size_alloc] at hsz
        have p0 : w1.cell? ⟨w.heap.size, 0, none⟩ = some (.int .i64 r) := by rw [bc.1 _ _ (by simp; try omega)]; go_simp
        have p1 : w1.cell? ⟨w.heap.size, 1, none⟩ = some (.int .i64 k) := by rw [bc.1 _ _ (by simp; try omega)]; go_simp
        have p2 : w1.cell? ⟨w.heap.size, 2, none⟩ = some (.int .i64 t) := by rw [bc.1 _ _ (by simp; try omega)]; go_simp
        have p3 : w1.cell? ⟨w.heap.size, 3, none⟩ = some (.bool false) := by rw [bc.1 _ _ (by simp; try omega)]; go_simp
        have p4 : w1.cell? ⟨w.heap.size, 4, none⟩ = some (.int .i64 l) := by rw [bc.1 _ _ (by simp; try omega)]; go_simp
        have p5 : w1.cell? ⟨w.heap.size, 5, none⟩ = some (.bool true) := by rw [bc.1 _ _ (by simp; try omega)]; go_simp
        have p6 : w1.cell? ⟨w.heap.size, 6, none⟩ = some (.int .i64 h) := by rw [bc.1 _ _ (by simp; try omega)]; go_simp
        clear bc
        have B1 : Hid (Below w.heap.size w w1) := Frame.next ((Below.refl _ _).alloc (Nat.le_refl _) _) hb1 (by simp)
        clear hb1
        have F1 : Hid (w1.cell? ⟨w.heap.size, 0, none⟩ = some (.int .i64 r) ∧ w1.cell? ⟨w.heap.size, 1, none⟩ = some (.int .i64 k) ∧ w1.cell? ⟨w.heap.size, 2, none⟩ = some (.int .i64 t) ∧ w1.cell? ⟨w.heap.size, 3, none⟩ = some (.bool false) ∧ w1.cell? ⟨w.heap.size, 4, none⟩ = some (.int .i64 l) ∧ w1.cell? ⟨w.heap.size, 5, none⟩ = some (.bool true) ∧ w1.cell? ⟨w.heap.size, 6, none⟩ = some (.int .i64 h)) := ⟨p0, p1, p2, p3, p4, p5, p6⟩
        clear p0 p1 p2 p3 p4
        rw [H4.out]
        go_wp2_with fail
        refine (spec_GoodValue true h _).mono ?_
        rintro e w2 ⟨rfl, hb2⟩
        clear p5 p6
        have B2 : Hid (Below w.heap.size w w2) := Frame.next B1.out hb2 B1.out.size
        obtain ⟨q0, q1, q2, q3, q4, q5, q6⟩ := F1.out
        have p0 : w2.cell? ⟨w.heap.size, 0, none⟩ = some (.int .i64 r) := Frame.held_cell hb2 q0
        have p1 : w2.cell? ⟨w.heap.size, 1, none⟩ = some (.int .i64 k) := Frame.held_cell hb2 q1
        have p2 : w2.cell? ⟨w.heap.size, 2, none⟩ = some (.int .i64 t) := Frame.held_cell hb2 q2
        have p3 : w2.cell? ⟨w.heap.size, 3, none⟩ = some (.bool false) := Frame.held_cell hb2 q3
        have p4 : w2.cell? ⟨w.heap.size, 4, none⟩ = some (.int .i64 l) := Frame.held_cell hb2 q4
        have p5 : w2.cell? ⟨w.heap.size, 5, none⟩ = some (.bool true) := Frame.held_cell hb2 q5
        have p6 : w2.cell? ⟨w.heap.size, 6, none⟩ = some (.int .i64 h) := Frame.held_cell hb2 q6
        clear hb2 F1 q0 q1 q2 q3 q4 q5 q6
        rw [H5.out]
        go_wp2_with fail
        go_ret
        exact ⟨rfl, B2.out⟩
    · have e : liesB k t true l hb h = false := by unfold liesB; simp
      rw [e]
      clear e
      go_enter Tryd.func21, Tryd.ntmps21
      go_wp2_with fail
      refine (spec_In r 0 10000 _).mono ?_
      rintro e w' ⟨rfl, rfl⟩
      rw [H1.out]
      go_wp2_with fail
      refine (spec_In k 0 r _).mono ?_
      rintro e w' ⟨rfl, rfl⟩
      rw [H2.out]
      go_wp2_with fail
      refine (spec_In t (-1000000) 1000000 _).mono ?_
      rintro e w' ⟨rfl, rfl⟩
      rw [H3.out]
      go_wp2_with fail
      refine (spec_GoodValue true l _).mono ?_
      rintro e w1 ⟨rfl, hb1⟩
      have bc := Frame.bcell hb1
      have hsz := bc.2.2
      simp only [World.size_alloc] at hsz
      have p0 : w1.cell? ⟨w.heap.size, 0, none⟩ = some (.int .i64 r) := by rw [bc.1 _ _ (by simp; try omega)]; go_simp
      have p1 : w1.cell? ⟨w.heap.size, 1, none⟩ = some (.int .i64 k) := by rw [bc.1 _ _ (by simp; try omega)]; go_simp
      have p2 : w1.cell? ⟨w.heap.size, 2, none⟩ = some (.int .i64 t) := by rw [bc.1 _ _ (by simp; try omega)]; go_simp
      have p3 : w1.cell? ⟨w.heap.size, 3, none⟩ = some (.bool true) := by rw [bc.1 _ _ (by simp; try omega)]; go_simp
      have p4 : w1.cell? ⟨w.heap.size, 4, none⟩ = some (.int .i64 l) := by rw [bc.1 _ _ (by simp; try omega)]; go_simp
      have p5 : w1.cell? ⟨w.heap.size, 5, none⟩ = some (.bool hb) := by rw [bc.1 _ _ (by simp; try omega)]; go_simp
      have p6 : w1.cell? ⟨w.heap.size, 6, none⟩ = some (.int .i64 h) := by rw [bc.1 _ _ (by simp; try omega)]; go_simp
      clear bc
      have B1 : Hid (Below w.heap.size w w1) := Frame.next ((Below.refl _ _).alloc (Nat.le_refl _) _) hb1 (by simp)
      clear hb1
      have F1 : Hid (w1.cell? ⟨w.heap.size, 0, none⟩ = some (.int .i64 r) ∧ w1.cell? ⟨w.heap.size, 1, none⟩ = some (.int .i64 k) ∧ w1.cell? ⟨w.heap.size, 2, none⟩ = some (.int .i64 t) ∧ w1.cell? ⟨w.heap.size, 3, none⟩ = some (.bool true) ∧ w1.cell? ⟨w.heap.size, 4, none⟩ = some (.int .i64 l) ∧ w1.cell? ⟨w.heap.size, 5, none⟩ = some (.bool hb) ∧ w1.cell? ⟨w.heap.size, 6, none⟩ = some (.int .i64 h)) := ⟨p0, p1, p2, p3, p4, p5, p6⟩
      clear p0 p1 p2 p3 p4
      rw [H4.out]
      go_wp2_with fail
      refine (spec_GoodValue hb h _).mono ?_
      rintro e w2 ⟨rfl, hb2⟩
      clear p5 p6
      have B2 : Hid (Below w.heap.size w w2) := Frame.next B1.out hb2 B1.out.size
      obtain ⟨q0, q1, q2, q3, q4, q5, q6⟩ := F1.out
      have p0 : w2.cell? ⟨w.heap.size, 0, none⟩ = some (.int .i64 r) := Frame.held_cell hb2 q0
      have p1 : w2.cell? ⟨w.heap.size, 1, none⟩ = some (.int .i64 k) := Frame.held_cell hb2 q1
      have p2 : w2.cell? ⟨w.heap.size, 2, none⟩ = some (.int .i64 t) := Frame.held_cell hb2 q2
      have p3 : w2.cell? ⟨w.heap.size, 3, none⟩ = some (.bool true) := Frame.held_cell hb2 q3
      have p4 : w2.cell? ⟨w.heap.size, 4, none⟩ = some (.int .i64 l) := Frame.held_cell hb2 q4
      have p5 : w2.cell? ⟨w.heap.size, 5, none⟩ = some (.bool hb) := Frame.held_cell hb2 q5
      have p6 : w2.cell? ⟨w.heap.size, 6, none⟩ = some (.int .i64 h) := Frame.held_cell hb2 q6
      clear hb2 F1 q0 q1 q2 q3 q4 q5 q6
      rw [H5.out]
      go_wp2_with fail
      go_ret
      exact ⟨rfl, B2.out⟩

def downB (t k : Int) : Bool := decide (t.tmod k < 0)
def meanN (t k : Int) : Int := if downB t k then wrap64 (wrap64 (t.tdiv k) - 1) else wrap64 (t.tdiv k)

theorem down (t k : Int) (w : World) (hk : 0 < k) : Calls Tryd.prog 59 #[.int .i64 t, .int .i64 k] w fun e w' => e = .returned (.int .i64 (meanN t k)) ∧ w' = w := by
  have hk2 : (k == 0) = false := by rw [beq_eq_false_iff_ne]; omega
  by_cases h : t.tmod k < 0
  · have e : meanN t k = wrap64 (wrap64 (t.tdiv k) - 1) := if_pos (decide_eq_true h)
    rw [e]
    go_enter Tryd.func59, Tryd.ntmps59
    go_wp2
    go_ret
    exact ⟨rfl, rfl⟩
  · have e : meanN t k = wrap64 (t.tdiv k) := if_neg (by unfold downB; simp; omega)
    rw [e]
    go_enter Tryd.func59, Tryd.ntmps59
    go_wp2
    go_ret
    exact ⟨rfl, rfl⟩


end Go.Proofs.YtdlcjcobfckncaaDoor.Sma
