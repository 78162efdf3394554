/-
  Plays, pure: how many pairs clash, counted in whatever order.
-/
import Derived.Test.YteihgbiifcgipaaPpu
namespace Go.Proofs.Yteihgbiifcgipaa.Pcu
open Go.RowKit
open Go.Proofs.Yteihgbiifcgipaa.Mem Go.Proofs.Yteihgbiifcgipaa.FAct Go.Proofs.Yteihgbiifcgipaa.Pga Go.Proofs.Yteihgbiifcgipaa.Ppu

def idxN (a b : D) : Int := 4 * a.1 + b.1
def hit (c : Nat) (p : D × D) : Bool := clashB p.1 p.2 && (idxN p.1 p.2 == (c : Int))
def tally (ps : List (D × D)) : List Int := (List.range 16).map fun c => ((ps.countP (hit c) : Nat) : Int)
theorem tally_length (ps : List (D × D)) : (tally ps).length = 16 := by simp [tally]
theorem tally_get (ps : List (D × D)) (c : Nat) (h : c < 16) : (tally ps).getD c 0 = ((ps.countP (hit c) : Nat) : Int) := by simp [tally, List.getD, h]
theorem tally_no {ps : List (D × D)} {p : D × D} (h : clashB p.1 p.2 = false) : tally (ps ++ [p]) = tally ps := by
  unfold tally
  refine List.map_congr_left fun c _ => ?_
  rw [List.countP_append, List.countP_singleton]
  unfold hit
  rw [h]
  simp
theorem tally_yes {ps : List (D × D)} {p : D × D} {c : Nat} (h : clashB p.1 p.2 = true) (hc : idxN p.1 p.2 = (c : Int)) (h16 : c < 16) : tally (ps ++ [p]) = (tally ps).set c ((tally ps).getD c 0 + 1) := by
  apply List.ext_getElem?
  intro j
  by_cases hj : j < 16
  · have e1 : (tally (ps ++ [p]))[j]? = some (((ps ++ [p]).countP (hit j) : Nat) : Int) := by simp [tally, hj]
    rw [e1, tally_get _ _ h16, List.countP_append, List.countP_singleton]
    have hh : hit j p = decide (j = c) := by
      unfold hit
      rw [h, hc, Bool.true_and]
      by_cases e : j = c
      · rw [e]; simp
      · rw [decide_eq_false e, beq_eq_false_iff_ne]; omega
    rw [hh]
    by_cases e : j = c
    · subst e
      rw [List.getElem?_set_self (by rw [tally_length]; exact hj)]
      simp
    · rw [List.getElem?_set_ne (fun h => e h.symm)]
      simp [tally, hj, e]
  · rw [List.getElem?_eq_none (by rw [tally_length]; omega), List.getElem?_eq_none (by rw [List.length_set, tally_length]; omega)]
theorem tally_bounds (ps : List (D × D)) (c : Nat) (h : c < 16) : 0 ≤ (tally ps).getD c 0 ∧ (tally ps).getD c 0 ≤ (ps.length : Int) := by
  rw [tally_get _ _ h]
  have := List.countP_le_length (p := hit c) (l := ps)
  omega
theorem tally_wf {ps : List (D × D)} (h : ps.length ≤ 1048576) : ∀ z ∈ tally ps, (Lit.int .i64 z).wf = true := by
  intro z hz
  unfold tally at hz
  obtain ⟨c, _, rfl⟩ := List.mem_map.1 hz
  have := List.countP_le_length (p := hit c) (l := ps)
  exact int_wf _ (by omega) (by omega)

def P1 (xs : List D) (i : Nat) : List (D × D) := (List.range i).flatMap fun j => (xs.take j).map fun x => (x, xs.getD j d0)
def P2 (xs : List D) (i : Nat) : List (D × D) := (List.range i).flatMap fun j => (xs.drop (j + 1)).map fun x => (xs.getD j d0, x)
theorem P1_succ (xs : List D) (i : Nat) : P1 xs (i + 1) = P1 xs i ++ (xs.take i).map fun x => (x, xs.getD i d0) := by
  unfold P1; rw [List.range_succ, List.flatMap_append]; simp
theorem P2_succ (xs : List D) (i : Nat) : P2 xs (i + 1) = P2 xs i ++ (xs.drop (i + 1)).map fun x => (xs.getD i d0, x) := by
  unfold P2; rw [List.range_succ, List.flatMap_append]; simp
theorem P1_length (xs : List D) (h : xs.length ≤ 16) (i : Nat) : (P1 xs i).length ≤ 16 * i := by
  induction i with
  | zero => simp [P1]
  | succ i ih => rw [P1_succ, List.length_append, List.length_map, List.length_take]; omega
theorem P2_length (xs : List D) (h : xs.length ≤ 16) (i : Nat) : (P2 xs i).length ≤ 16 * i := by
  induction i with
  | zero => simp [P2]
  | succ i ih => rw [P2_succ, List.length_append, List.length_map, List.length_drop]; omega

theorem flat_congr {α β : Type} {f g : α → List β} : ∀ (js : List α), (∀ j ∈ js, f j = g j) → js.flatMap f = js.flatMap g
  | [], _ => rfl
  | j :: js, h => by
    rw [List.flatMap_cons, List.flatMap_cons, h j (by simp), flat_congr js (fun i hi => h i (by simp [hi]))]
theorem count_flat {α β : Type} (f : β → Bool) (A : α → List β) (B : α → β) : ∀ js : List α, (js.flatMap fun j => A j ++ [B j]).countP f = (js.flatMap A).countP f + (js.map B).countP f
  | [] => rfl
  | j :: js => by
    rw [List.flatMap_cons, List.flatMap_cons, List.map_cons, List.countP_append, List.countP_append, List.countP_append, count_flat f A B js, List.countP_singleton, List.countP_cons]
    omega
theorem range_get (xs : List D) (a : D) : ((List.range xs.length).map fun j => (xs.getD j d0, a)) = xs.map fun x => (x, a) := by
  apply List.ext_getElem?
  intro j
  by_cases hj : j < xs.length
  · simp [hj, List.getD]
  · rw [List.getElem?_eq_none (by simp; omega), List.getElem?_eq_none (by simp; omega)]
theorem getD_left (xs : List D) (a : D) {j : Nat} (h : j < xs.length) : (xs ++ [a]).getD j d0 = xs.getD j d0 := by
  simp [List.getD, List.getElem?_append_left h]
theorem getD_last (xs : List D) (a : D) : (xs ++ [a]).getD xs.length d0 = a := by simp [List.getD]

theorem pairs_count (f : D × D → Bool) (xs : List D) : (P1 xs xs.length).countP f = (P2 xs xs.length).countP f := by
  refine rev_ind (P := fun xs => (P1 xs xs.length).countP f = (P2 xs xs.length).countP f) rfl (fun xs a ih => ?_) xs
  rw [List.length_append, List.length_singleton, P1_succ, P2_succ, List.countP_append, List.countP_append, getD_last]
  have e1 : P1 (xs ++ [a]) xs.length = P1 xs xs.length := by
    unfold P1
    refine flat_congr _ fun j hj => ?_
    have hj := List.mem_range.1 hj
    rw [getD_left xs a hj, List.take_append_of_le_length (by omega)]
  have e2 : P2 (xs ++ [a]) xs.length = (List.range xs.length).flatMap fun j => ((xs.drop (j + 1)).map fun x => (xs.getD j d0, x)) ++ [(xs.getD j d0, a)] := by
    unfold P2
    refine flat_congr _ fun j hj => ?_
    have hj := List.mem_range.1 hj
    rw [getD_left xs a hj, List.drop_append_of_le_length (by omega), List.map_append]
    rfl
  rw [e1, e2, count_flat, range_get, ih, List.take_append_of_le_length (Nat.le_refl _), List.take_length, List.drop_of_length_le (by simp)]
  simp [P2]

def confN (xs : List D) : List Int := tally (P1 xs xs.length)
theorem confN_2 (xs : List D) : confN xs = tally (P2 xs xs.length) := by
  unfold confN tally
  refine List.map_congr_left fun c _ => ?_
  rw [pairs_count]
def confV (xs : List D) : List Int := if goodP xs then confN xs else []

theorem map_take_succ {xs : List D} {k : Nat} (h : k < xs.length) (f : D → D × D) : (xs.take (k + 1)).map f = (xs.take k).map f ++ [f (xs.getD k d0)] := by
  rw [FAct.take_succ h, List.map_append]; rfl


end Go.Proofs.Yteihgbiifcgipaa.Pcu
