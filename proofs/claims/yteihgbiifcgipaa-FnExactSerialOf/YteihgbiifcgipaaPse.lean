/-
  Plays, pure: an order in which no pair stands the other way than some clash.
-/
import Derived.Test.YteihgbiifcgipaaPcu
namespace Go.Proofs.Yteihgbiifcgipaa.Pse
open Go.Proofs.Yteihgbiifcgipaa.FAct Go.Proofs.Yteihgbiifcgipaa.Pga Go.Proofs.Yteihgbiifcgipaa.Ppu Go.Proofs.Yteihgbiifcgipaa.Pcu

def allD : List Int := [0, 1, 2, 3]
def remOf (os : List Int) : List Int := allD.filter fun x => decide (x ∉ os)
/-- None of the ones left is to be ahead of q. -/
def isFree (c left : List Int) (q : Int) : Bool := left.all fun o => !(decide (0 < c.getD (4 * o + q).toNat 0))
def nextO (c os : List Int) : Option Int := (remOf os).find? (isFree c (remOf os))
def runO (c : List Int) : Nat → List Int → Option (List Int)
  | 0, os => some os
  | n + 1, os => match nextO c os with
    | none => none
    | some q => runO c n (os ++ [q])
def serO (c : List Int) : Option (List Int) := runO c 4 []
def serB (xs : List D) : Bool := goodP xs && (serO (confN xs)).isSome
def serV (xs : List D) : List Int := if serB xs then (serO (confN xs)).getD [] else []

theorem left_nodup (os : List Int) : (remOf os).Nodup := List.Pairwise.filter _ (by unfold allD; decide)
theorem left_in {os : List Int} {x : Int} (h : x ∈ remOf os) : 0 ≤ x ∧ x ≤ 3 := by
  have := (List.mem_filter.1 h).1
  simp only [allD, List.mem_cons, List.not_mem_nil, or_false] at this
  omega
theorem filter_one : ∀ (zs : List Int) (k : Nat), zs.Nodup → k < zs.length → zs.filter (fun x => decide (x ≠ zs.getD k 0)) = zs.take k ++ zs.drop (k + 1)
  | [], k, _, h => absurd h (by simp)
  | z :: zs, 0, hn, _ => by
    have hz := (List.nodup_cons.1 hn).1
    rw [List.filter_cons]
    simp only [List.getD_cons_zero, ne_eq, not_true, decide_false, Bool.false_eq_true, if_false, List.take_zero, List.nil_append, Nat.zero_add, List.drop_succ_cons, List.drop_zero]
    rw [List.filter_eq_self]
    intro a ha
    exact decide_eq_true (fun e => hz (e ▸ ha))
  | z :: zs, k + 1, hn, h => by
    have hz := (List.nodup_cons.1 hn).1
    have hk : k < zs.length := by simpa using h
    have hne : z ≠ zs.getD k 0 := fun e => hz (by
      rw [e, List.getD, List.getElem?_eq_getElem hk]
      exact List.getElem_mem _)
    rw [List.filter_cons, List.getD_cons_succ, if_pos (decide_eq_true hne), filter_one zs k (List.nodup_cons.1 hn).2 hk]
    rfl
theorem left_next {os : List Int} {k : Nat} (hk : k < (remOf os).length) : remOf (os ++ [(remOf os).getD k 0]) = (remOf os).take k ++ (remOf os).drop (k + 1) := by
  rw [← filter_one _ _ (left_nodup os) hk]
  generalize (remOf os).getD k 0 = q
  unfold remOf
  rw [List.filter_filter]
  refine List.filter_congr fun x _ => ?_
  simp only [List.mem_append, List.mem_singleton, not_or]
  rw [← Bool.decide_and]
  exact decide_eq_decide.2 ⟨fun h => ⟨h.2, h.1⟩, fun h => ⟨h.2, h.1⟩⟩
theorem left_len {os : List Int} {k : Nat} (hk : k < (remOf os).length) : (remOf (os ++ [(remOf os).getD k 0])).length = (remOf os).length - 1 := by
  rw [left_next hk, List.length_append, List.length_take, List.length_drop]; omega
theorem next_some {c os : List Int} {k : Nat} (hk : k < (remOf os).length) (h : isFree c (remOf os) ((remOf os).getD k 0) = true) (h0 : ∀ j, j < k → isFree c (remOf os) ((remOf os).getD j 0) = false) : nextO c os = some ((remOf os).getD k 0) := by
  unfold nextO
  have key : ∀ (f : Int → Bool) (zs : List Int) (k : Nat), k < zs.length → f (zs.getD k 0) = true → (∀ j, j < k → f (zs.getD j 0) = false) → zs.find? f = some (zs.getD k 0) := by
    intro f zs
    induction zs with
    | nil => intro k hk; simp at hk
    | cons z zs ih =>
      intro k hk h1 h2
      cases k with
      | zero => rw [List.getD_cons_zero] at h1 ⊢; rw [List.find?_cons, h1]
      | succ k =>
        have hz : f z = false := h2 0 (by omega)
        rw [List.find?_cons, hz, List.getD_cons_succ]
        exact ih k (by simpa using hk) (by simpa using h1) (fun j hj => by simpa using h2 (j + 1) (by omega))
  exact key _ _ k hk h h0
theorem next_none {c os : List Int} (h : ∀ z ∈ remOf os, isFree c (remOf os) z = false) : nextO c os = none := by
  unfold nextO
  rw [List.find?_eq_none]
  intro x hx
  rw [h x hx]; exact Bool.false_ne_true

/-- The model's test of a dealer. -/
def candB (c os : List Int) (k : Int) : Bool := decide (k ∉ os) && allD.all fun x => decide (x ∈ os) || (c.getD (4 * x + k).toNat 0 == 0)
theorem free_cand {c os : List Int} {k : Int} (hc : ∀ i, 0 ≤ c.getD i 0) : (allD.all fun x => decide (x ∈ os) || (c.getD (4 * x + k).toNat 0 == 0)) = isFree c (remOf os) k := by
  unfold isFree remOf
  rw [List.all_filter]
  congr 1
  funext x
  have := hc (4 * x + k).toNat
  by_cases hx : x ∈ os
  · simp [hx]
  · simp only [hx, decide_false, Bool.false_or, not_false_eq_true, decide_true, Bool.not_true]
    rw [Bool.eq_iff_iff, beq_iff_eq, Bool.not_eq_true', decide_eq_false_iff_not]
    omega
theorem next_cand {c os : List Int} (hc : ∀ i, 0 ≤ c.getD i 0) : nextO c os = allD.find? (candB c os) := by
  unfold nextO
  rw [remOf, List.find?_filter]
  congr 1
  funext k
  unfold candB
  rw [free_cand hc]
  simp [remOf]
theorem tally_nonneg (ps : List (D × D)) (i : Nat) : 0 ≤ (tally ps).getD i 0 := by
  by_cases h : i < 16
  · exact (tally_bounds ps i h).1
  · rw [List.getD, List.getElem?_eq_none (by rw [tally_length]; omega)]
    exact Int.le_refl _


end Go.Proofs.Yteihgbiifcgipaa.Pse
