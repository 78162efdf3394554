/-
  Plays, pure: the last write of an item; what is read; what is written last.
-/
import Derived.Test.YteihgbiifcgipaaPga
namespace Go.Proofs.Yteihgbiifcgipaa.Ppu
open Go.Proofs.Yteihgbiifcgipaa.FAct Go.Proofs.Yteihgbiifcgipaa.Pga

theorem rev_ind {α : Type} {P : List α → Prop} (h0 : P []) (h1 : ∀ xs a, P xs → P (xs ++ [a])) (xs : List α) : P xs := by
  have : ∀ ys : List α, P ys.reverse := by
    intro ys
    induction ys with
    | nil => exact h0
    | cons a ys ih => rw [List.reverse_cons]; exact h1 _ _ ih
  have h := this xs.reverse
  rwa [List.reverse_reverse] at h

def writes (item : Int) (a : D) : Bool := a.2.2 && (a.2.1 == item)
def lastF (item : Int) (p : Int × Int) (a : D) : Int × Int := (bif writes item a then p.2 else p.1, p.2 + 1)
def lastP (item : Int) (xs : List D) : Int × Int := xs.foldl (lastF item) (-1, 0)
def lastN (item : Int) (xs : List D) : Int := (lastP item xs).1
theorem lastP_append (item : Int) (xs : List D) (a : D) : lastP item (xs ++ [a]) = lastF item (lastP item xs) a := by unfold lastP; rw [List.foldl_append]; rfl
theorem lastP_snd (item : Int) (xs : List D) : (lastP item xs).2 = (xs.length : Int) := by
  refine rev_ind (P := fun xs => (lastP item xs).2 = (xs.length : Int)) rfl (fun xs a ih => ?_) xs
  rw [lastP_append, List.length_append]; unfold lastF; simp only [ih]; simp
theorem lastN_append (item : Int) (xs : List D) (a : D) : lastN item (xs ++ [a]) = bif writes item a then (xs.length : Int) else lastN item xs := by
  unfold lastN; rw [lastP_append]; unfold lastF; rw [lastP_snd]
theorem lastN_take {item : Int} {xs : List D} {k : Nat} (h : k < xs.length) : lastN item (xs.take (k + 1)) = bif writes item (xs.getD k d0) then (k : Int) else lastN item (xs.take k) := by
  rw [FAct.take_succ h, lastN_append, List.length_take, Nat.min_eq_left (by omega)]
theorem lastN_bounds (item : Int) (xs : List D) : -1 ≤ lastN item xs ∧ lastN item xs < (xs.length : Int) := by
  refine rev_ind (P := fun xs => -1 ≤ lastN item xs ∧ lastN item xs < (xs.length : Int)) ⟨Int.le_refl _, by show (-1 : Int) < 0; omega⟩ (fun xs a ih => ?_) xs
  · rw [lastN_append, List.length_append, List.length_singleton]
    cases writes item a
    · rw [cond_false]; omega
    · rw [cond_true]; omega

/-- What each act reads from. -/
def readN (xs : List D) (i : Nat) : Int := bif (xs.getD i d0).2.2 then -2 else lastN (xs.getD i d0).2.1 (xs.take i)
def readsN (xs : List D) : List Int := (List.range xs.length).map (readN xs)
def readsV (xs : List D) : List Int := if goodP xs then readsN xs else []
def lastsN (xs : List D) : List Int := (List.range 4).map fun (i : Nat) => lastN (i : Int) xs
def lastsV (xs : List D) : List Int := if goodP xs then lastsN xs else []

theorem readN_bounds (xs : List D) (i : Nat) (h : i < xs.length) : -2 ≤ readN xs i ∧ readN xs i < (xs.length : Int) := by
  unfold readN
  have := lastN_bounds (xs.getD i d0).2.1 (xs.take i)
  rw [List.length_take] at this
  cases (xs.getD i d0).2.2
  · rw [cond_false]; omega
  · rw [cond_true]; omega


end Go.Proofs.Yteihgbiifcgipaa.Ppu
