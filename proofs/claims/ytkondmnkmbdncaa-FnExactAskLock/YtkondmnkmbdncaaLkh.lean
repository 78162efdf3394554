/-
  An end of one dealer, pure: rows and writers one by one.
-/
import Derived.Test.YtkondmnkmbdncaaLkp
namespace Go.Proofs.Ytkondmnkmbdncaa.Lkh
open Go.Proofs.Ytkondmnkmbdncaa.Lkp
open Go.Proofs.Ytkondmnkmbdncaa.SLocks (D)

def notB (who x : Int) : Bool := x != who
def dropL (who : Int) (zs : List Int) : List Int := zs.filter (notB who)
def offN (who x : Int) : Int := bif x == who then -1 else x
def outD (d : D) (who : Int) : D := (d.1.map (dropL who), d.2.1.map (offN who), d.2.2 ++ [who])
/-- What has been done up to row k. -/
structure Part (who : Int) (d : D) (k : Nat) (xs : List (List Int)) (ws : List Int) : Prop where
  lx : xs.length = 4
  lw : ws.length = 4
  xd : ∀ j, j < k → xs.getD j [] = dropL who (d.1.getD j [])
  xk : ∀ j, j < 4 → k ≤ j → xs.getD j [] = d.1.getD j []
  wd : ∀ j, j < k → ws.getD j 0 = offN who (d.2.1.getD j 0)
  wk : ∀ j, j < 4 → k ≤ j → ws.getD j 0 = d.2.1.getD j 0
theorem part0 {who : Int} {d : D} (h0 : d.1.length = 4) (h1 : d.2.1.length = 4) : Part who d 0 d.1 d.2.1 := ⟨h0, h1, fun j hj => absurd hj (by omega), fun _ _ _ => rfl, fun j hj => absurd hj (by omega), fun _ _ _ => rfl⟩
theorem getD_set_same {α : Type} (l : List α) (k : Nat) (x e : α) (h : k < l.length) : (l.set k x).getD k e = x := by simp [List.getD, h]
theorem getD_set_other {α : Type} (l : List α) (k j : Nat) (x e : α) (h : j ≠ k) : (l.set k x).getD j e = l.getD j e := by simp [List.getD, Ne.symm h]
theorem Part.next {who : Int} {d : D} {k : Nat} {xs : List (List Int)} {ws : List Int} (h : Part who d k xs ws) (hk : k < 4) : Part who d (k + 1) (xs.set k (dropL who (xs.getD k []))) (ws.set k (offN who (ws.getD k 0))) := by
  have h1 := h.lx
  have h2 := h.lw
  refine ⟨by rw [List.length_set]; exact h1, by rw [List.length_set]; exact h2, fun j hj => ?_, fun j h4 hj => ?_, fun j hj => ?_, fun j h4 hj => ?_⟩
  · by_cases e : j = k
    · subst e; rw [getD_set_same _ _ _ _ (by omega), h.xk j hk (Nat.le_refl _)]
    · rw [getD_set_other _ _ _ _ _ e]; exact h.xd j (by omega)
  · rw [getD_set_other _ _ _ _ _ (by omega)]; exact h.xk j h4 (by omega)
  · by_cases e : j = k
    · subst e; rw [getD_set_same _ _ _ _ (by omega), h.wk j hk (Nat.le_refl _)]
    · rw [getD_set_other _ _ _ _ _ e]; exact h.wd j (by omega)
  · rw [getD_set_other _ _ _ _ _ (by omega)]; exact h.wk j h4 (by omega)
theorem off_same {who : Int} {ws : List Int} {k : Nat} (hk : k < ws.length) (h : ws.getD k 0 ≠ who) : ws.set k (offN who (ws.getD k 0)) = ws := by
  have e : offN who (ws.getD k 0) = ws[k] := by
    have : (ws.getD k 0 == who) = false := by rw [beq_eq_false_iff_ne]; exact h
    unfold offN
    rw [this]
    simp [List.getD, hk]
  rw [e]
  exact List.set_getElem_self _
theorem off_yes {who : Int} {ws : List Int} {k : Nat} (h : ws.getD k 0 = who) : ws.set k (offN who (ws.getD k 0)) = ws.set k (-1) := by
  have : (ws.getD k 0 == who) = true := by rw [beq_iff_eq]; exact h
  unfold offN
  rw [this]; rfl
theorem Part.done {who : Int} {d : D} {xs : List (List Int)} {ws : List Int} (h : Part who d 4 xs ws) (h0 : d.1.length = 4) (h1 : d.2.1.length = 4) : xs = d.1.map (dropL who) ∧ ws = d.2.1.map (offN who) := by
  have h2 := h.lx
  have h3 := h.lw
  constructor
  · apply List.ext_getElem
    · simp [h2, h0]
    · intro i hi hj
      have := h.xd i (by omega)
      have hd : i < d.1.length := by omega
      simp [List.getD, hi, hd] at this
      simp [this]
  · apply List.ext_getElem
    · simp [h3, h1]
    · intro i hi hj
      have := h.wd i (by omega)
      have hd : i < d.2.1.length := by omega
      simp [List.getD, hi, hd] at this
      simp [this]
theorem dropL_len (who : Int) (zs : List Int) : (dropL who zs).length ≤ zs.length := List.length_filter_le _ _


end Go.Proofs.Ytkondmnkmbdncaa.Lkh
