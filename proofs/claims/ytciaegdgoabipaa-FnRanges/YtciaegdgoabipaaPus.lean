/-
  What chapter 2's functions say of one another.
-/
import Derived.Test.YtciaegdgoabipaaTfn
namespace Go.Proofs.Ytciaegdgoabipaa.Pus
open Go.RowKit
open Go.Proofs.Ytciaegdgoabipaa.Frame Go.Proofs.Ytciaegdgoabipaa.Mem Go.Proofs.Ytciaegdgoabipaa.Vals Go.Proofs.Ytciaegdgoabipaa.Rws Go.Proofs.Ytciaegdgoabipaa.Val Go.Proofs.Ytciaegdgoabipaa.Tab Go.Proofs.Ytciaegdgoabipaa.Gtab Go.Proofs.Ytciaegdgoabipaa.Drp Go.Proofs.Ytciaegdgoabipaa.Tel Go.Proofs.Ytciaegdgoabipaa.Find Go.Proofs.Ytciaegdgoabipaa.Shf Go.Proofs.Ytciaegdgoabipaa.Shl Go.Proofs.Ytciaegdgoabipaa.Pur Go.Proofs.Ytciaegdgoabipaa.Itb Go.Proofs.Ytciaegdgoabipaa.Itc Go.Proofs.Ytciaegdgoabipaa.Itd Go.Proofs.Ytciaegdgoabipaa.Kep Go.Proofs.Ytciaegdgoabipaa.Knr Go.Proofs.Ytciaegdgoabipaa.Tfn

theorem ins_mem (r : RowV) (rs : List RowV) (q : RowV) (h : q = r ∨ q ∈ rs) : q ∈ insR r rs := by
  induction rs with
  | nil => rcases h with rfl | h; simp [insR]; cases h
  | cons s rs ih =>
    unfold insR
    split
    · rcases h with rfl | h
      · simp
      · simp [h]
    · rcases h with rfl | h
      · simp [ih (Or.inl rfl)]
      · rcases List.mem_cons.1 h with rfl | h
        · simp
        · simp [ih (Or.inr h)]

theorem put_is {x : Int × List (Bool × Int)} {xs : Tb} (h : pPutB x xs = true) : goodT (putRows x.1 x.2 (lift xs)) = true ∧ pPutV x xs = plain (putRows x.1 x.2 (lift xs)) := by
  unfold pPutB putG at h
  rw [Bool.and_eq_true] at h
  refine ⟨h.2, ?_⟩
  unfold pPutV putV tellV
  rw [if_pos h.1, if_pos h.2]

theorem good_put {x : Int × List (Bool × Int)} {xs : Tb} (h : pPutB x xs = true) : pGood (pPutV x xs) = true := by
  obtain ⟨h1, h2⟩ := put_is h
  unfold pGood
  rw [goodT_plain (lift_to h2.symm)]
  exact h1

theorem row_of {r : RowV} {x : Int × List (Bool × Int)} {xs : Tb} (h : pPutB x xs = true) (hr : r ∈ putRows x.1 x.2 (lift xs)) : pRowV r.key (pPutV x xs) = (r.key, r.vs) ∧ pRowB r.key (pPutV x xs) = true := by
  have hg := good_put h
  obtain ⟨h1, h2⟩ := put_is h
  exact rowOut_of (qs := putRows x.1 x.2 (lift xs)) (rs := lift (pPutV x xs)) hg (by rw [plain_lift]; exact h2.symm) hr

theorem found_put {x : Int × List (Bool × Int)} {xs : Tb} (h : pPutB x xs = true) : pRowV x.1 (pPutV x xs) = x ∧ pRowB x.1 (pPutV x xs) = true :=
  row_of (r := ⟨x.1, none, 0, 0, x.2⟩) h (by unfold putRows putK; exact ins_mem _ _ _ (Or.inl rfl))

theorem kept_put {x y : Int × List (Bool × Int)} {xs : Tb} (h : pPutB x xs = true) (hy : y ∈ xs) : pRowB y.1 (pPutV x xs) = true ∧ (y.1 ≠ x.1 → pRowV y.1 (pPutV x xs) = y) := by
  by_cases e : y.1 = x.1
  · exact ⟨by rw [e]; exact (found_put h).2, fun h => absurd e h⟩
  · have hm : (⟨y.1, none, 0, 0, y.2⟩ : RowV) ∈ putRows x.1 x.2 (lift xs) := by
      unfold putRows putK
      refine ins_mem _ _ _ (Or.inr ?_)
      unfold dropK
      rw [List.mem_filter]
      exact ⟨List.mem_map.2 ⟨y, hy, rfl⟩, by simpa using e⟩
    have := row_of (r := ⟨y.1, none, 0, 0, y.2⟩) h hm
    exact ⟨this.2, fun _ => this.1⟩

theorem drop_found (key : Int) (xs : Tb) : pDropB key xs = pRowB key xs := by
  unfold pDropB pRowB dropB foundB hasB
  cases hg : goodT (lift xs)
  · simp
  · rw [show goodT (dropK key (lift xs)) = true from goodT_filter _ hg]
    simp

theorem gone {key : Int} {xs : Tb} (h : pDropB key xs = true) : pRowB key (pDropV key xs) = false := by
  unfold pDropB dropB at h
  rw [Bool.and_eq_true] at h
  have e : pDropV key xs = plain (dropK key (lift xs)) := by unfold pDropV dropV tellV; rw [if_pos h.1, if_pos h.2]
  unfold pRowB foundB
  have h2 : decide (0 ≤ find key (lift (pDropV key xs))) = false := by
    rw [← any_plain (qs := dropK key (lift xs)) (by rw [plain_lift, e]) key, Bool.eq_false_iff]
    intro h3
    obtain ⟨r, hr, hk⟩ := List.any_eq_true.1 h3
    unfold dropK at hr
    rw [List.mem_filter] at hr
    have h4 := of_decide_eq_true hr.2
    exact h4 (of_decide_eq_true hk)
  rw [h2, Bool.and_false]


end Go.Proofs.Ytciaegdgoabipaa.Pus
