/-
  Where nodes stand in the order (no program): what is led to, and does not lead back, stands ahead.
-/
import Derived.Test.YtkondmnkmbdncaaGpv
namespace Go.Proofs.Ytkondmnkmbdncaa.Gpx
open Go.Proofs.Ytkondmnkmbdncaa.Rel Go.Proofs.Ytkondmnkmbdncaa.Gpu Go.Proofs.Ytkondmnkmbdncaa.Gpb Go.Proofs.Ytkondmnkmbdncaa.Gpv

theorem parted (p : Int → Bool) (l : List Int) : (l.filter p).length + (l.filter fun z => !p z).length = l.length := by
  induction l with
  | nil => rfl
  | cons x l ih => cases h : p x <;> simp [h] <;> omega
theorem order_len {xs : Ll} : ∀ (f : Nat) (left : List Int), left.length ≤ f → (groupsL xs f left).flatten.length = left.length
  | 0, left, h => by rw [List.eq_nil_of_length_eq_zero (by omega : left.length = 0)]; rfl
  | f + 1, left, h => by
    rw [groupsL]
    split
    · rename_i hn
      by_cases he : left = []
      · rw [he]; rfl
      · obtain ⟨r, hr, hb⟩ := ready_one xs he
        exact absurd hb (List.find?_eq_none.1 hn r hr)
    · rename_i k hk
      have hin := List.mem_of_find?_eq_some hk
      have hlt : (left.filter fun o => !togB xs k o).length < left.length := List.length_filter_lt_length_iff_exists.2 ⟨k, hin, by rw [tog_refl]; decide⟩
      rw [List.flatten_cons, List.length_append, order_len f _ (by omega), parted]
theorem order_mem {xs : Ll} : ∀ (f : Nat) (left : List Int), left.length ≤ f → ∀ z ∈ left, z ∈ (groupsL xs f left).flatten
  | 0, left, h, z, hz => by rw [List.eq_nil_of_length_eq_zero (by omega : left.length = 0)] at hz; cases hz
  | f + 1, left, h, z, hz => by
    rw [groupsL]
    split
    · rename_i hn
      obtain ⟨r, hr, hb⟩ := ready_one xs (left := left) (fun e => by rw [e] at hz; cases hz)
      exact absurd hb (List.find?_eq_none.1 hn r hr)
    · rename_i k hk
      have hin := List.mem_of_find?_eq_some hk
      have hlt : (left.filter fun o => !togB xs k o).length < left.length := List.length_filter_lt_length_iff_exists.2 ⟨k, hin, by rw [tog_refl]; decide⟩
      rw [List.flatten_cons, List.mem_append]
      cases ht : togB xs k z
      · exact .inr (order_mem f _ (by omega) z (List.mem_filter.2 ⟨hz, by rw [ht]; rfl⟩))
      · exact .inl (List.mem_filter.2 ⟨hz, ht⟩)

theorem idx_in {l : List Int} {z : Int} (h : z ∈ l) : ∃ k : Nat, Lib.idxOf l z = (k : Int) ∧ k < l.length ∧ l.getD k 0 = z ∧ ∀ j, j < k → l.getD j 0 ≠ z := by
  rcases idx_cases l z with ⟨_, h2⟩ | ⟨k, h1, h2, h3, h4⟩
  · exact absurd h h2
  · exact ⟨k, h2, h1, h3, h4⟩
theorem get_left {g r : List Int} {j : Nat} (h : j < g.length) : (g ++ r).getD j 0 = g.getD j 0 := by simp [List.getD, List.getElem?_append_left h]
theorem get_right {g r : List Int} {j : Nat} : (g ++ r).getD (g.length + j) 0 = r.getD j 0 := by simp [List.getD, List.getElem?_append_right]
theorem idx_front {g r : List Int} {z : Int} (h : z ∈ g) : Lib.idxOf (g ++ r) z < (g.length : Int) := by
  obtain ⟨k, h1, h2, h3, h4⟩ := idx_in h
  rw [idx_is (k := k) (by rw [List.length_append]; omega) (by rw [get_left h2]; exact h3) (fun j hj => by rw [get_left (by omega)]; exact h4 j hj)]
  omega
theorem idx_back {g r : List Int} {z : Int} (h : z ∉ g) (hr : z ∈ r) : Lib.idxOf (g ++ r) z = (g.length : Int) + Lib.idxOf r z := by
  obtain ⟨k, h1, h2, h3, h4⟩ := idx_in hr
  rw [h1, idx_is (k := g.length + k) (by rw [List.length_append]; omega) (by rw [get_right]; exact h3) (fun j hj => ?_)]
  · omega
  · by_cases hl : j < g.length
    · rw [get_left hl]
      exact fun e => h (by rw [← e]; exact Mem.getD_mem hl)
    · rw [show j = g.length + (j - g.length) by omega, get_right]
      exact h4 _ (by omega)

theorem order_ahead {xs : Ll} : ∀ (f : Nat) (left : List Int), left.length ≤ f → ∀ a ∈ left, ∀ b ∈ left, Rch xs a b → ¬ Rch xs b a → Lib.idxOf (groupsL xs f left).flatten b < Lib.idxOf (groupsL xs f left).flatten a
  | 0, left, h, a, ha, _, _, _, _ => by rw [List.eq_nil_of_length_eq_zero (by omega : left.length = 0)] at ha; cases ha
  | f + 1, left, h, a, ha, b, hb, hab, hba => by
    rw [groupsL]
    split
    · rename_i hn
      obtain ⟨r, hr, hb⟩ := ready_one xs (left := left) (fun e => by rw [e] at ha; cases ha)
      exact absurd hb (List.find?_eq_none.1 hn r hr)
    · rename_i k hk
      have hin := List.mem_of_find?_eq_some hk
      have hready := List.find?_some hk
      rw [ready_iff] at hready
      have hlt : (left.filter fun o => !togB xs k o).length < left.length := List.length_filter_lt_length_iff_exists.2 ⟨k, hin, by rw [tog_refl]; decide⟩
      have hrest : ∀ z ∈ left, togB xs k z = false → z ∈ (groupsL xs f (left.filter fun o => !togB xs k o)).flatten := fun z hz ht => order_mem f _ (by omega) z (List.mem_filter.2 ⟨hz, by rw [ht]; rfl⟩)
      have hno : ∀ z, togB xs k z = false → z ∉ left.filter (togB xs k) := fun z ht hz => by rw [(List.mem_filter.1 hz).2] at ht; cases ht
      rw [List.flatten_cons]
      cases ta : togB xs k a
      · have h1 := idx_back (hno a ta) (hrest a ha ta)
        cases tb : togB xs k b
        · rw [h1, idx_back (hno b tb) (hrest b hb tb)]
          have := order_ahead f (left.filter fun o => !togB xs k o) (by omega) a (List.mem_filter.2 ⟨ha, by rw [ta]; rfl⟩) b (List.mem_filter.2 ⟨hb, by rw [tb]; rfl⟩) hab hba
          omega
        · have h2 := idx_front (r := (groupsL xs f (left.filter fun o => !togB xs k o)).flatten) (List.mem_filter.2 ⟨hb, tb⟩ : b ∈ left.filter (togB xs k))
          obtain ⟨i, hi, _⟩ := idx_in (hrest a ha ta)
          rw [h1]
          omega
      · exfalso
        have hkb : Rch xs k b := (togB_iff.1 ta).1.trans hab
        exact hba ((hready b hb hkb).trans (togB_iff.1 ta).1)

noncomputable def ordN (xs : Ll) : List Int := (groupsN xs).flatten
theorem ord_len (xs : Ll) : (ordN xs).length = xs.length := by unfold ordN groupsN; rw [order_len _ _ (by rw [numN_length]; exact Nat.le_refl _), numN_length]
theorem ord_in {xs : Ll} {z : Int} (h : 0 ≤ z ∧ z < (xs.length : Int)) : 0 ≤ Lib.idxOf (ordN xs) z := by
  obtain ⟨k, hk, _⟩ := idx_in (order_mem (xs := xs) xs.length (numN xs.length) (by rw [numN_length]; exact Nat.le_refl _) z (mem_numN.2 h))
  have : Lib.idxOf (ordN xs) z = (k : Int) := hk
  omega
theorem ord_ahead {xs : Ll} {a b : Int} (ha : 0 ≤ a ∧ a < (xs.length : Int)) (hb : 0 ≤ b ∧ b < (xs.length : Int)) (hab : Rch xs a b) (hba : ¬ Rch xs b a) : Lib.idxOf (ordN xs) b < Lib.idxOf (ordN xs) a :=
  order_ahead xs.length (numN xs.length) (by rw [numN_length]; exact Nat.le_refl _) a (mem_numN.2 ha) b (mem_numN.2 hb) hab hba


end Go.Proofs.Ytkondmnkmbdncaa.Gpx
