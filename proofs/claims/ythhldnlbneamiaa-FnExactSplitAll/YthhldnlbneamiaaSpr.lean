/-
  Parts that are split while one is bad, as data: the steps lead to one end (no program).
-/
import Derived.Test.YthhldnlbneamiaaBpu
import Derived.Test.YthhldnlbneamiaaSpx
namespace Go.Proofs.Ythhldnlbneamiaa.Spr
open Go.RowKit
open Go.Proofs.Ythhldnlbneamiaa.Dls Go.Proofs.Ythhldnlbneamiaa.Csa Go.Proofs.Ythhldnlbneamiaa.Csb Go.Proofs.Ythhldnlbneamiaa.Csc Go.Proofs.Ythhldnlbneamiaa.Csd Go.Proofs.Ythhldnlbneamiaa.Csf Go.Proofs.Ythhldnlbneamiaa.Csg Go.Proofs.Ythhldnlbneamiaa.Spx Go.Proofs.Ythhldnlbneamiaa.Bpu
open Go.Proofs.Ythhldnlbneamiaa.Rel hiding Ll
open Go.Proofs.Ythhldnlbneamiaa.Cpu hiding Dp

abbrev Pl := List (List Int)
noncomputable def dOf (ds : List Dp) (p : List Int) : Dp := badO ds p (badF ds p)
noncomputable def isBad (ds : List Dp) (p : List Int) : Bool := (badF ds p).isSome
noncomputable def stepL (ds : List Dp) (l : Pl) (k : Nat) : Pl := l.take k ++ [eithL (dOf ds (l.getD k [])).1 (dOf ds (l.getD k [])).2, lessC (l.getD k []) (dOf ds (l.getD k [])).2] ++ l.drop (k + 1)
/-- From these parts, with the first k of them looked at, the steps lead to r. -/
inductive Runs (ds : List Dp) : Pl → Nat → Pl → Prop
  | fin {l : Pl} {k : Nat} : l.length ≤ k → Runs ds l k l
  | skip {l r : Pl} {k : Nat} : k < l.length → isBad ds (l.getD k []) = false → Runs ds l (k + 1) r → Runs ds l k r
  | split {l r : Pl} {k : Nat} : k < l.length → isBad ds (l.getD k []) = true → Runs ds (stepL ds l k) k r → Runs ds l k r
theorem Runs.one {ds : List Dp} {l r r' : Pl} {k : Nat} (h : Runs ds l k r) (h' : Runs ds l k r') : r = r' := by
  induction h with
  | fin h1 => cases h' with
    | fin => rfl
    | skip h2 => omega
    | split h2 => omega
  | skip h1 h2 _ ih => cases h' with
    | fin h3 => omega
    | skip _ _ h4 => exact ih h4
    | split _ h3 => rw [h2] at h3; cases h3
  | split h1 h2 _ ih => cases h' with
    | fin h3 => omega
    | skip _ h3 => rw [h2] at h3; cases h3
    | split _ _ h4 => exact ih h4
/-- To begin again at the front changes nothing, where the first k are not bad. -/
theorem Runs.again {ds : List Dp} {l r : Pl} : ∀ (n k : Nat), n ≤ k → k ≤ l.length → (∀ i, i < k → isBad ds (l.getD i []) = false) → Runs ds l k r → Runs ds l (k - n) r
  | 0, k, _, _, _, h => h
  | n + 1, k, hn, hk, h0, h => by
    have h1 := Runs.again n k (by omega) hk h0 h
    rw [show k - n = k - (n + 1) + 1 by omega] at h1
    exact Runs.skip (by omega) (h0 _ (by omega)) h1
theorem Runs.front {ds : List Dp} {l r : Pl} {k : Nat} (hk : k ≤ l.length) (h0 : ∀ i, i < k → isBad ds (l.getD i []) = false) (h : Runs ds l k r) : Runs ds l 0 r := by
  have := Runs.again k k (Nat.le_refl _) hk h0 h
  rwa [Nat.sub_self] at this
open Classical in
noncomputable def endOf (ds : List Dp) (l : Pl) : Pl := if h : ∃ r, Runs ds l 0 r then h.choose else []
theorem endOf_is {ds : List Dp} {l r : Pl} (h : Runs ds l 0 r) : endOf ds l = r := by
  have hx : ∃ r, Runs ds l 0 r := ⟨r, h⟩
  unfold endOf
  rw [dif_pos hx]
  exact Runs.one hx.choose_spec h
def GoodP (c : Nat) (p : List Int) : Prop := UpN p ∧ ∀ z ∈ p, 0 ≤ z ∧ z < (c : Int)
theorem GoodP.inC {c : Nat} {p : List Int} (h : GoodP c p) (hc : c ≤ 6) : InC p := fun z hz => by have := h.2 z hz; omega
theorem bad_get {ds : List Dp} {p : List Int} (h : isBad ds p = true) : ∃ n, n < 64 ∧ badF ds p = some n ∧ badP ds p n = true := by
  unfold isBad at h
  obtain ⟨n, hn⟩ := Option.isSome_iff_exists.1 h
  have hm := List.mem_range.1 (List.mem_of_find?_eq_some hn)
  exact ⟨n, hm, hn, List.find?_some hn⟩
theorem inS_list {f : Cs} {i : Nat} (hi : i < 6) : inS (listI f) i = f i := by
  unfold inS
  cases hf : f i
  · refine decide_eq_false (fun h => ?_)
    obtain ⟨j, _, hj, e⟩ := mem_listI.1 h
    rw [show i = j by omega, hj] at hf
    cases hf
  · exact decide_eq_true (mem_listI.2 ⟨i, hi, hf, rfl⟩)
theorem list_congr {f g : Cs} (h : ∀ i, i < 6 → f i = g i) : listI f = listI g := by
  refine upN_told (up_listI _) (up_listI _) (fun s => ?_)
  rw [mem_listI, mem_listI]
  exact ⟨fun ⟨i, hi, hf, e⟩ => ⟨i, hi, by rw [← h i hi]; exact hf, e⟩, fun ⟨i, hi, hf, e⟩ => ⟨i, hi, by rw [h i hi]; exact hf, e⟩⟩
theorem bad_parts {ds : List Dp} {p : List Int} {c : Nat} (hp : GoodP c p) (hc : c ≤ 6) (h : isBad ds p = true) :
    GoodP c (eithL (dOf ds p).1 (dOf ds p).2) ∧ GoodP c (lessC p (dOf ds p).2) ∧ (eithL (dOf ds p).1 (dOf ds p).2).length < p.length ∧ (lessC p (dOf ds p).2).length < p.length := by
  obtain ⟨n, hn, hf, hb⟩ := bad_get h
  have hw : withinB (bitS (n : Int)) (inS p) = true := by
    unfold badP at hb
    rw [Bool.and_eq_true] at hb
    exact hb.1
  have hl := hb
  rw [bad_len hp.1 (hp.inC hc) hw, Bool.and_eq_true, decide_eq_true_eq, decide_eq_true_eq] at hl
  have hd : dOf ds p = (listI (bitS (n : Int)), listI (lessS (tolS ds p n) (bitS (n : Int)))) := by unfold dOf; rw [hf]; rfl
  rw [hd]
  have e1 : eithL (listI (bitS (n : Int))) (listI (lessS (tolS ds p n) (bitS (n : Int)))) = listI (tolS ds p n) := by
    refine list_congr (fun i hi => ?_)
    show (inS (listI (bitS (n : Int))) i || inS (listI (lessS (tolS ds p n) (bitS (n : Int)))) i) = _
    rw [inS_list hi, inS_list hi]
    show (bitS (n : Int) i || (tolS ds p n i && !bitS (n : Int) i)) = _
    cases hbi : bitS (n : Int) i
    · simp
    · rw [bit_tol hw i hi hbi]; rfl
  have ht : ∀ z ∈ listI (tolS ds p n), z ∈ p := fun z hz => by
    obtain ⟨i, hi, hti, rfl⟩ := mem_listI.1 hz
    have := tol_in i hi hti
    unfold inS at this
    exact of_decide_eq_true this
  refine ⟨?_, ?_, ?_, ?_⟩
  · simp only []
    rw [e1]
    exact ⟨up_listI _, fun z hz => hp.2 z (ht z hz)⟩
  · exact ⟨less_up hp.1, fun z hz => hp.2 z (mem_less.1 hz).1⟩
  · simp only []
    rw [e1]
    exact hl.2
  · have hx : ∃ i, i < 6 ∧ tolS ds p n i = true ∧ bitS (n : Int) i = false := by
      apply Classical.byContradiction
      intro hno
      have hq : ∀ i, i < 6 → tolS ds p n i = bitS (n : Int) i := fun i hi => by
        cases hbi : bitS (n : Int) i
        · cases hti : tolS ds p n i
          · rfl
          · exact absurd ⟨i, hi, hti, hbi⟩ hno
        · exact bit_tol hw i hi hbi
      have := hl.1
      rw [list_congr hq] at this
      omega
    obtain ⟨i, hi, hti, hbi⟩ := hx
    have hip : (i : Int) ∈ p := ht _ (mem_listI.2 ⟨i, hi, hti, rfl⟩)
    have hid : (i : Int) ∈ listI (lessS (tolS ds p n) (bitS (n : Int))) := mem_listI.2 ⟨i, hi, by show (tolS ds p n i && !bitS (n : Int) i) = true; rw [hti, hbi]; rfl, rfl⟩
    simp only []
    unfold lessC
    refine Nat.lt_of_le_of_ne (List.length_filter_le _ _) (fun e => ?_)
    have := (List.length_filter_eq_length_iff.1 e) _ hip
    rw [decide_eq_true hid] at this
    cases this

/-- How much is still to be split. -/
def mu (l : Pl) : Nat := (l.map fun p => 3 ^ p.length).sum
theorem mu_append (l m : Pl) : mu (l ++ m) = mu l + mu m := by unfold mu; rw [List.map_append, List.sum_append]
theorem mu_len (l : Pl) : l.length ≤ mu l := by
  induction l with
  | nil => exact Nat.zero_le _
  | cons p l ih =>
    have h : 0 < 3 ^ p.length := Nat.pow_pos (by decide)
    show l.length + 1 ≤ 3 ^ p.length + mu l
    omega
theorem pow_two {a b p : Nat} (ha : a < p) (hb : b < p) : 3 ^ a + 3 ^ b < 3 ^ p := by
  obtain ⟨q, rfl⟩ : ∃ q, p = q + 1 := ⟨p - 1, by omega⟩
  have h1 : 3 ^ a ≤ 3 ^ q := Nat.pow_le_pow_right (by decide) (by omega)
  have h2 : 3 ^ b ≤ 3 ^ q := Nat.pow_le_pow_right (by decide) (by omega)
  have h3 : 0 < 3 ^ q := Nat.pow_pos (by decide)
  rw [Nat.pow_succ]
  omega
theorem cut_at {l : Pl} {k : Nat} (h : k < l.length) : l = l.take k ++ [l.getD k []] ++ l.drop (k + 1) := by
  conv => lhs; rw [← List.take_append_drop k l]
  rw [List.append_assoc]
  congr 1
  rw [List.drop_eq_getElem_cons h]
  simp [List.getD, h]
theorem mu_step {ds : List Dp} {l : Pl} {k c : Nat} (hk : k < l.length) (hg : ∀ p ∈ l, GoodP c p) (hc : c ≤ 6) (h : isBad ds (l.getD k []) = true) : mu (stepL ds l k) < mu l := by
  have hm : l.getD k [] ∈ l := by rw [List.getD, List.getElem?_eq_getElem hk]; exact List.getElem_mem _
  obtain ⟨_, _, h3, h4⟩ := bad_parts (hg _ hm) hc h
  have h5 := pow_two h3 h4
  conv => rhs; rw [cut_at hk]
  unfold stepL
  rw [mu_append, mu_append, mu_append, mu_append]
  have e : ∀ a b : List Int, mu [a, b] = 3 ^ a.length + 3 ^ b.length := fun a b => by simp [mu]
  have e1 : ∀ a : List Int, mu [a] = 3 ^ a.length := fun a => by simp [mu]
  rw [e, e1]
  omega
theorem good_step {ds : List Dp} {l : Pl} {k c : Nat} (hk : k < l.length) (hg : ∀ p ∈ l, GoodP c p) (hc : c ≤ 6) (h : isBad ds (l.getD k []) = true) : ∀ p ∈ stepL ds l k, GoodP c p := fun p hp => by
  have hm : l.getD k [] ∈ l := by rw [List.getD, List.getElem?_eq_getElem hk]; exact List.getElem_mem _
  obtain ⟨h1, h2, _, _⟩ := bad_parts (hg _ hm) hc h
  unfold stepL at hp
  rcases List.mem_append.1 hp with hp | hp
  · rcases List.mem_append.1 hp with hp | hp
    · exact hg p (List.mem_of_mem_take hp)
    · rcases List.mem_cons.1 hp with rfl | hp
      · exact h1
      · rw [List.mem_singleton.1 hp]; exact h2
  · exact hg p (List.mem_of_mem_drop hp)
theorem step_len {ds : List Dp} {l : Pl} {k : Nat} (hk : k < l.length) : (stepL ds l k).length = l.length + 1 := by
  unfold stepL
  simp only [List.length_append, List.length_take, List.length_drop, List.length_cons, List.length_nil]
  omega
theorem step_front {ds : List Dp} {l : Pl} {k i : Nat} (hk : k < l.length) (hi : i < k) : (stepL ds l k).getD i [] = l.getD i [] := by
  unfold stepL
  rw [List.append_assoc, List.getD, List.getElem?_append_left (by rw [List.length_take]; omega), List.getElem?_take_of_lt hi]
  rfl


end Go.Proofs.Ythhldnlbneamiaa.Spr
