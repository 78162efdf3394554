/-
  What tables' functions tell hangs on keys and columns alone. It speaks of no program's text.
-/
import Derived.Test.YtciaegdgoabipaaShl
import Derived.Test.YtciaegdgoabipaaFind
namespace Go.Proofs.Ytciaegdgoabipaa.Pur
open Go.RowKit
open Go.Proofs.Ytciaegdgoabipaa.Frame Go.Proofs.Ytciaegdgoabipaa.Mem Go.Proofs.Ytciaegdgoabipaa.Vals Go.Proofs.Ytciaegdgoabipaa.Rws Go.Proofs.Ytciaegdgoabipaa.Val Go.Proofs.Ytciaegdgoabipaa.Tab Go.Proofs.Ytciaegdgoabipaa.Gtab Go.Proofs.Ytciaegdgoabipaa.Drp Go.Proofs.Ytciaegdgoabipaa.Tel Go.Proofs.Ytciaegdgoabipaa.Find Go.Proofs.Ytciaegdgoabipaa.Shf Go.Proofs.Ytciaegdgoabipaa.Shl

theorem plain_getD (rs : List RowV) (i : Nat) : (plain rs).getD i (0, []) = ((rs.getD i rd).key, (rs.getD i rd).vs) := by
  by_cases h : i < rs.length
  · exact plain_get rs i h
  · simp [plain, List.getD, List.getElem?_eq_none (show rs.length ≤ i by omega), rd]

theorem getD_plain {qs rs : List RowV} (h : plain qs = plain rs) (i : Nat) : (qs.getD i rd).key = (rs.getD i rd).key ∧ (qs.getD i rd).vs = (rs.getD i rd).vs := by
  have h1 := plain_getD qs i
  rw [h, plain_getD rs i] at h1
  simp only [Prod.mk.injEq] at h1
  exact ⟨h1.1.symm, h1.2.symm⟩

theorem length_plain {qs rs : List RowV} (h : plain qs = plain rs) : qs.length = rs.length := by
  have := congrArg List.length h
  simpa [plain] using this

theorem goodT_plain {qs rs : List RowV} (h : plain qs = plain rs) : goodT qs = goodT rs := by
  have h1 : ∀ k, okTo qs k = okTo rs k := by
    intro k
    induction k with
    | zero => rfl
    | succ k ih =>
      rw [okTo, okTo, ih]
      congr 1
      unfold okAt rB
      rw [(getD_plain h k).1, (getD_plain h k).2, (getD_plain h (k - 1)).1]
  unfold goodT
  rw [h1, length_plain h]

theorem tellV_plain {qs rs : List RowV} (h : plain qs = plain rs) : tellV qs = tellV rs := by
  unfold tellV
  rw [goodT_plain h, h]

theorem plain_dropK (k : Int) (rs : List RowV) : plain (dropK k rs) = (plain rs).filter fun x => decide (x.1 ≠ k) := by
  simp only [plain, dropK, List.filter_map]
  rfl

theorem dropK_plain {qs rs : List RowV} (k : Int) (h : plain qs = plain rs) : plain (dropK k qs) = plain (dropK k rs) := by
  rw [plain_dropK, plain_dropK, h]

def pins (x : Int × List (Bool × Int)) : List (Int × List (Bool × Int)) → List (Int × List (Bool × Int))
  | [] => [x]
  | y :: t => if x.1 < y.1 then x :: y :: t else y :: pins x t

theorem plain_insR (r : RowV) (rs : List RowV) : plain (insR r rs) = pins (r.key, r.vs) (plain rs) := by
  induction rs with
  | nil => rfl
  | cons q rs ih =>
    rw [insR]
    by_cases h : r.key < q.key
    · rw [if_pos h]
      simp [plain, pins, h]
    · rw [if_neg h]
      simp only [plain, List.map_cons, pins, h, if_false] at ih ⊢
      rw [ih]

theorem insR_plain {qs rs : List RowV} {r s : RowV} (h : plain qs = plain rs) (hk : r.key = s.key) (hv : r.vs = s.vs) : plain (insR r qs) = plain (insR s rs) := by
  rw [plain_insR, plain_insR, h, hk, hv]

theorem find_is (key : Int) (rs : List RowV) : (find key rs = -1 ∧ ∀ r ∈ rs, r.key ≠ key) ∨ ∃ k, k < rs.length ∧ find key rs = (k : Int) ∧ (rs.getD k rd).key = key := by
  have aux : ∀ (rs : List RowV) (i : Nat), (findTo key rs i = -1 ∧ ∀ r ∈ rs, r.key ≠ key) ∨ ∃ k, k < rs.length ∧ findTo key rs i = ((i + k : Nat) : Int) ∧ (rs.getD k rd).key = key := by
    intro rs
    induction rs with
    | nil => intro i; exact Or.inl ⟨rfl, by simp⟩
    | cons r rs ih =>
      intro i
      by_cases e : r.key = key
      · exact Or.inr ⟨0, by simp, by rw [findTo, if_pos e]; rfl, by simpa using e⟩
      · rcases ih (i + 1) with ⟨h, hn⟩ | ⟨k, hk, h, hg⟩
        · refine Or.inl ⟨by rw [findTo, if_neg e, h], fun s hs => ?_⟩
          rcases List.mem_cons.1 hs with rfl | hs
          · exact e
          · exact hn s hs
        · exact Or.inr ⟨k + 1, by simp; omega, by rw [findTo, if_neg e, h]; congr 1; omega, by simpa using hg⟩
  have := aux rs 0
  simpa [find] using this

theorem mem_plain {qs rs : List RowV} (h : plain qs = plain rs) {r : RowV} (hr : r ∈ qs) : ∃ s ∈ rs, s.key = r.key ∧ s.vs = r.vs := by
  have h1 : (r.key, r.vs) ∈ plain rs := by rw [← h]; exact List.mem_map_of_mem (f := fun r : RowV => (r.key, r.vs)) hr
  obtain ⟨s, hs, e⟩ := List.mem_map.1 h1
  simp only [Prod.mk.injEq] at e
  exact ⟨s, hs, e.1, e.2⟩

theorem any_plain {qs rs : List RowV} (h : plain qs = plain rs) (key : Int) : (qs.any fun r => decide (r.key = key)) = decide (0 ≤ find key rs) := by
  rcases find_is key rs with ⟨hf, hn⟩ | ⟨k, hk, hf, hg⟩
  · rw [hf, List.any_eq_false.2 (fun r hr => ?_)]
    · rfl
    · obtain ⟨s, hs, e1, _⟩ := mem_plain h hr
      have := hn s hs
      rw [e1] at this
      simpa using this
  · obtain ⟨s, hs, e1, _⟩ := mem_plain h.symm (getD_mem_rd hk)
    rw [hf, List.any_eq_true.2 ⟨s, hs, decide_eq_true (e1.trans hg)⟩, decide_eq_true (by omega)]

theorem rising_same {rs : List RowV} (h : Rising rs) {r s : RowV} (hr : r ∈ rs) (hs : s ∈ rs) (e : r.key = s.key) : r = s := by
  induction rs with
  | nil => cases hr
  | cons q rs ih =>
    obtain ⟨h1, h2⟩ := List.pairwise_cons.1 h
    rcases List.mem_cons.1 hr with e1 | hr'
    · rcases List.mem_cons.1 hs with e2 | hs'
      · rw [e1, e2]
      · have := h1 s hs'; rw [← e1] at this; omega
    · rcases List.mem_cons.1 hs with e2 | hs'
      · have := h1 r hr'; rw [← e2] at this; omega
      · exact ih h2 hr' hs'

/-- The row that FindRow tells. -/
def rowOut (key : Int) (rs : List RowV) : Int × List (Bool × Int) := if foundB key rs then ((foundR key rs).key, (foundR key rs).vs) else (0, [])

theorem rowOut_of {qs rs : List RowV} (hg : goodT rs = true) (h : plain qs = plain rs) {r : RowV} (hr : r ∈ qs) : rowOut r.key rs = (r.key, r.vs) ∧ foundB r.key rs = true := by
  obtain ⟨s, hs, e1, e2⟩ := mem_plain h hr
  have hR := (goodT_rising hg).1
  rcases find_is r.key rs with ⟨_, hn⟩ | ⟨k, hk, hf, hgk⟩
  · exact absurd e1 (hn s hs)
  · have e : rs.getD k rd = s := rising_same hR (getD_mem_rd hk) hs (by rw [hgk, e1])
    have hB : foundB r.key rs = true := by
      unfold foundB
      rw [hg, hf, decide_eq_true (by omega)]
      rfl
    refine ⟨?_, hB⟩
    have hX : foundR r.key rs = s := by
      unfold foundR
      rw [hf, ← e]
      rfl
    unfold rowOut
    rw [if_pos hB, hX, e1, e2]

theorem rowOut_no {key : Int} {rs : List RowV} (h : foundB key rs = false) : rowOut key rs = (0, []) := by
  unfold rowOut
  rw [h]
  rfl

/-- The rows from a key on to a key. -/
def rangeK (lo hi : Int) (rs : List RowV) : List RowV := rs.filter fun r => inB r.key lo hi

theorem plain_rangeK (lo hi : Int) (rs : List RowV) : plain (rangeK lo hi rs) = (plain rs).filter fun x => inB x.1 lo hi := by
  simp only [plain, rangeK, List.filter_map]
  rfl

theorem rangeK_plain {qs rs : List RowV} (lo hi : Int) (h : plain qs = plain rs) : plain (rangeK lo hi qs) = plain (rangeK lo hi rs) := by
  rw [plain_rangeK, plain_rangeK, h]

theorem okTo_of {rs : List RowV} (h : Rising rs) (hB : ∀ r ∈ rs, rB r = true) : ∀ k, k ≤ rs.length → okTo rs k = true := by
  intro k
  induction k with
  | zero => intro _; rfl
  | succ k ih =>
    intro hk
    rw [okTo, ih (by omega)]
    unfold okAt
    rw [hB _ (getD_mem_rd (by omega))]
    by_cases h0 : k = 0
    · rw [decide_eq_true h0]; rfl
    · have e : rs = rs.take k ++ rs.getD k rd :: rs.drop (k + 1) := by
        rw [← drop_succ_rd (by omega), List.take_append_drop]
      have h1 := h
      rw [e] at h1
      have hm : rs.getD (k - 1) rd ∈ rs.take k := by
        have h2 : k - 1 < (rs.take k).length := by rw [List.length_take]; omega
        have h3 := getD_mem_rd h2
        have h4 : (rs.take k).getD (k - 1) rd = rs.getD (k - 1) rd := by
          simp only [List.getD, List.getElem?_take, if_pos (show k - 1 < k by omega)]
        rwa [h4] at h3
      have := (List.pairwise_append.1 h1).2.2 _ hm (rs.getD k rd) (by simp)
      rw [decide_eq_true this]
      simp

theorem goodT_of {rs : List RowV} (h : Rising rs) (hB : ∀ r ∈ rs, rB r = true) (hl : rs.length ≤ 20) : goodT rs = true := by
  unfold goodT
  rw [okTo_of h hB _ (Nat.le_refl _), decide_eq_true hl]
  rfl

theorem goodT_filter {rs : List RowV} (f : RowV → Bool) (h : goodT rs = true) : goodT (rs.filter f) = true := by
  obtain ⟨h1, h2, h3⟩ := goodT_rising h
  exact goodT_of (h1.filter _) (fun r hr => h2 r (List.mem_filter.1 hr).1) (Nat.le_trans (List.length_filter_le _ _) h3)


end Go.Proofs.Ytciaegdgoabipaa.Pur
