/-
  Sentences as data: which are good, and what columns are told by which.
-/
import Derived.Test.YtekheacbmbbpmaaRel
namespace Go.Proofs.Ytekheacbmbbpmaa.Cpu
open Go.Proofs.Ytekheacbmbbpmaa.Rel

abbrev Dp := List Int × List Int
def z0 : Dp := ([], [])
def depB (cols : Int) (d : Dp) : Bool := riseB 0 (cols - 1) d.1 && riseB 0 (cols - 1) d.2
def goodD (cols : Int) (ds : List Dp) : Bool := Val.inB cols 1 6 && decide (ds.length ≤ 8) && ds.all (depB cols)

theorem all_no {α : Type} {f : α → Bool} {d : α} {l : List α} {k : Nat} (hk : k < l.length) (h : f (l.getD k d) = false) : l.all f = false := by
  cases hh : l.all f
  · rfl
  · have hm : l.getD k d ∈ l := by simp only [List.getD, List.getElem?_eq_getElem hk, Option.getD_some]; exact List.getElem_mem hk
    have := (List.all_eq_true.1 hh) _ hm
    rw [h] at this
    cases this
theorem all_next {α : Type} {f : α → Bool} {d : α} {l : List α} {k : Nat} (hk : k < l.length) (h0 : (l.take k).all f = true) (h : f (l.getD k d) = true) : (l.take (k + 1)).all f = true := by
  have e : l.take (k + 1) = l.take k ++ [l.getD k d] := by rw [List.take_succ_eq_append_getElem hk]; simp [List.getD, hk]
  rw [e, List.all_append, h0, Bool.true_and, List.all_cons, h]
  rfl
theorem rise_iff {lo hi : Int} {zs : List Int} : riseB lo hi zs = true ↔ (∀ z ∈ zs, lo ≤ z ∧ z ≤ hi) ∧ UpN zs := by
  unfold riseB
  rw [Bool.and_eq_true, decide_eq_true_eq, allI_iff]
theorem rise_ends {zs : List Int} {c : Int} (h : 0 < zs.length) : riseB 0 (c - 1) zs = (decide (UpN zs) && decide (0 ≤ zs.getD 0 0) && decide (zs.getD (zs.length - 1) 0 < c)) := by
  rw [Bool.eq_iff_iff, rise_iff, Bool.and_eq_true, Bool.and_eq_true, decide_eq_true_eq, decide_eq_true_eq, decide_eq_true_eq]
  have gm : ∀ i, i < zs.length → zs.getD i 0 ∈ zs := fun i hi => by simp only [List.getD, List.getElem?_eq_getElem hi, Option.getD_some]; exact List.getElem_mem hi
  constructor
  · rintro ⟨h1, h2⟩
    exact ⟨⟨h2, (h1 _ (gm 0 h)).1⟩, by have := (h1 _ (gm (zs.length - 1) (by omega))).2; omega⟩
  · rintro ⟨⟨h2, h0⟩, h1⟩
    refine ⟨fun z hz => ?_, h2⟩
    obtain ⟨i, hi, rfl⟩ := List.getElem_of_mem hz
    have ei : zs[i] = zs.getD i 0 := by simp [List.getD, hi]
    rw [ei]
    constructor
    · by_cases e : i = 0
      · rw [e]; exact h0
      · have := upN_get h2 (i := 0) (j := i) (by omega) hi; omega
    · by_cases e : i = zs.length - 1
      · rw [e]; omega
      · have := upN_get h2 (i := i) (j := zs.length - 1) (by omega) (by omega); omega

/-- What follows: the columns themselves, and To of each sentence whose From follow. -/
inductive Cl (ds : List Dp) (s : Int → Prop) : Int → Prop
  | base {z : Int} (h : s z) : Cl ds s z
  | step {d : Dp} {z : Int} (hd : d ∈ ds) (hf : ∀ x ∈ d.1, Cl ds s x) (hz : z ∈ d.2) : Cl ds s z

theorem Cl.mono {ds : List Dp} {s t : Int → Prop} (h : ∀ z, s z → Cl ds t z) {z : Int} (hz : Cl ds s z) : Cl ds t z := by
  induction hz with
  | base h0 => exact h _ h0
  | step hd _ hz ih => exact Cl.step hd ih hz
/-- What is shut under all sentences has all that follows. -/
theorem Cl.least {ds : List Dp} {s p : Int → Prop} (h0 : ∀ z, s z → p z) (h1 : ∀ d ∈ ds, (∀ x ∈ d.1, p x) → ∀ z ∈ d.2, p z) {z : Int} (hz : Cl ds s z) : p z := by
  induction hz with
  | base h => exact h0 _ h
  | step hd _ hz ih => exact h1 _ hd ih _ hz
theorem Cl.shut {ds : List Dp} {s : Int → Prop} (h1 : ∀ d ∈ ds, (∀ x ∈ d.1, s x) → ∀ z ∈ d.2, s z) {z : Int} : Cl ds s z ↔ s z := ⟨Cl.least (fun _ h => h) h1, Cl.base⟩

/-- Columns as a list: those of the first six of which it holds. -/
def listI (f : Nat → Bool) : List Int := ((List.range 6).filter f).map fun (i : Nat) => (i : Int)
theorem mem_listI {f : Nat → Bool} {z : Int} : z ∈ listI f ↔ ∃ i : Nat, i < 6 ∧ f i = true ∧ z = (i : Int) := by
  unfold listI
  simp only [List.mem_map, List.mem_filter, List.mem_range]
  constructor
  · rintro ⟨i, ⟨h1, h2⟩, rfl⟩; exact ⟨i, h1, h2, rfl⟩
  · rintro ⟨i, h1, h2, rfl⟩; exact ⟨i, ⟨h1, h2⟩, rfl⟩
theorem up_listI (f : Nat → Bool) : UpN (listI f) := by
  unfold UpN listI
  rw [List.pairwise_map]
  refine List.Pairwise.imp ?_ (List.Pairwise.filter f (List.pairwise_lt_range (n := 6)))
  intro a b h
  omega
theorem listI_congr {f g : Nat → Bool} (h : ∀ i, i < 6 → f i = g i) : listI f = listI g := by
  unfold listI
  congr 1
  exact List.filter_congr (fun i hi => h i (List.mem_range.1 hi))
theorem listI_length (f : Nat → Bool) : (listI f).length ≤ 6 := by
  unfold listI
  rw [List.length_map]
  exact Nat.le_trans (List.length_filter_le _ _) (by simp)
/-- A rising list of columns is the list of those in it. -/
theorem listI_of {zs : List Int} (hu : UpN zs) (hb : ∀ z ∈ zs, 0 ≤ z ∧ z < 6) : zs = listI fun i => decide ((i : Int) ∈ zs) := by
  refine upN_told hu (up_listI _) (fun s => ?_)
  rw [mem_listI]
  constructor
  · intro h
    have := hb s h
    exact ⟨s.toNat, by omega, by rw [decide_eq_true_eq, show ((s.toNat : Nat) : Int) = s by omega]; exact h, by omega⟩
  · rintro ⟨i, _, h, rfl⟩
    exact of_decide_eq_true h
theorem up_length {zs : List Int} (hu : UpN zs) (hb : ∀ z ∈ zs, 0 ≤ z ∧ z < 6) : zs.length ≤ 6 := by
  rw [listI_of hu hb]
  exact listI_length _

open Classical in
/-- Whether a column follows from some. -/
noncomputable def clB (ds : List Dp) (zs : List Int) (i : Nat) : Bool := decide (Cl ds (fun z => z ∈ zs) (i : Int))
theorem clB_iff {ds : List Dp} {zs : List Int} {i : Nat} : clB ds zs i = true ↔ Cl ds (fun z => z ∈ zs) (i : Int) := by
  unfold clB
  exact @decide_eq_true_iff _ (Classical.propDecidable _)
/-- All that follow, rising. -/
noncomputable def clL (ds : List Dp) (zs : List Int) : List Int := listI (clB ds zs)
def insideB (zs ys : List Int) : Bool := zs.all fun z => decide (z ∈ ys)
theorem insideB_iff {zs ys : List Int} : insideB zs ys = true ↔ ∀ z ∈ zs, z ∈ ys := by
  unfold insideB
  rw [List.all_eq_true]
  exact ⟨fun h z hz => of_decide_eq_true (h z hz), fun h z hz => decide_eq_true (h z hz)⟩
def Cols (ds : List Dp) : Prop := ∀ d ∈ ds, (∀ z ∈ d.1, 0 ≤ z ∧ z < 6) ∧ ∀ z ∈ d.2, 0 ≤ z ∧ z < 6
theorem Cl.col {ds : List Dp} {s : Int → Prop} (hd : Cols ds) (hs : ∀ z, s z → 0 ≤ z ∧ z < 6) {z : Int} (h : Cl ds s z) : 0 ≤ z ∧ z < 6 :=
  Cl.least (p := fun z => 0 ≤ z ∧ z < 6) hs (fun d h' _ z hz => (hd d h').2 z hz) h
theorem mem_clL {ds : List Dp} {zs : List Int} (hd : Cols ds) (hs : ∀ z ∈ zs, 0 ≤ z ∧ z < 6) {z : Int} : z ∈ clL ds zs ↔ Cl ds (fun z => z ∈ zs) z := by
  unfold clL
  rw [mem_listI]
  constructor
  · rintro ⟨i, _, h, rfl⟩; exact clB_iff.1 h
  · intro h
    have hz := Cl.col hd hs h
    exact ⟨z.toNat, by omega, clB_iff.2 (by rw [show ((z.toNat : Nat) : Int) = z by omega]; exact h), by omega⟩
theorem cols_of {cols : Int} {ds : List Dp} (h : goodD cols ds = true) : Cols ds ∧ 1 ≤ cols ∧ cols ≤ 6 ∧ ds.length ≤ 8 ∧ ∀ d ∈ ds, depB cols d = true := by
  unfold goodD at h
  rw [Bool.and_eq_true, Bool.and_eq_true, decide_eq_true_eq] at h
  obtain ⟨⟨h1, h2⟩, h3⟩ := h
  unfold Val.inB at h1
  rw [decide_eq_true_eq] at h1
  rw [List.all_eq_true] at h3
  refine ⟨fun d hd => ?_, h1.1, h1.2, h2, h3⟩
  have := h3 d hd
  unfold depB at this
  rw [Bool.and_eq_true, rise_iff, rise_iff] at this
  exact ⟨fun z hz => by have := this.1.1 z hz; omega, fun z hz => by have := this.2.1 z hz; omega⟩


end Go.Proofs.Ytekheacbmbbpmaa.Cpu
