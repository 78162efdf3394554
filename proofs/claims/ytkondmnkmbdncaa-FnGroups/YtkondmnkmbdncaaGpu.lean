/-
  Links as data (no program): what leads to what, groups, what is ready.
-/
import Derived.Test.YtkondmnkmbdncaaRel
import Derived.Test.YtkondmnkmbdncaaMem
namespace Go.Proofs.Ytkondmnkmbdncaa.Gpu
open Go.Proofs.Ytkondmnkmbdncaa.Rel

def numN (n : Nat) : List Int := (List.range n).map fun (i : Nat) => (i : Int)
theorem numN_length (n : Nat) : (numN n).length = n := by simp [numN]
theorem numN_get (n k : Nat) (h : k < n) : (numN n).getD k 0 = (k : Int) := by simp [numN, List.getD, h]
theorem mem_numN {n : Nat} {z : Int} : z ∈ numN n ↔ 0 ≤ z ∧ z < (n : Int) := by
  unfold numN
  rw [List.mem_map]
  constructor
  · rintro ⟨i, hi, rfl⟩
    have := List.mem_range.1 hi
    omega
  · rintro ⟨h0, h1⟩
    exact ⟨z.toNat, List.mem_range.2 (by omega), by omega⟩
theorem numN_wf (n : Nat) (hn : n ≤ 100000) : ∀ z ∈ numN n, (Lit.int .i64 z).wf = true := fun z hz => by
  have := mem_numN.1 hz
  exact Mem.int_wf _ (by omega) (by omega)
theorem numN_succ (n : Nat) : numN (n + 1) = numN n ++ [(n : Int)] := by simp [numN, List.range_succ]
theorem up_numN (n : Nat) : UpN (numN n) := by
  induction n with
  | zero => simp [numN, UpN]
  | succ n ih =>
    rw [numN_succ]
    unfold UpN at *
    rw [List.pairwise_append]
    refine ⟨ih, by simp, fun a ha b hb => ?_⟩
    rw [List.mem_singleton.1 hb]
    exact (mem_numN.1 ha).2
theorem up_filter {l : List Int} (h : UpN l) (p : Int → Bool) : UpN (l.filter p) := List.Pairwise.sublist (List.filter_sublist) h

def gRow (xs : Ll) (i : Int) : List Int := xs.getD i.toNat []
def goodG (xs : Ll) : Bool := decide (xs.length ≤ 12) && xs.all (riseB 0 ((xs.length : Int) - 1))
structure GoodP (xs : Ll) : Prop where
  few : xs.length ≤ 12
  up : ∀ r ∈ xs, UpN r
  mem : ∀ r ∈ xs, ∀ z ∈ r, 0 ≤ z ∧ z < (xs.length : Int)
theorem good_iff {xs : Ll} : goodG xs = true ↔ GoodP xs := by
  unfold goodG riseB
  rw [Bool.and_eq_true, decide_eq_true_eq, List.all_eq_true]
  constructor
  · rintro ⟨h1, h2⟩
    refine ⟨h1, fun r hr => ?_, fun r hr z hz => ?_⟩
    · have := h2 r hr
      rw [Bool.and_eq_true, decide_eq_true_eq] at this
      exact this.2
    · have := h2 r hr
      rw [Bool.and_eq_true, decide_eq_true_eq, allI_iff] at this
      have := this.1 z hz
      omega
  · rintro ⟨h1, h2, h3⟩
    refine ⟨h1, fun r hr => ?_⟩
    rw [Bool.and_eq_true, decide_eq_true_eq, allI_iff]
    exact ⟨fun z hz => by have := h3 r hr z hz; omega, h2 r hr⟩
theorem row_mem {xs : Ll} {i : Int} {z : Int} (h : z ∈ gRow xs i) : gRow xs i ∈ xs := by
  unfold gRow at *
  by_cases hi : i.toNat < xs.length
  · simp only [List.getD, List.getElem?_eq_getElem hi, Option.getD_some]
    exact List.getElem_mem hi
  · rw [List.getD, List.getElem?_eq_none (by omega)] at h
    cases h
theorem row_in {xs : Ll} (hg : GoodP xs) {i z : Int} (h : z ∈ gRow xs i) : 0 ≤ z ∧ z < (xs.length : Int) := hg.mem _ (row_mem h) z h
theorem row_up {xs : Ll} (hg : GoodP xs) {i : Int} : UpN (gRow xs i) := by
  by_cases hi : i.toNat < xs.length
  · refine hg.up _ ?_
    unfold gRow
    simp only [List.getD, List.getElem?_eq_getElem hi, Option.getD_some]
    exact List.getElem_mem hi
  · unfold gRow
    rw [List.getD, List.getElem?_eq_none (by omega)]
    exact List.Pairwise.nil

/-- One leads to another, at once or over others. -/
inductive Rch (xs : Ll) (i : Int) : Int → Prop
  | refl : Rch xs i i
  | step {j k : Int} : Rch xs i j → k ∈ gRow xs j → Rch xs i k
theorem Rch.trans {xs : Ll} {i j k : Int} (h : Rch xs i j) (h2 : Rch xs j k) : Rch xs i k := by
  induction h2 with
  | refl => exact h
  | step _ he ih => exact ih.step he
theorem Rch.one {xs : Ll} {i j : Int} (h : j ∈ gRow xs i) : Rch xs i j := Rch.refl.step h
theorem Rch.inside {xs : Ll} (hg : GoodP xs) {i j : Int} (hi : 0 ≤ i ∧ i < (xs.length : Int)) (h : Rch xs i j) : 0 ≤ j ∧ j < (xs.length : Int) := by
  induction h with
  | refl => exact hi
  | step _ he _ => exact row_in hg he
theorem Rch.closed {xs : Ll} {i : Int} {S : Int → Prop} (h0 : S i) (hs : ∀ x, S x → ∀ y ∈ gRow xs x, S y) {j : Int} (h : Rch xs i j) : S j := by
  induction h with
  | refl => exact h0
  | step _ he ih => exact hs _ ih _ he
/-- The first step. -/
theorem Rch.first {xs : Ll} {i j : Int} (h : Rch xs i j) : i = j ∨ ∃ k ∈ gRow xs i, Rch xs k j := by
  induction h with
  | refl => exact .inl rfl
  | step _ he ih =>
    right
    rcases ih with rfl | ⟨k, hk, hr⟩
    · exact ⟨_, he, .refl⟩
    · exact ⟨k, hk, hr.step he⟩

noncomputable def rB (xs : Ll) (i j : Int) : Bool := @decide (Rch xs i j) (Classical.propDecidable _)
theorem rB_iff {xs : Ll} {i j : Int} : rB xs i j = true ↔ Rch xs i j := by unfold rB; exact @decide_eq_true_iff _ (Classical.propDecidable _)
theorem rB_no {xs : Ll} {i j : Int} : rB xs i j = false ↔ ¬ Rch xs i j := by rw [← rB_iff]; cases rB xs i j <;> simp
noncomputable def reachN (xs : Ll) (i : Int) : List Int := (numN xs.length).filter (rB xs i)
theorem mem_reach {xs : Ll} (hg : GoodP xs) {i j : Int} (hi : 0 ≤ i ∧ i < (xs.length : Int)) : j ∈ reachN xs i ↔ Rch xs i j := by
  unfold reachN
  rw [List.mem_filter, rB_iff, mem_numN]
  exact ⟨fun h => h.2, fun h => ⟨h.inside hg hi, h⟩⟩
theorem up_reach (xs : Ll) (i : Int) : UpN (reachN xs i) := up_filter (up_numN _) _
theorem reach_len (xs : Ll) (i : Int) : (reachN xs i).length ≤ xs.length := by
  have := List.length_filter_le (rB xs i) (numN xs.length)
  rwa [numN_length] at this
theorem reach_in {xs : Ll} {i z : Int} (h : z ∈ reachN xs i) : 0 ≤ z ∧ z < (xs.length : Int) := mem_numN.1 ((List.mem_filter.1 h).1)
theorem reach_wf {xs : Ll} (h : xs.length ≤ 100000) {i : Int} : ∀ z ∈ reachN xs i, (Lit.int .i64 z).wf = true := fun z hz => numN_wf _ h z ((List.mem_filter.1 hz).1)
/-- A rising list with just what is led to. -/
theorem reach_told {xs : Ll} (hg : GoodP xs) {i : Int} (hi : 0 ≤ i ∧ i < (xs.length : Int)) {l : List Int} (hu : UpN l) (h : ∀ j, j ∈ l ↔ Rch xs i j) : l = reachN xs i :=
  upN_told hu (up_reach xs i) (fun s => by rw [h, mem_reach hg hi])

/-- A list that is closed under the links, has the beginning, and nothing that is not led to. -/
theorem closed_told {xs : Ll} (hg : GoodP xs) {i : Int} (hi : 0 ≤ i ∧ i < (xs.length : Int)) {l : List Int} (hu : UpN l) (h0 : i ∈ l) (hr : ∀ j ∈ l, Rch xs i j) (hc : ∀ x ∈ l, ∀ y ∈ gRow xs x, y ∈ l) : l = reachN xs i :=
  reach_told hg hi hu (fun j => ⟨hr j, fun h => h.closed (S := fun x => x ∈ l) h0 hc⟩)

/-! Groups. -/
noncomputable def togB (xs : Ll) (i j : Int) : Bool := rB xs i j && rB xs j i
theorem togB_iff {xs : Ll} {i j : Int} : togB xs i j = true ↔ Rch xs i j ∧ Rch xs j i := by unfold togB; rw [Bool.and_eq_true, rB_iff, rB_iff]
noncomputable def groupN (xs : Ll) (i : Int) : List Int := (numN xs.length).filter (togB xs i)
theorem group_filter (xs : Ll) (i : Int) : (reachN xs i).filter (fun x => rB xs x i) = groupN xs i := by
  unfold reachN groupN
  rw [List.filter_filter]
  exact List.filter_congr (fun x _ => by unfold togB; rw [Bool.and_comm])
theorem group_len (xs : Ll) (i : Int) : (groupN xs i).length ≤ xs.length := by
  have := List.length_filter_le (togB xs i) (numN xs.length)
  rwa [numN_length] at this
theorem group_wf {xs : Ll} (h : xs.length ≤ 100000) {i : Int} : ∀ z ∈ groupN xs i, (Lit.int .i64 z).wf = true := fun z hz => numN_wf _ h z ((List.mem_filter.1 hz).1)
theorem up_group (xs : Ll) (i : Int) : UpN (groupN xs i) := up_filter (up_numN _) _
theorem mem_group {xs : Ll} {i j : Int} : j ∈ groupN xs i ↔ (0 ≤ j ∧ j < (xs.length : Int)) ∧ Rch xs i j ∧ Rch xs j i := by
  unfold groupN
  rw [List.mem_filter, mem_numN, togB_iff]

def nodeB (xs : Ll) (k : Int) : Bool := goodG xs && Val.inB k 0 ((xs.length : Int) - 1)
noncomputable def reachV (xs : Ll) (k : Int) : List Int := bif nodeB xs k then reachN xs k else []
noncomputable def groupV (xs : Ll) (k : Int) : List Int := bif nodeB xs k then groupN xs k else []
theorem node_iff {xs : Ll} {k : Int} : nodeB xs k = true ↔ GoodP xs ∧ 0 ≤ k ∧ k < (xs.length : Int) := by
  unfold nodeB Val.inB
  rw [Bool.and_eq_true, good_iff, decide_eq_true_eq]
  exact ⟨fun h => ⟨h.1, by omega⟩, fun h => ⟨h.1, by omega⟩⟩


end Go.Proofs.Ytkondmnkmbdncaa.Gpu
