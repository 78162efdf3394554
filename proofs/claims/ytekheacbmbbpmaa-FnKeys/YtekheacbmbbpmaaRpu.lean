/-
  Tuples in order, each once (no program): the order of tuples, a tuple put to its place, and that an ordered list is told by its members.
-/
import Derived.Test.YtekheacbmbbpmaaFrame
namespace Go.Proofs.Ytekheacbmbbpmaa.Rpu

/-- A tuple is less than another as long, number by number. -/
def lessL : List Int → List Int → Bool
  | x :: xs, y :: ys => if x = y then lessL xs ys else decide (x < y)
  | _, _ => false

theorem lessL_nil (b : List Int) : lessL [] b = false := by unfold lessL; rfl
theorem lessL_cons_nil (x : Int) (a : List Int) : lessL (x :: a) [] = false := by unfold lessL; rfl
theorem lessL_cons (x y : Int) (a b : List Int) : lessL (x :: a) (y :: b) = if x = y then lessL a b else decide (x < y) := by rw [lessL]

theorem lessL_irrefl (a : List Int) : lessL a a = false := by
  induction a with
  | nil => exact lessL_nil _
  | cons x a ih => rw [lessL_cons, if_pos rfl]; exact ih

theorem lessL_trans {a b c : List Int} (h1 : lessL a b = true) (h2 : lessL b c = true) : lessL a c = true := by
  induction a generalizing b c with
  | nil => rw [lessL_nil] at h1; cases h1
  | cons x a ih =>
    cases b with
    | nil => rw [lessL_cons_nil] at h1; cases h1
    | cons y b =>
      cases c with
      | nil => rw [lessL_cons_nil] at h2; cases h2
      | cons z c =>
        rw [lessL_cons] at h1 h2 ⊢
        by_cases e1 : x = y
        · subst e1
          rw [if_pos rfl] at h1
          by_cases e2 : x = z
          · subst e2
            rw [if_pos rfl] at h2 ⊢
            exact ih h1 h2
          · rw [if_neg e2] at h2 ⊢
            exact h2
        · rw [if_neg e1] at h1
          have h1' := of_decide_eq_true h1
          by_cases e2 : y = z
          · subst e2
            rw [if_neg e1]
            exact h1
          · rw [if_neg e2] at h2
            have h2' := of_decide_eq_true h2
            rw [if_neg (by omega)]
            exact decide_eq_true (by omega)

theorem lessL_asymm {a b : List Int} (h1 : lessL a b = true) : lessL b a = false := by
  cases h : lessL b a
  · rfl
  · have := lessL_trans h1 h
    rw [lessL_irrefl] at this
    cases this

theorem lessL_ne {a b : List Int} (h : lessL a b = true) : a ≠ b := by
  rintro rfl
  rw [lessL_irrefl] at h
  cases h

theorem lessL_tri {a b : List Int} (hl : a.length = b.length) (hn : a ≠ b) (h : lessL a b = false) : lessL b a = true := by
  induction a generalizing b with
  | nil => exact absurd (List.eq_nil_of_length_eq_zero hl.symm).symm hn
  | cons x a ih =>
    cases b with
    | nil => simp at hl
    | cons y b =>
      rw [lessL_cons] at h ⊢
      by_cases e : x = y
      · subst e
        rw [if_pos rfl] at h ⊢
        exact ih (by simpa using hl) (fun e => hn (by rw [e])) h
      · rw [if_neg e] at h
        have := of_decide_eq_false h
        rw [if_neg (fun e' => e e'.symm)]
        exact decide_eq_true (by omega)

/-- In order, each once. -/
def Up (l : List (List Int)) : Prop := l.Pairwise fun a b => lessL a b = true

theorem up_told {xs ys : List (List Int)} (hx : Up xs) (hy : Up ys) (h : ∀ s, s ∈ xs ↔ s ∈ ys) : xs = ys := by
  induction xs generalizing ys with
  | nil =>
    cases ys with
    | nil => rfl
    | cons y ys => exact absurd ((h y).2 (by simp)) (by simp)
  | cons x xs ih =>
    cases ys with
    | nil => exact absurd ((h x).1 (by simp)) (by simp)
    | cons y ys =>
      unfold Up at hx hy
      rw [List.pairwise_cons] at hx hy
      have e : x = y := by
        rcases List.mem_cons.1 ((h x).1 (by simp)) with e | h1
        · exact e
        · rcases List.mem_cons.1 ((h y).2 (by simp)) with e | h2
          · exact e.symm
          · have := lessL_asymm (hy.1 x h1)
            rw [hx.1 y h2] at this
            cases this
      subst e
      congr 1
      refine ih hx.2 hy.2 (fun s => ⟨fun hs => ?_, fun hs => ?_⟩)
      · rcases List.mem_cons.1 ((h s).1 (by simp [hs])) with rfl | h1
        · exact absurd rfl (lessL_ne (hx.1 _ hs))
        · exact h1
      · rcases List.mem_cons.1 ((h s).2 (by simp [hs])) with rfl | h1
        · exact absurd rfl (lessL_ne (hy.1 _ hs))
        · exact h1

/-- A tuple put to its place, once. -/
def insL (t : List Int) : List (List Int) → List (List Int)
  | [] => [t]
  | x :: l => if lessL x t = true then x :: insL t l else if x = t then x :: l else t :: x :: l

theorem mem_insL {t s : List Int} {l : List (List Int)} : s ∈ insL t l ↔ s = t ∨ s ∈ l := by
  induction l with
  | nil => simp [insL]
  | cons x l ih =>
    rw [insL]
    split
    · rw [List.mem_cons, ih, List.mem_cons]
      constructor
      · rintro (h | h | h)
        · exact .inr (.inl h)
        · exact .inl h
        · exact .inr (.inr h)
      · rintro (h | h | h)
        · exact .inr (.inl h)
        · exact .inl h
        · exact .inr (.inr h)
    · split
      · rename_i e
        subst e
        constructor
        · exact .inr
        · rintro (rfl | h)
          · simp
          · exact h
      · rw [List.mem_cons]

theorem up_insL {t : List Int} {l : List (List Int)} (h : Up l) (hl : ∀ s ∈ l, s.length = t.length) : Up (insL t l) := by
  induction l with
  | nil => simp [insL, Up]
  | cons x l ih =>
    unfold Up at h ih ⊢
    rw [List.pairwise_cons] at h
    rw [insL]
    split
    · rename_i hx
      rw [List.pairwise_cons]
      refine ⟨fun s hs => ?_, ih h.2 (fun s hs => hl s (by simp [hs]))⟩
      rcases mem_insL.1 hs with rfl | hs
      · exact hx
      · exact h.1 s hs
    · rename_i hx
      split
      · rw [List.pairwise_cons]; exact h
      · rename_i hne
        have ht : lessL t x = true := lessL_tri (hl x (by simp)) hne (by simpa using hx)
        rw [List.pairwise_cons, List.pairwise_cons]
        refine ⟨fun s hs => ?_, h⟩
        rcases List.mem_cons.1 hs with rfl | hs
        · exact ht
        · exact lessL_trans ht (h.1 s hs)

/-- All of a list, each put to its place. -/
def tellL (l : List (List Int)) : List (List Int) := l.foldl (fun acc t => insL t acc) []

theorem tell_acc (l acc : List (List Int)) (n : Nat) (ha : Up acc) (hn : ∀ s ∈ acc, s.length = n) (hl : ∀ s ∈ l, s.length = n) : Up (l.foldl (fun acc t => insL t acc) acc) ∧ ∀ s, s ∈ l.foldl (fun acc t => insL t acc) acc ↔ s ∈ acc ∨ s ∈ l := by
  induction l generalizing acc with
  | nil => exact ⟨ha, fun s => by simp⟩
  | cons t l ih =>
    have ht : t.length = n := hl t (by simp)
    obtain ⟨h1, h2⟩ := ih (insL t acc) (up_insL ha (fun s hs => by rw [hn s hs, ht])) (fun s hs => by
      rcases mem_insL.1 hs with rfl | hs
      · exact ht
      · exact hn s hs) (fun s hs => hl s (by simp [hs]))
    refine ⟨h1, fun s => ?_⟩
    rw [List.foldl_cons, h2 s, mem_insL, List.mem_cons]
    constructor
    · rintro ((h | h) | h)
      · exact .inr (.inl h)
      · exact .inl h
      · exact .inr (.inr h)
    · rintro (h | h | h)
      · exact .inl (.inr h)
      · exact .inl (.inl h)
      · exact .inr h

theorem up_tellL {l : List (List Int)} {n : Nat} (hl : ∀ s ∈ l, s.length = n) : Up (tellL l) := (tell_acc l [] n (by simp [Up]) (by simp) hl).1
theorem mem_tellL {l : List (List Int)} {n : Nat} (hl : ∀ s ∈ l, s.length = n) (s : List Int) : s ∈ tellL l ↔ s ∈ l := by
  have := (tell_acc l [] n (by simp [Up]) (by simp) hl).2 s
  simpa [tellL] using this

/-- What is in order with the members of a list is what is told of it. -/
theorem told_is {l ys : List (List Int)} {n : Nat} (hl : ∀ s ∈ l, s.length = n) (hy : Up ys) (h : ∀ s, s ∈ ys ↔ s ∈ l) : ys = tellL l :=
  up_told hy (up_tellL hl) (fun s => by rw [h s, mem_tellL hl])
theorem told_up {l : List (List Int)} {n : Nat} (hl : ∀ s ∈ l, s.length = n) (h : Up l) : tellL l = l := (told_is hl h (fun _ => Iff.rfl)).symm


end Go.Proofs.Ytekheacbmbbpmaa.Rpu
