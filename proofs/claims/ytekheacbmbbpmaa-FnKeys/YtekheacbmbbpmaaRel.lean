/-
  Relations as data (no program): where names stand, what is picked, the order of tuples and of names, and what the program's ways and the model's have in common.
-/
import Derived.Test.YtekheacbmbbpmaaRpu
import Derived.Test.YtekheacbmbbpmaaVal
import Derived.Lib.Slices
namespace Go.Proofs.Ytekheacbmbbpmaa.Rel
open Go.Proofs.Ytekheacbmbbpmaa.Rpu

abbrev Ll := List (List Int)

/-! Where a name stands. -/
theorem idxFrom_cases (x : Int) : ∀ (zs : List Int) (i : Nat), (Lib.idxFrom zs x i = -1 ∧ x ∉ zs) ∨ ∃ k, k < zs.length ∧ Lib.idxFrom zs x i = ((i + k : Nat) : Int) ∧ zs.getD k 0 = x ∧ ∀ j, j < k → zs.getD j 0 ≠ x
  | [], _ => .inl ⟨rfl, by simp⟩
  | z :: zs, i => by
    by_cases hz : z = x
    · exact .inr ⟨0, by simp, by simp [Lib.idxFrom, hz], by simpa using hz, fun j hj => absurd hj (by omega)⟩
    · rcases idxFrom_cases x zs (i + 1) with ⟨h1, h2⟩ | ⟨k, h1, h2, h3, h4⟩
      · exact .inl ⟨by simp only [Lib.idxFrom, if_neg hz]; exact h1, by
          intro hm
          rcases List.mem_cons.1 hm with e | hm
          · exact hz e.symm
          · exact h2 hm⟩
      · refine .inr ⟨k + 1, by simpa using h1, ?_, by simpa using h3, fun j hj => ?_⟩
        · simp only [Lib.idxFrom, if_neg hz, h2]
          congr 1
          omega
        · cases j with
          | zero => simpa using hz
          | succ j => simpa using h4 j (by omega)
theorem idx_cases (ns : List Int) (n : Int) : (Lib.idxOf ns n = -1 ∧ n ∉ ns) ∨ ∃ k, k < ns.length ∧ Lib.idxOf ns n = (k : Int) ∧ ns.getD k 0 = n ∧ ∀ j, j < k → ns.getD j 0 ≠ n := by
  rcases idxFrom_cases n ns 0 with h | ⟨k, h1, h2, h3⟩
  · exact .inl h
  · exact .inr ⟨k, h1, by rw [Lib.idxOf, h2]; simp, h3⟩
theorem getD_mem0 {zs : List Int} {i : Nat} (h : i < zs.length) : zs.getD i 0 ∈ zs := by
  simp only [List.getD, List.getElem?_eq_getElem h, Option.getD_some]
  exact List.getElem_mem h
theorem idx_nonneg (ns : List Int) (n : Int) : 0 ≤ Lib.idxOf ns n ↔ n ∈ ns := by
  rcases idx_cases ns n with ⟨h1, h2⟩ | ⟨k, h1, h2, h3, _⟩
  · rw [h1]
    exact ⟨fun h => absurd h (by decide), fun h => absurd h h2⟩
  · rw [h2]
    exact ⟨fun _ => h3 ▸ getD_mem0 h1, fun _ => by omega⟩
theorem idx_at {ns : List Int} {n : Int} (h : n ∈ ns) : (Lib.idxOf ns n).toNat < ns.length ∧ Lib.idxOf ns n = ((Lib.idxOf ns n).toNat : Int) ∧ ns.getD (Lib.idxOf ns n).toNat 0 = n := by
  rcases idx_cases ns n with ⟨_, h2⟩ | ⟨k, h1, h2, h3, _⟩
  · exact absurd h h2
  · rw [h2]
    exact ⟨by simpa using h1, by simp, by simpa using h3⟩
theorem idx_lt (ns : List Int) (n : Int) : Lib.idxOf ns n < (ns.length : Int) := by
  rcases idx_cases ns n with ⟨h1, _⟩ | ⟨k, h1, h2, _⟩ <;> omega
theorem idx_ge (ns : List Int) (n : Int) : -1 ≤ Lib.idxOf ns n := by
  rcases idx_cases ns n with ⟨h1, _⟩ | ⟨k, h1, h2, _⟩ <;> omega
theorem idx_is {ns : List Int} {n : Int} {k : Nat} (h1 : k < ns.length) (h2 : ns.getD k 0 = n) (h3 : ∀ j, j < k → ns.getD j 0 ≠ n) : Lib.idxOf ns n = k := by
  rw [Lib.idxOf, Lib.idxFrom_hit n ns k 0 h1 h2 h3]
  simp

/-! Names in order. -/
def UpN (l : List Int) : Prop := l.Pairwise (· < ·)
instance (l : List Int) : Decidable (UpN l) := by unfold UpN; exact inferInstance
theorem upN_told {xs ys : List Int} (hx : UpN xs) (hy : UpN ys) (h : ∀ s, s ∈ xs ↔ s ∈ ys) : xs = ys := by
  induction xs generalizing ys with
  | nil =>
    cases ys with
    | nil => rfl
    | cons y ys => exact absurd ((h y).2 (by simp)) (by simp)
  | cons x xs ih =>
    cases ys with
    | nil => exact absurd ((h x).1 (by simp)) (by simp)
    | cons y ys =>
      unfold UpN at hx hy
      rw [List.pairwise_cons] at hx hy
      have e : x = y := by
        rcases List.mem_cons.1 ((h x).1 (by simp)) with e | h1
        · exact e
        · rcases List.mem_cons.1 ((h y).2 (by simp)) with e | h2
          · exact e.symm
          · have := hy.1 x h1
            have := hx.1 y h2
            omega
      subst e
      congr 1
      refine ih hx.2 hy.2 (fun s => ⟨fun hs => ?_, fun hs => ?_⟩)
      · rcases List.mem_cons.1 ((h s).1 (by simp [hs])) with rfl | h1
        · have := hx.1 _ hs; omega
        · exact h1
      · rcases List.mem_cons.1 ((h s).2 (by simp [hs])) with rfl | h1
        · have := hy.1 _ hs; omega
        · exact h1
theorem upN_get {ns : List Int} (h : UpN ns) {i j : Nat} (hij : i < j) (hj : j < ns.length) : ns.getD i 0 < ns.getD j 0 := by
  have := (List.pairwise_iff_getElem.1 h) i j (by omega) hj hij
  simpa [List.getD, hj, show i < ns.length by omega] using this
theorem upN_idx {ns : List Int} (h : UpN ns) {k : Nat} (hk : k < ns.length) : Lib.idxOf ns (ns.getD k 0) = k :=
  idx_is hk rfl (fun j hj e => by have := upN_get h hj hk; omega)
theorem upN_step {ns : List Int} {k : Nat} (hk : k < ns.length) (h : UpN (ns.take k)) (hl : ∀ (_ : 0 < k), ns.getD (k - 1) 0 < ns.getD k 0) : UpN (ns.take (k + 1)) := by
  have e : ns.take (k + 1) = ns.take k ++ [ns.getD k 0] := by rw [List.take_succ_eq_append_getElem hk]; simp [List.getD, hk]
  rw [e]
  unfold UpN at *
  rw [List.pairwise_append]
  refine ⟨h, List.pairwise_singleton _ _, fun a ha b hb => ?_⟩
  obtain rfl := List.mem_singleton.1 hb
  obtain ⟨i, hi, rfl⟩ := List.getElem_of_mem ha
  have hik : i < k := by simp at hi; omega
  have h0 := hl (by omega)
  by_cases hx : i = k - 1
  · subst hx
    simpa [List.getD, hk, show k - 1 < ns.length by omega] using h0
  · have h1 := upN_get (ns := ns.take k) (i := i) (j := k - 1) h (by omega) (by simp; omega)
    simp only [List.getD, List.getElem?_take, show i < k from hik, show k - 1 < k by omega, if_true] at h1 h0 ⊢
    simp only [List.getElem_take]
    rw [List.getElem?_eq_getElem (show i < ns.length by omega)] at h1
    simp only [Option.getD_some] at h1
    omega
theorem upN_not {ns : List Int} {k : Nat} (h0 : 0 < k) (hk : k < ns.length) (h : ns.getD k 0 ≤ ns.getD (k - 1) 0) : ¬ UpN ns := fun hu => by
  have := upN_get hu (i := k - 1) (j := k) (by omega) hk
  omega

/-- A number put to its place, once. -/
def putN (n : Int) : List Int → List Int
  | [] => [n]
  | x :: l => if x < n then x :: putN n l else if x = n then x :: l else n :: x :: l
theorem mem_putN {n s : Int} {l : List Int} : s ∈ putN n l ↔ s = n ∨ s ∈ l := by
  induction l with
  | nil => simp [putN]
  | cons x l ih =>
    rw [putN]
    split
    · rw [List.mem_cons, ih, List.mem_cons]
      constructor
      · rintro (h | h | h)
        · exact .inr (.inl h)
        · exact .inl h
        · exact .inr (.inr h)
      · rintro (h | h | h)
        · exact .inr (.inl h)
        · exact .inl h
        · exact .inr (.inr h)
    · split
      · rename_i e
        subst e
        constructor
        · exact .inr
        · rintro (rfl | h)
          · simp
          · exact h
      · rw [List.mem_cons]
theorem up_putN {n : Int} {l : List Int} (h : UpN l) : UpN (putN n l) := by
  induction l with
  | nil => simp [putN, UpN]
  | cons x l ih =>
    unfold UpN at h ih ⊢
    rw [List.pairwise_cons] at h
    rw [putN]
    split
    · rename_i hx
      rw [List.pairwise_cons]
      refine ⟨fun s hs => ?_, ih h.2⟩
      rcases mem_putN.1 hs with rfl | hs
      · exact hx
      · exact h.1 s hs
    · rename_i hx
      split
      · rw [List.pairwise_cons]; exact h
      · rename_i hne
        have ht : n < x := by omega
        rw [List.pairwise_cons, List.pairwise_cons]
        refine ⟨fun s hs => ?_, h⟩
        rcases List.mem_cons.1 hs with rfl | hs
        · exact ht
        · have := h.1 s hs; omega
theorem putN_at (n : Int) : ∀ (l : List Int) (k : Nat), k ≤ l.length → (∀ j, j < k → l.getD j 0 < n) → (∀ (_ : k < l.length), n ≤ l.getD k 0) → putN n l = if k < l.length ∧ l.getD k 0 = n then l else l.take k ++ n :: l.drop k
  | [], k, hk, _, _ => by
    have : k = 0 := by simpa using hk
    subst this
    simp [putN]
  | x :: l, 0, _, _, h2 => by
    have := h2 (by simp)
    simp only [List.getD_cons_zero] at this
    rw [putN, if_neg (by omega)]
    by_cases e : x = n
    · subst e; simp
    · rw [if_neg e, if_neg (by simpa using e)]
      simp
  | x :: l, k + 1, hk, h1, h2 => by
    have hx : x < n := by simpa using h1 0 (by omega)
    rw [putN, if_pos hx, putN_at n l k (by simpa using hk) (fun j hj => by simpa using h1 (j + 1) (by omega)) (fun h => by simpa using h2 (by simpa using h))]
    by_cases hc : k < l.length ∧ l.getD k 0 = n
    · rw [if_pos hc, if_pos (by simpa using hc)]
    · rw [if_neg hc, if_neg (by simpa using hc)]
      simp
theorem insL_at (t : List Int) : ∀ (l : Ll) (k : Nat), k ≤ l.length → (∀ j, j < k → lessL (l.getD j []) t = true) → (∀ (_ : k < l.length), lessL (l.getD k []) t = false) → insL t l = if k < l.length ∧ l.getD k [] = t then l else l.take k ++ t :: l.drop k
  | [], k, hk, _, _ => by
    have : k = 0 := by simpa using hk
    subst this
    simp [insL]
  | x :: l, 0, _, _, h2 => by
    have := h2 (by simp)
    simp only [List.getD_cons_zero] at this
    rw [insL, if_neg (by rw [this]; exact Bool.false_ne_true)]
    by_cases e : x = t
    · subst e; simp
    · rw [if_neg e, if_neg (by simpa using e)]
      simp
  | x :: l, k + 1, hk, h1, h2 => by
    have hx : lessL x t = true := by simpa using h1 0 (by omega)
    rw [insL, if_pos hx, insL_at t l k (by simpa using hk) (fun j hj => by simpa using h1 (j + 1) (by omega)) (fun h => by simpa using h2 (by simpa using h))]
    by_cases hc : k < l.length ∧ l.getD k [] = t
    · rw [if_pos hc, if_pos (by simpa using hc)]
    · rw [if_neg hc, if_neg (by simpa using hc)]
      simp

/-! Picked numbers. -/
def pick (ns t some : List Int) : List Int := some.map fun n => t.getD (Lib.idxOf ns n).toNat 0
theorem pick_length (ns t some : List Int) : (pick ns t some).length = some.length := by simp [pick]
theorem pick_self {ns some : List Int} (h : ∀ n ∈ some, n ∈ ns) : pick ns ns some = some := by
  unfold pick
  conv => rhs; rw [← List.map_id some]
  exact List.map_congr_left fun n hn => (idx_at (h n hn)).2.2
theorem pick_all {ns t : List Int} (h : UpN ns) (hl : t.length = ns.length) : pick ns t ns = t := by
  apply List.ext_getElem (by rw [pick_length, hl])
  intro i h1 h2
  have hi : i < ns.length := by omega
  have e := upN_idx h hi
  simp only [List.getD, List.getElem?_eq_getElem hi, Option.getD_some] at e
  simp only [pick, List.getElem_map, e, Int.toNat_natCast, List.getD, List.getElem?_eq_getElem h2, Option.getD_some]
theorem idx_left {a b : List Int} {n : Int} (h : n ∈ a) : Lib.idxOf (a ++ b) n = Lib.idxOf a n := by
  rcases idx_cases a n with ⟨_, h2⟩ | ⟨k, h1, h2, h3, h4⟩
  · exact absurd h h2
  · rw [h2]
    have e : ∀ j, j < a.length → (a ++ b).getD j 0 = a.getD j 0 := fun j hj => by simp [List.getD, List.getElem?_append_left hj]
    exact idx_is (by simp; omega) (by rw [e k h1]; exact h3) (fun j hj => by rw [e j (by omega)]; exact h4 j hj)
theorem idx_right {a b : List Int} {n : Int} (h : n ∉ a) (hb : n ∈ b) : Lib.idxOf (a ++ b) n = a.length + Lib.idxOf b n := by
  rcases idx_cases b n with ⟨_, h2⟩ | ⟨k, h1, h2, h3, h4⟩
  · exact absurd hb h2
  · rw [h2]
    have e : ∀ j, (a ++ b).getD (a.length + j) 0 = b.getD j 0 := fun j => by simp [List.getD, List.getElem?_append_right]
    have := idx_is (ns := a ++ b) (n := n) (k := a.length + k) (by simp; omega) (by rw [e k]; exact h3) (fun j hj => by
      by_cases hja : j < a.length
      · intro e'
        have : (a ++ b).getD j 0 = a.getD j 0 := by simp [List.getD, List.getElem?_append_left hja]
        rw [this] at e'
        exact h (e' ▸ getD_mem0 hja)
      · have : j = a.length + (j - a.length) := by omega
        rw [this, e]
        exact h4 _ (by omega))
    rw [this]
    omega

/-! Tuples compared. -/
def cmpL : List Int → List Int → Int
  | [], [] => 0
  | [], _ :: _ => -1
  | _ :: _, [] => 1
  | x :: a, y :: b => if x = y then cmpL a b else if x < y then -1 else 1
theorem cmpL_cons (x y : Int) (a b : List Int) : cmpL (x :: a) (y :: b) = if x = y then cmpL a b else if x < y then -1 else 1 := by rw [cmpL]
theorem cmpL_self (a : List Int) : cmpL a a = 0 := by
  induction a with
  | nil => simp [cmpL]
  | cons x a ih => rw [cmpL_cons, if_pos rfl]; exact ih
theorem cmpL_zero {a b : List Int} (h : cmpL a b = 0) : a = b := by
  induction a generalizing b with
  | nil =>
    cases b with
    | nil => rfl
    | cons y b => simp [cmpL] at h
  | cons x a ih =>
    cases b with
    | nil => simp [cmpL] at h
    | cons y b =>
      rw [cmpL_cons] at h
      by_cases e : x = y
      · subst e
        rw [if_pos rfl] at h
        rw [ih h]
      · rw [if_neg e] at h
        split at h <;> simp at h
theorem cmpL_three (a b : List Int) : cmpL a b = -1 ∨ cmpL a b = 0 ∨ cmpL a b = 1 := by
  induction a generalizing b with
  | nil => cases b <;> simp [cmpL]
  | cons x a ih =>
    cases b with
    | nil => simp [cmpL]
    | cons y b =>
      rw [cmpL_cons]
      split
      · exact ih b
      · split <;> simp
theorem cmpL_turn (a b : List Int) : cmpL b a = - cmpL a b := by
  induction a generalizing b with
  | nil => cases b <;> simp [cmpL]
  | cons x a ih =>
    cases b with
    | nil => simp [cmpL]
    | cons y b =>
      rw [cmpL_cons, cmpL_cons]
      by_cases e : x = y
      · subst e; rw [if_pos rfl, if_pos rfl]; exact ih b
      · rw [if_neg e, if_neg (fun h => e h.symm)]
        by_cases h : x < y
        · rw [if_pos h, if_neg (by omega)]; rfl
        · rw [if_neg h, if_pos (by omega)]
theorem cmpL_trans {a b c : List Int} (h1 : cmpL a b < 0) (h2 : cmpL b c < 0) : cmpL a c < 0 := by
  induction a generalizing b c with
  | nil =>
    cases c with
    | nil => cases b <;> simp [cmpL] at h1 h2
    | cons z c => simp [cmpL]
  | cons x a ih =>
    cases b with
    | nil => simp [cmpL] at h1
    | cons y b =>
      cases c with
      | nil => simp [cmpL] at h2
      | cons z c =>
        rw [cmpL_cons] at h1 h2 ⊢
        by_cases e1 : x = y
        · subst e1
          rw [if_pos rfl] at h1
          by_cases e2 : x = z
          · subst e2
            rw [if_pos rfl] at h2 ⊢
            exact ih h1 h2
          · rw [if_neg e2] at h2 ⊢; exact h2
        · rw [if_neg e1] at h1
          have hxy : x < y := by
            by_cases h : x < y
            · exact h
            · rw [if_neg h] at h1; omega
          by_cases e2 : y = z
          · subst e2
            rw [if_neg e1, if_pos hxy]; omega
          · rw [if_neg e2] at h2
            have hyz : y < z := by
              by_cases h : y < z
              · exact h
              · rw [if_neg h] at h2; omega
            rw [if_neg (by omega), if_pos (by omega)]; omega
theorem cmpL_less {a b : List Int} (hl : a.length = b.length) : cmpL a b < 0 ↔ lessL a b = true := by
  induction a generalizing b with
  | nil =>
    cases b with
    | nil => simp [cmpL, lessL_nil]
    | cons y b => simp at hl
  | cons x a ih =>
    cases b with
    | nil => simp at hl
    | cons y b =>
      rw [cmpL_cons, lessL_cons]
      by_cases e : x = y
      · subst e; rw [if_pos rfl, if_pos rfl]; exact ih (by simpa using hl)
      · rw [if_neg e, if_neg e]
        by_cases h : x < y
        · simp [h]
        · simp [h]
theorem cmpL_ntrans {a b c : List Int} (h1 : 0 ≤ cmpL a b) (h2 : 0 ≤ cmpL b c) : 0 ≤ cmpL a c := by
  by_cases e : cmpL a b = 0
  · rw [cmpL_zero e]; exact h2
  · by_cases e' : cmpL b c = 0
    · rw [← cmpL_zero e']; exact h1
    · have := cmpL_trans (a := c) (b := b) (c := a) (by rw [cmpL_turn b c]; omega) (by rw [cmpL_turn a b]; omega)
      rw [cmpL_turn a c] at this
      omega

theorem up_get {ts : Ll} (h : Up ts) {i j : Nat} (hij : i < j) (hj : j < ts.length) : lessL (ts.getD i []) (ts.getD j []) = true := by
  have := (List.pairwise_iff_getElem.1 h) i j (by omega) hj hij
  simpa [List.getD, hj, show i < ts.length by omega] using this
theorem up_step {ts : Ll} {k : Nat} (hk : k < ts.length) (h : Up (ts.take k)) (hl : ∀ (_ : 0 < k), lessL (ts.getD (k - 1) []) (ts.getD k []) = true) : Up (ts.take (k + 1)) := by
  have e : ts.take (k + 1) = ts.take k ++ [ts.getD k []] := by rw [List.take_succ_eq_append_getElem hk]; simp [List.getD, hk]
  rw [e]
  unfold Up at *
  rw [List.pairwise_append]
  refine ⟨h, List.pairwise_singleton _ _, fun a ha b hb => ?_⟩
  obtain rfl := List.mem_singleton.1 hb
  obtain ⟨i, hi, rfl⟩ := List.getElem_of_mem ha
  have hik : i < k := by simp at hi; omega
  have h0 := hl (by omega)
  have ei : (ts.take k)[i] = ts.getD i [] := by simp [List.getD, show i < ts.length by omega]
  rw [ei]
  by_cases hx : i = k - 1
  · subst hx; exact h0
  · have h1 := up_get (ts := ts.take k) (i := i) (j := k - 1) h (by omega) (by simp; omega)
    have e1 : (ts.take k).getD i [] = ts.getD i [] := by simp [List.getD, hik]
    have e2 : (ts.take k).getD (k - 1) [] = ts.getD (k - 1) [] := by simp [List.getD, show k - 1 < k by omega]
    rw [e1, e2] at h1
    exact lessL_trans h1 h0
theorem up_not {ts : Ll} {k : Nat} (h0 : 0 < k) (hk : k < ts.length) (h : lessL (ts.getD (k - 1) []) (ts.getD k []) = false) : ¬ Up ts := fun hu => by
  have := up_get hu (i := k - 1) (j := k) (by omega) hk
  rw [h] at this
  cases this
instance (l : Ll) : Decidable (Up l) := by unfold Up; exact inferInstance

/-! What is good. -/
def allI (lo hi : Int) (zs : List Int) : Bool := zs.all fun z => Val.inB z lo hi
def riseB (lo hi : Int) (ns : List Int) : Bool := allI lo hi ns && decide (UpN ns)
def tupB (n : Nat) (t : List Int) : Bool := decide (t.length = n) && allI (-1000) 1000 t
def goodR (ns : List Int) (ts : Ll) : Bool := decide (ns.length ≤ 6) && riseB 0 20 ns && decide (ts.length ≤ 60) && ts.all (tupB ns.length) && decide (Up ts)
structure Good (ns : List Int) (ts : Ll) : Prop where
  few : ns.length ≤ 6
  inN : ∀ n ∈ ns, 0 ≤ n ∧ n ≤ 20
  upN : UpN ns
  most : ts.length ≤ 60
  wide : ∀ t ∈ ts, t.length = ns.length
  inT : ∀ t ∈ ts, ∀ z ∈ t, -1000 ≤ z ∧ z ≤ 1000
  up : Up ts
theorem allI_iff {lo hi : Int} {zs : List Int} : allI lo hi zs = true ↔ ∀ z ∈ zs, lo ≤ z ∧ z ≤ hi := by
  unfold allI Val.inB
  simp
theorem good_iff {ns : List Int} {ts : Ll} : goodR ns ts = true ↔ Good ns ts := by
  unfold goodR riseB
  rw [Bool.and_eq_true, Bool.and_eq_true, Bool.and_eq_true, Bool.and_eq_true, Bool.and_eq_true, decide_eq_true_eq, decide_eq_true_eq, decide_eq_true_eq, decide_eq_true_eq, allI_iff, List.all_eq_true]
  constructor
  · rintro ⟨⟨⟨⟨h1, h2, h3⟩, h4⟩, h5⟩, h6⟩
    refine ⟨h1, h2, h3, h4, fun t ht => ?_, fun t ht => ?_, h6⟩
    · have := h5 t ht
      unfold tupB at this
      rw [Bool.and_eq_true, decide_eq_true_eq] at this
      exact this.1
    · have := h5 t ht
      unfold tupB at this
      rw [Bool.and_eq_true, allI_iff] at this
      exact this.2
  · intro h
    refine ⟨⟨⟨⟨h.few, h.inN, h.upN⟩, h.most⟩, fun t ht => ?_⟩, h.up⟩
    unfold tupB
    rw [Bool.and_eq_true, decide_eq_true_eq, allI_iff]
    exact ⟨h.wide t ht, h.inT t ht⟩

abbrev Rl := List Int × Ll
def tellV (ns : List Int) (ts : Ll) : Rl := if goodR ns (tellL ts) then (ns, tellL ts) else ([], [])
def tellG (ns : List Int) (ts : Ll) : Bool := goodR ns (tellL ts)

/-! The functions as data. -/
def cmpK (kind a n : Int) : Bool := if kind = 0 then decide (a = n) else if kind = 1 then decide (a < n) else decide (n < a)
def chooseB (r : Rl) (name kind n : Int) : Bool := goodR r.1 r.2 && decide (0 ≤ Lib.idxOf r.1 name) && Val.inB kind 0 2 && Val.inB n (-1000) 1000
def chooseL (r : Rl) (name kind n : Int) : Ll := r.2.filter fun t => cmpK kind (t.getD (Lib.idxOf r.1 name).toNat 0) n
def chooseV (r : Rl) (name kind n : Int) : Rl := if chooseB r name kind n then tellV r.1 (chooseL r name kind n) else ([], [])
def chooseG (r : Rl) (name kind n : Int) : Bool := chooseB r name kind n && tellG r.1 (chooseL r name kind n)
def subB (ns some : List Int) : Bool := (some.all fun n => decide (0 ≤ Lib.idxOf ns n)) && riseB 0 20 some
def projectB (r : Rl) (names : List Int) : Bool := goodR r.1 r.2 && subB r.1 names
def projectL (r : Rl) (names : List Int) : Ll := r.2.map fun t => pick r.1 t names
def projectV (r : Rl) (names : List Int) : Rl := if projectB r names then tellV names (projectL r names) else ([], [])
def projectG (r : Rl) (names : List Int) : Bool := projectB r names && tellG names (projectL r names)
def joinB (a b : Rl) : Bool := goodR a.1 a.2 && goodR b.1 b.2
def joinN (a b : Rl) : List Int := b.1.foldl (fun acc n => putN n acc) a.1
def bothN (a b : Rl) : List Int := b.1.filter fun n => decide (0 ≤ Lib.idxOf a.1 n)
def joinT (a b : Rl) (x y : List Int) : List Int := (joinN a b).map fun n => if 0 ≤ Lib.idxOf a.1 n then x.getD (Lib.idxOf a.1 n).toNat 0 else y.getD (Lib.idxOf b.1 n).toNat 0
def meetB (a b : Rl) (x y : List Int) : Bool := decide (pick a.1 x (bothN a b) = pick b.1 y (bothN a b))
def joinRow (a b : Rl) (x : List Int) (ys : Ll) : Ll := (ys.filter fun y => meetB a b x y).map fun y => joinT a b x y
def joinL (a b : Rl) : Ll := a.2.flatMap fun x => joinRow a b x b.2
def joinV (a b : Rl) : Rl := if joinB a b then tellV (joinN a b) (joinL a b) else ([], [])
def joinG (a b : Rl) : Bool := joinB a b && tellG (joinN a b) (joinL a b)
def twoB (a b : Rl) : Bool := goodR a.1 a.2 && goodR b.1 b.2 && decide (a.1 = b.1)
def unionV (a b : Rl) : Rl := if twoB a b then tellV a.1 (a.2 ++ b.2) else ([], [])
def unionG (a b : Rl) : Bool := twoB a b && tellG a.1 (a.2 ++ b.2)
def withoutL (a b : Rl) : Ll := a.2.filter fun t => !decide (t ∈ b.2)
def withoutV (a b : Rl) : Rl := if twoB a b then tellV a.1 (withoutL a b) else ([], [])
def withoutG (a b : Rl) : Bool := twoB a b && tellG a.1 (withoutL a b)
def renameB (r : Rl) (x y : Int) : Bool := goodR r.1 r.2 && decide (0 ≤ Lib.idxOf r.1 x) && !decide (0 ≤ Lib.idxOf r.1 y) && Val.inB y 0 20
def renameN (r : Rl) (x y : Int) : List Int := putN y (r.1.filter fun n => decide (n ≠ x))
def renameO (r : Rl) (x y : Int) : List Int := (renameN r x y).map fun n => if n = y then x else n
def renameL (r : Rl) (x y : Int) : Ll := r.2.map fun t => pick r.1 t (renameO r x y)
def renameV (r : Rl) (x y : Int) : Rl := if renameB r x y then tellV (renameN r x y) (renameL r x y) else ([], [])
def renameG (r : Rl) (x y : Int) : Bool := renameB r x y && tellG (renameN r x y) (renameL r x y)
def sameV (a b : Rl) : Bool := joinB a b && (decide (a.1 = b.1) && decide (a.2 = b.2))

/-! The program's ways. -/
theorem map_pick_all {ns : List Int} {ts : Ll} (h : UpN ns) (hl : ∀ t ∈ ts, t.length = ns.length) : (ts.map fun t => pick ns t ns) = ts := by
  conv => rhs; rw [← List.map_id ts]
  exact List.map_congr_left fun t ht => pick_all h (hl t ht)
/-- An ordered list by the program's order, of tuples as long. -/
theorem strict_up {ts : Ll} {n : Nat} (h : ts.Pairwise fun a b => cmpL a b < 0) (hl : ∀ t ∈ ts, t.length = n) : Up ts := by
  unfold Up
  induction ts with
  | nil => simp
  | cons t ts ih =>
    rw [List.pairwise_cons] at h ⊢
    exact ⟨fun s hs => (cmpL_less (by rw [hl t (by simp), hl s (by simp [hs])])).1 (h.1 s hs), ih h.2 (fun s hs => hl s (by simp [hs]))⟩


end Go.Proofs.Ytekheacbmbbpmaa.Rel
