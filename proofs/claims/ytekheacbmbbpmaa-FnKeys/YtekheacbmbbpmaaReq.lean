/-
  Relations as data (no program): the program's ways to rename and to join come to the model's.
-/
import Derived.Test.YtekheacbmbbpmaaRel
namespace Go.Proofs.Ytekheacbmbbpmaa.Req
open Go.Proofs.Ytekheacbmbbpmaa.Rpu Go.Proofs.Ytekheacbmbbpmaa.Rel

theorem getD_set (ns : List Int) (i j : Nat) (y : Int) (hi : i < ns.length) : (ns.set i y).getD j 0 = if j = i then y else ns.getD j 0 := by
  simp only [List.getD, List.getElem?_set]
  by_cases e : i = j
  · subst e; simp [hi]
  · rw [if_neg e, if_neg (fun h => e h.symm)]
theorem mem_get {ns : List Int} {s : Int} : s ∈ ns ↔ ∃ j, j < ns.length ∧ ns.getD j 0 = s := by
  constructor
  · intro h
    obtain ⟨i, hi, e⟩ := List.getElem_of_mem h
    exact ⟨i, hi, by simp [List.getD, hi, e]⟩
  · rintro ⟨j, hj, rfl⟩
    exact getD_mem0 hj

/-! Rename. -/
def renamed (ns : List Int) (x y : Int) : List Int := ns.set (Lib.idxOf ns x).toNat y
theorem renamed_length (ns : List Int) (x y : Int) : (renamed ns x y).length = ns.length := by simp [renamed]
theorem mem_renamed {ns : List Int} {x y s : Int} (hu : UpN ns) (hx : x ∈ ns) : s ∈ renamed ns x y ↔ s = y ∨ (s ∈ ns ∧ s ≠ x) := by
  obtain ⟨h1, _, h3⟩ := idx_at hx
  unfold renamed
  generalize (Lib.idxOf ns x).toNat = i at *
  rw [mem_get]
  constructor
  · rintro ⟨j, hj, e⟩
    rw [getD_set ns i j y h1] at e
    by_cases hji : j = i
    · rw [if_pos hji] at e; exact .inl e.symm
    · rw [if_neg hji] at e
      have hj' : j < ns.length := by simpa using hj
      refine .inr ⟨e ▸ getD_mem0 hj', fun ex => ?_⟩
      have : ns.getD j 0 = ns.getD i 0 := by rw [e, ex, h3]
      rcases Nat.lt_or_gt_of_ne hji with hlt | hgt
      · have := upN_get hu hlt h1; omega
      · have := upN_get hu hgt hj'; omega
  · rintro (e | ⟨hs, hne⟩)
    · exact ⟨i, by simpa using h1, by rw [getD_set ns i i y h1, if_pos rfl, e]⟩
    · obtain ⟨j, hj, e⟩ := mem_get.1 hs
      refine ⟨j, by simpa using hj, ?_⟩
      rw [getD_set ns i j y h1, if_neg (fun e' => hne (by rw [← e, e', h3])), e]
theorem mem_renameN {r : Rl} {x y s : Int} : s ∈ renameN r x y ↔ s = y ∨ (s ∈ r.1 ∧ s ≠ x) := by
  unfold renameN
  rw [mem_putN, List.mem_filter]
  simp
theorem up_renameN {r : Rl} {x y : Int} (hu : UpN r.1) : UpN (renameN r x y) := up_putN (List.Pairwise.sublist List.filter_sublist hu)
theorem once_renamed {r : Rl} {x y : Int} {ys : List Int} (hu : UpN r.1) (hx : x ∈ r.1) (hy : UpN ys) (hm : ∀ s, s ∈ ys ↔ s ∈ renamed r.1 x y) : ys = renameN r x y :=
  upN_told hy (up_renameN hu) (fun s => by rw [hm s, mem_renamed hu hx, mem_renameN])
theorem idx_renamed_new {ns : List Int} {x y : Int} (hx : x ∈ ns) (hy : y ∉ ns) : Lib.idxOf (renamed ns x y) y = Lib.idxOf ns x := by
  obtain ⟨h1, h2, h3⟩ := idx_at hx
  conv => rhs; rw [h2]
  refine idx_is (by rw [renamed_length]; exact h1) (by unfold renamed; rw [getD_set _ _ _ _ h1, if_pos rfl]) (fun j hj e => ?_)
  unfold renamed at e
  rw [getD_set _ _ _ _ h1, if_neg (by omega)] at e
  exact hy (e ▸ getD_mem0 (by omega))
theorem idx_renamed_old {ns : List Int} {x y n : Int} (hu : UpN ns) (hx : x ∈ ns) (hn : n ∈ ns) (hne : n ≠ x) (hny : n ≠ y) : Lib.idxOf (renamed ns x y) n = Lib.idxOf ns n := by
  obtain ⟨h1, h2, h3⟩ := idx_at hx
  obtain ⟨g1, g2, g3⟩ := idx_at hn
  conv => rhs; rw [g2]
  have hd : (Lib.idxOf ns n).toNat ≠ (Lib.idxOf ns x).toNat := fun e => hne (by rw [← g3, e, h3])
  refine idx_is (by rw [renamed_length]; exact g1) (by unfold renamed; rw [getD_set _ _ _ _ h1, if_neg hd]; exact g3) (fun j hj e => ?_)
  unfold renamed at e
  rw [getD_set _ _ _ _ h1] at e
  split at e
  · exact hny e.symm
  · have := upN_get hu hj g1
    omega
theorem pick_renamed {r : Rl} {x y : Int} (hu : UpN r.1) (hx : x ∈ r.1) (hy : y ∉ r.1) (t : List Int) : pick (renamed r.1 x y) t (renameN r x y) = pick r.1 t (renameO r x y) := by
  unfold pick renameO
  rw [List.map_map]
  refine List.map_congr_left fun n hn => ?_
  show _ = t.getD (Lib.idxOf r.1 (if n = y then x else n)).toNat 0
  by_cases e : n = y
  · rw [if_pos e, e, idx_renamed_new hx hy]
  · rw [if_neg e]
    rcases mem_renameN.1 hn with h | ⟨h1, h2⟩
    · exact absurd h e
    · rw [idx_renamed_old hu hx h1 h2 e]
theorem renameN_in {r : Rl} {x y : Int} (hu : UpN r.1) (hx : x ∈ r.1) : ∀ n ∈ renameN r x y, n ∈ renamed r.1 x y := fun _ hn => (mem_renamed hu hx).2 (mem_renameN.1 hn)
theorem rename_map {r : Rl} {x y : Int} (hu : UpN r.1) (hx : x ∈ r.1) (hy : y ∉ r.1) : (r.2.map fun t => pick (renamed r.1 x y) t (renameN r x y)) = renameL r x y :=
  List.map_congr_left fun t _ => pick_renamed hu hx hy t

/-! Join. -/
theorem fold_put (l acc : List Int) (h : UpN acc) : UpN (l.foldl (fun acc n => putN n acc) acc) ∧ ∀ s, s ∈ l.foldl (fun acc n => putN n acc) acc ↔ s ∈ acc ∨ s ∈ l := by
  induction l generalizing acc with
  | nil => exact ⟨h, fun s => by simp⟩
  | cons n l ih =>
    obtain ⟨h1, h2⟩ := ih (putN n acc) (up_putN h)
    refine ⟨h1, fun s => ?_⟩
    rw [List.foldl_cons, h2 s, mem_putN, List.mem_cons]
    constructor
    · rintro ((h | h) | h)
      · exact .inr (.inl h)
      · exact .inl h
      · exact .inr (.inr h)
    · rintro (h | h | h)
      · exact .inl (.inr h)
      · exact .inl (.inl h)
      · exact .inr h
theorem up_joinN {a b : Rl} (h : UpN a.1) : UpN (joinN a b) := (fold_put b.1 a.1 h).1
theorem mem_joinN {a b : Rl} (h : UpN a.1) (s : Int) : s ∈ joinN a b ↔ s ∈ a.1 ∨ s ∈ b.1 := (fold_put b.1 a.1 h).2 s
theorem once_joined {a b : Rl} {ys : List Int} (h : UpN a.1) (hy : UpN ys) (hm : ∀ s, s ∈ ys ↔ s ∈ a.1 ++ b.1) : ys = joinN a b :=
  upN_told hy (up_joinN h) (fun s => by rw [hm s, mem_joinN h, List.mem_append])
theorem pick_joined {a b : Rl} {x y : List Int} (h : UpN a.1) (hx : x.length = a.1.length) : pick (a.1 ++ b.1) (x ++ y) (joinN a b) = joinT a b x y := by
  unfold pick joinT
  refine List.map_congr_left fun n hn => ?_
  by_cases hi : 0 ≤ Lib.idxOf a.1 n
  · have hm := (idx_nonneg a.1 n).1 hi
    obtain ⟨h1, _, _⟩ := idx_at hm
    rw [if_pos hi, idx_left hm]
    simp only [List.getD]
    rw [List.getElem?_append_left (by omega)]
  · have hm : n ∉ a.1 := fun h' => hi ((idx_nonneg a.1 n).2 h')
    have hb : n ∈ b.1 := by
      rcases (mem_joinN h n).1 hn with h' | h'
      · exact absurd h' hm
      · exact h'
    rw [if_neg hi, idx_right hm hb]
    obtain ⟨_, h2, _⟩ := idx_at hb
    have e : ((a.1.length : Int) + Lib.idxOf b.1 n).toNat = x.length + (Lib.idxOf b.1 n).toNat := by omega
    simp only [List.getD]
    rw [e, List.getElem?_append_right (by omega)]
    congr 2
    omega
/-- The names that both have, in the first's order. -/
def commonN (a b : Rl) : List Int := a.1.filter fun n => decide (n ∈ b.1)
def meetC (a b : Rl) (x y : List Int) : Bool := decide (pick a.1 x (commonN a b) = pick b.1 y (commonN a b))
theorem map_eq_iff {f g : Int → Int} {l : List Int} : l.map f = l.map g ↔ ∀ n ∈ l, f n = g n := List.map_inj_left
theorem meet_is (a b : Rl) (x y : List Int) : meetC a b x y = meetB a b x y := by
  unfold meetC meetB pick
  rw [decide_eq_decide, map_eq_iff, map_eq_iff]
  unfold commonN bothN
  constructor
  · intro h n hn
    rw [List.mem_filter, decide_eq_true_eq, idx_nonneg] at hn
    exact h n (by rw [List.mem_filter, decide_eq_true_eq]; exact ⟨hn.2, hn.1⟩)
  · intro h n hn
    rw [List.mem_filter, decide_eq_true_eq] at hn
    exact h n (by rw [List.mem_filter, decide_eq_true_eq, idx_nonneg]; exact ⟨hn.2, hn.1⟩)
def pairRow (a b : Rl) (x : List Int) (ys : Ll) : Ll := (ys.filter fun y => meetC a b x y).map fun y => x ++ y
def pairsL (a b : Rl) : Ll := a.2.flatMap fun x => pairRow a b x b.2
theorem pairs_map {a b : Rl} (h : UpN a.1) (hx : ∀ x ∈ a.2, x.length = a.1.length) : ((pairsL a b).map fun t => pick (a.1 ++ b.1) t (joinN a b)) = joinL a b := by
  unfold pairsL joinL
  generalize ha : a.2 = xs at hx
  clear ha
  induction xs with
  | nil => rfl
  | cons x xs ih =>
    rw [List.flatMap_cons, List.flatMap_cons, List.map_append, ih (fun t ht => hx t (by simp [ht]))]
    congr 1
    unfold pairRow joinRow
    rw [List.map_map]
    have e : (fun y => meetC a b x y) = fun y => meetB a b x y := funext fun y => meet_is a b x y
    rw [e]
    exact List.map_congr_left fun y _ => pick_joined h (hx x (by simp))
theorem joinT_length (a b : Rl) (x y : List Int) : (joinT a b x y).length = (joinN a b).length := by simp [joinT]
theorem joinL_length {a b : Rl} : ∀ s ∈ joinL a b, s.length = (joinN a b).length := by
  intro s hs
  unfold joinL at hs
  obtain ⟨x, _, hs⟩ := List.mem_flatMap.1 hs
  obtain ⟨y, _, rfl⟩ := List.mem_map.1 hs
  exact joinT_length a b x y
theorem tell_twice {l : Ll} {n : Nat} (h : ∀ s ∈ l, s.length = n) : tellL (tellL l) = tellL l :=
  told_up (fun s hs => h s ((mem_tellL h s).1 hs)) (up_tellL h)
theorem joinN_length {a b : Rl} : (joinN a b).length ≤ a.1.length + b.1.length := by
  have hp : ∀ (n : Int) (l : List Int), (putN n l).length ≤ l.length + 1 := by
    intro n l
    induction l with
    | nil => simp [putN]
    | cons x l ih =>
      rw [putN]
      split
      · simp only [List.length_cons]; omega
      · split <;> simp
  unfold joinN
  generalize a.1 = acc
  generalize b.1 = l
  induction l generalizing acc with
  | nil => simp
  | cons n l ih =>
    rw [List.foldl_cons]
    have := ih (putN n acc)
    have := hp n acc
    simp only [List.length_cons]
    omega


end Go.Proofs.Ytekheacbmbbpmaa.Req
