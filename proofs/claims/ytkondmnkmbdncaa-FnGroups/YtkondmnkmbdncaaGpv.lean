/-
  Groups in their order (no program): of those left, the first one that is ready, again and again.
-/
import Derived.Test.YtkondmnkmbdncaaGpb
namespace Go.Proofs.Ytkondmnkmbdncaa.Gpv
open Go.Proofs.Ytkondmnkmbdncaa.Rel Go.Proofs.Ytkondmnkmbdncaa.Gpu Go.Proofs.Ytkondmnkmbdncaa.Gpb

noncomputable def readyB (xs : Ll) (left : List Int) (k : Int) : Bool := !left.any fun o => rB xs k o && !rB xs o k
theorem ready_iff {xs : Ll} {left : List Int} {k : Int} : readyB xs left k = true ↔ ∀ o ∈ left, Rch xs k o → Rch xs o k := by
  unfold readyB
  rw [Bool.not_eq_true', List.any_eq_false]
  constructor
  · intro h o ho hr
    have := h o ho
    rw [rB_iff.2 hr, Bool.true_and, Bool.not_eq_true', Bool.not_eq_false, rB_iff] at this
    exact this
  · intro h o ho
    rw [Bool.and_eq_true, Bool.not_eq_true', rB_iff, rB_no]
    exact fun ⟨h1, h2⟩ => h2 (h o ho h1)
theorem tog_refl (xs : Ll) (k : Int) : togB xs k k = true := togB_iff.2 ⟨.refl, .refl⟩
theorem tog_symm {xs : Ll} {k o : Int} (h : togB xs k o = true) : togB xs o k = true := togB_iff.2 ⟨(togB_iff.1 h).2, (togB_iff.1 h).1⟩
theorem tog_trans {xs : Ll} {i j k : Int} (h : togB xs i j = true) (h2 : togB xs j k = true) : togB xs i k = true :=
  togB_iff.2 ⟨(togB_iff.1 h).1.trans (togB_iff.1 h2).1, (togB_iff.1 h2).2.trans (togB_iff.1 h).2⟩

theorem ready_some (xs : Ll) (left : List Int) : ∀ (m : Nat) (k : Int), k ∈ left → (left.filter (rB xs k)).length ≤ m → ∃ r ∈ left, readyB xs left r = true
  | 0, k, hk, h => by
    have : k ∈ left.filter (rB xs k) := List.mem_filter.2 ⟨hk, rB_iff.2 .refl⟩
    rw [List.eq_nil_of_length_eq_zero (by omega : (left.filter (rB xs k)).length = 0)] at this
    cases this
  | m + 1, k, hk, h => by
    by_cases hr : readyB xs left k = true
    · exact ⟨k, hk, hr⟩
    · rw [ready_iff] at hr
      have : ∃ o ∈ left, Rch xs k o ∧ ¬ Rch xs o k := Classical.byContradiction fun hc => hr fun o ho hro => Classical.byContradiction fun hn => hc ⟨o, ho, hro, hn⟩
      obtain ⟨o, ho, h1, h2⟩ := this
      have hs : left.filter (rB xs o) = (left.filter (rB xs k)).filter (rB xs o) := by
        rw [List.filter_filter]
        refine List.filter_congr fun z _ => ?_
        rw [Bool.eq_iff_iff, Bool.and_eq_true, rB_iff, rB_iff]
        exact ⟨fun hz => ⟨hz, h1.trans hz⟩, fun hz => hz.1⟩
      have hlt : ((left.filter (rB xs k)).filter (rB xs o)).length < (left.filter (rB xs k)).length :=
        List.length_filter_lt_length_iff_exists.2 ⟨k, List.mem_filter.2 ⟨hk, rB_iff.2 .refl⟩, by rw [rB_iff]; exact h2⟩
      exact ready_some xs left m o ho (by rw [hs]; omega)
theorem ready_one (xs : Ll) {left : List Int} (h : left ≠ []) : ∃ r ∈ left, readyB xs left r = true := by
  obtain ⟨k, hk⟩ := List.exists_mem_of_ne_nil _ h
  exact ready_some xs left _ k hk (Nat.le_refl _)

theorem find_at {p : Int → Bool} : ∀ {l : List Int} {i : Nat}, i < l.length → p (l.getD i 0) = true → (∀ j, j < i → p (l.getD j 0) = false) → l.find? p = some (l.getD i 0)
  | [], i, h, _, _ => by simp at h
  | x :: l, 0, _, h1, _ => by
    have : p x = true := h1
    rw [List.find?_cons, this]
    rfl
  | x :: l, i + 1, h, h1, h2 => by
    have : p x = false := h2 0 (by omega)
    rw [List.find?_cons, this]
    exact find_at (by simpa using h) h1 (fun j hj => h2 (j + 1) (by omega))

noncomputable def groupsL (xs : Ll) : Nat → List Int → Ll
  | 0, _ => []
  | f + 1, left => match left.find? (readyB xs left) with
    | none => []
    | some k => left.filter (togB xs k) :: groupsL xs f (left.filter fun o => !togB xs k o)
noncomputable def groupsN (xs : Ll) : Ll := groupsL xs xs.length (numN xs.length)
noncomputable def groupsV (xs : Ll) : Ll := bif goodG xs then groupsN xs else []
theorem groups_nil (xs : Ll) (f : Nat) : groupsL xs f [] = [] := by cases f <;> rfl
theorem groups_step {xs : Ll} {f : Nat} {left : List Int} {k : Int} (h : left.find? (readyB xs left) = some k) : groupsL xs (f + 1) left = left.filter (togB xs k) :: groupsL xs f (left.filter fun o => !togB xs k o) := by
  rw [groupsL, h]
theorem groups_len (xs : Ll) : ∀ (f : Nat) (left : List Int), (groupsL xs f left).length ≤ f
  | 0, _ => Nat.le_refl _
  | f + 1, left => by
    rw [groupsL]
    split
    · simp
    · rename_i k _
      rw [List.length_cons]; have := groups_len xs f (left.filter fun o => !togB xs k o); omega
theorem groups_mem (xs : Ll) : ∀ (f : Nat) (left : List Int), ∀ g ∈ groupsL xs f left, g.length ≤ left.length ∧ ∀ z ∈ g, z ∈ left
  | 0, _, g, h => by cases h
  | f + 1, left, g, h => by
    rw [groupsL] at h
    split at h
    · cases h
    · rename_i k _
      rcases List.mem_cons.1 h with rfl | h
      · exact ⟨List.length_filter_le _ _, fun z hz => (List.mem_filter.1 hz).1⟩
      · have h1 := groups_mem xs f _ g h
        have h2 := List.length_filter_le (fun o => !togB xs k o) left
        exact ⟨by omega, fun z hz => (List.mem_filter.1 (h1.2 z hz)).1⟩
theorem few_total {gs : Ll} {n : Nat} (h1 : gs.length ≤ 12) (h2 : ∀ g ∈ gs, g.length ≤ n) (hn : n ≤ 12) : (gs.length : Int) + (gs.map fun x => (x.length : Int)).sum ≤ 1000 := by
  have : ∀ (l : Ll), (∀ g ∈ l, g.length ≤ n) → (l.map fun x => (x.length : Int)).sum ≤ (l.length : Int) * 12 := by
    intro l
    induction l with
    | nil => intro _; simp
    | cons g l ih =>
      intro h
      have := ih (fun g hg => h g (by simp [hg]))
      have := h g (by simp)
      simp only [List.map_cons, List.sum_cons, List.length_cons]
      omega
  have := this gs h2
  omega

/-- What the two ways keep: what is told so far and what is left. -/
structure Gs (xs : Ll) (gs : Ll) (left : List Int) : Prop where
  up : UpN left
  mem : ∀ z ∈ left, 0 ≤ z ∧ z < (xs.length : Int)
  whole : ∀ x ∈ left, ∀ y, togB xs x y = true → y ∈ left
  told : ∃ f, left.length ≤ f ∧ f + gs.length ≤ xs.length ∧ gs ++ groupsL xs f left = groupsN xs
theorem gs_start {xs : Ll} (hg : GoodP xs) : Gs xs [] (numN xs.length) :=
  ⟨up_numN _, fun z hz => mem_numN.1 hz, fun x hx y hy => mem_numN.2 ((togB_iff.1 hy).1.inside hg (mem_numN.1 hx)), xs.length, by rw [numN_length]; exact Nat.le_refl _, by simp, rfl⟩
theorem gs_step {xs gs : Ll} {left : List Int} {k : Int} (h : Gs xs gs left) (hk : left.find? (readyB xs left) = some k) : Gs xs (gs ++ [left.filter (togB xs k)]) (left.filter fun o => !togB xs k o) := by
  have hin := List.mem_of_find?_eq_some hk
  have hlt : (left.filter fun o => !togB xs k o).length < left.length := List.length_filter_lt_length_iff_exists.2 ⟨k, hin, by rw [tog_refl]; decide⟩
  refine ⟨up_filter h.up _, fun z hz => h.mem z (List.mem_filter.1 hz).1, fun x hx y hy => ?_, ?_⟩
  · obtain ⟨hx1, hx2⟩ := List.mem_filter.1 hx
    refine List.mem_filter.2 ⟨h.whole x hx1 y hy, ?_⟩
    cases hky : togB xs k y
    · rfl
    · rw [tog_trans hky (tog_symm hy)] at hx2; cases hx2
  · obtain ⟨f, hf, hfl, he⟩ := h.told
    match f, hf with
    | 0, hf => omega
    | f + 1, hf =>
      refine ⟨f, by omega, by simp; omega, ?_⟩
      rw [← he, groups_step hk, List.append_assoc]
      rfl
theorem gs_end {xs gs : Ll} (h : Gs xs gs []) : gs = groupsN xs := by
  obtain ⟨f, _, _, he⟩ := h.told
  rw [groups_nil, List.append_nil] at he
  exact he
theorem gs_few {xs gs : Ll} {left : List Int} (h : Gs xs gs left) : gs.length ≤ xs.length := by
  obtain ⟨f, _, h2, _⟩ := h.told
  omega
/-- The group of one that is left is whole. -/
theorem gs_group {xs gs : Ll} {left : List Int} (h : Gs xs gs left) {k : Int} (hk : k ∈ left) : left.filter (togB xs k) = groupN xs k := by
  refine upN_told (up_filter h.up _) (up_group xs k) fun s => ?_
  unfold groupN
  rw [List.mem_filter, List.mem_filter, mem_numN]
  exact ⟨fun hs => ⟨h.mem s hs.1, hs.2⟩, fun hs => ⟨h.whole k hk s hs.2, hs.2⟩⟩
theorem groups_total {xs : Ll} (hg : GoodP xs) : ((groupsN xs).length : Int) + ((groupsN xs).map fun x => (x.length : Int)).sum ≤ 1000 :=
  few_total (n := xs.length) (Nat.le_trans (groups_len xs _ _) hg.few) (fun g hg' => by have := (groups_mem xs _ _ g hg').1; rwa [numN_length] at this) hg.few

/-! The model's way: those that are done. -/
def leftOf (n : Nat) (ds : List Int) : List Int := (numN n).filter fun z => !decide (z ∈ ds)
theorem mem_left {n : Nat} {ds : List Int} {z : Int} : z ∈ leftOf n ds ↔ (0 ≤ z ∧ z < (n : Int)) ∧ z ∉ ds := by
  unfold leftOf
  rw [List.mem_filter, mem_numN]
  simp
theorem done_as {n : Nat} {ds : List Int} (hu : UpN ds) (hm : ∀ z ∈ ds, 0 ≤ z ∧ z < (n : Int)) : ds = (numN n).filter fun z => decide (z ∈ ds) :=
  upN_told hu (up_filter (up_numN n) _) fun s => by
    rw [List.mem_filter, mem_numN, decide_eq_true_eq]
    exact ⟨fun hs => ⟨hm s hs, hs⟩, fun hs => hs.2⟩
theorem left_nil {n : Nat} {ds : List Int} (hu : UpN ds) (hm : ∀ z ∈ ds, 0 ≤ z ∧ z < (n : Int)) (h : n ≤ ds.length) : leftOf n ds = [] := by
  have e := done_as hu hm
  have hl : ((numN n).filter fun z => decide (z ∈ ds)).length = (numN n).length := by
    rw [← e, numN_length]
    have := up_few hu hm
    omega
  have := List.length_filter_eq_length_iff.1 hl
  unfold leftOf
  rw [List.filter_eq_nil_iff]
  intro z hz
  have := this z hz
  simpa using this
theorem left_some {n : Nat} {ds : List Int} (hu : UpN ds) (hm : ∀ z ∈ ds, 0 ≤ z ∧ z < (n : Int)) (h : ds.length < n) : leftOf n ds ≠ [] := by
  intro hc
  have e := done_as hu hm
  have : (numN n).filter (fun z => decide (z ∈ ds)) = numN n := List.filter_eq_self.2 fun z hz => by
    cases hd : decide (z ∈ ds)
    · have : z ∈ leftOf n ds := mem_left.2 ⟨mem_numN.1 hz, of_decide_eq_false hd⟩
      rw [hc] at this
      cases this
    · rfl
  rw [this] at e
  have := congrArg List.length e
  rw [numN_length] at this
  omega
theorem ready_as {xs : Ll} (hg : GoodP xs) {ds : List Int} {k : Int} (hk : 0 ≤ k ∧ k < (xs.length : Int)) : ((reachN xs k).all fun x => decide (x ∈ ds) || decide (x ∈ groupN xs k)) = readyB xs (leftOf xs.length ds) k := by
  rw [Bool.eq_iff_iff, List.all_eq_true, ready_iff]
  constructor
  · intro h o ho hr
    obtain ⟨ho1, ho2⟩ := mem_left.1 ho
    have := h o ((mem_reach hg hk).2 hr)
    rw [Bool.or_eq_true, decide_eq_true_eq, decide_eq_true_eq] at this
    rcases this with h1 | h1
    · exact absurd h1 ho2
    · exact (mem_group.1 h1).2.2
  · intro h x hx
    have hr := (mem_reach hg hk).1 hx
    rw [Bool.or_eq_true, decide_eq_true_eq, decide_eq_true_eq]
    by_cases hd : x ∈ ds
    · exact .inl hd
    · exact .inr (mem_group.2 ⟨hr.inside hg hk, hr, h x (mem_left.2 ⟨hr.inside hg hk, hd⟩) hr⟩)
theorem find_left {n : Nat} {ds : List Int} {p : Int → Bool} {k : Nat} (hk : k < n) (hd : (k : Int) ∉ ds) (hp : p (k : Int) = true) (hb : ∀ j : Nat, j < k → (j : Int) ∉ ds → p (j : Int) = false) : (leftOf n ds).find? p = some (k : Int) := by
  unfold leftOf
  rw [List.find?_filter]
  have hg : ∀ j, j < n → (numN n).getD j 0 = (j : Int) := fun j hj => numN_get n j hj
  have := find_at (p := fun a => !decide (a ∈ ds) && p a) (l := numN n) (i := k) (by rw [numN_length]; exact hk) (by rw [hg k hk]; simp [hd, hp]) (fun j hj => by
    rw [hg j (by omega)]
    by_cases e : (j : Int) ∈ ds
    · simp [e]
    · simp [e, hb j hj e])
  rw [hg k hk] at this
  rw [← this]
  congr 1
  funext a
  rw [Bool.eq_iff_iff, decide_eq_true_eq, Bool.and_eq_true]
theorem left_less {xs : Ll} {ds ds' : List Int} {k : Int} (h : ∀ z, z ∈ ds' ↔ z ∈ ds ∨ z ∈ groupN xs k) : leftOf xs.length ds' = (leftOf xs.length ds).filter fun o => !togB xs k o := by
  unfold leftOf
  rw [List.filter_filter]
  refine List.filter_congr fun z hz => ?_
  have : (z ∈ groupN xs k) ↔ togB xs k z = true := by unfold groupN; rw [List.mem_filter]; exact ⟨fun h => h.2, fun h => ⟨hz, h⟩⟩
  rw [Bool.eq_iff_iff, Bool.and_eq_true, Bool.not_eq_true', decide_eq_false_iff_not, Bool.not_eq_true', Bool.not_eq_true', decide_eq_false_iff_not, h, this]
  constructor
  · intro hn
    exact ⟨by cases ht : togB xs k z <;> simp_all, fun hd => hn (.inl hd)⟩
  · rintro ⟨h1, h2⟩ (h3 | h3)
    · exact h2 h3
    · rw [h1] at h3; cases h3


end Go.Proofs.Ytkondmnkmbdncaa.Gpv
