/-
  Sentences in memory: two lists of columns each; slices of them; contracts of the laws' helpers on them.
-/
import Derived.Test.YtekheacbmbbpmaaKrl
namespace Go.Proofs.Ytekheacbmbbpmaa.Dls
open Go.RowKit
open Go.Proofs.Ytekheacbmbbpmaa.Frame Go.Proofs.Ytekheacbmbbpmaa.Mem Go.Proofs.Ytekheacbmbbpmaa.Ints Go.Proofs.Ytekheacbmbbpmaa.Kep Go.Proofs.Ytekheacbmbbpmaa.Lls Go.Proofs.Ytekheacbmbbpmaa.Knl Go.Proofs.Ytekheacbmbbpmaa.Krl

abbrev Dp := List Int × List Int
def dpl : List LV → List Dp
  | f :: t :: rs => (f.zs, t.zs) :: dpl rs
  | _ => []
def d0 : Dp := ([], [])

theorem dpl_length : ∀ (n : Nat) (rs : List LV), rs.length = n * 2 → (dpl rs).length = n
  | 0, [], _ => rfl
  | 0, _ :: _, h => by simp at h
  | n + 1, [], h => by simp at h
  | n + 1, [_], h => by simp at h; omega
  | n + 1, f :: t :: rs, h => by
    have : rs.length = n * 2 := by simp at h; omega
    simp [dpl, dpl_length n rs this]
theorem dpl_get : ∀ (k : Nat) (rs : List LV), k * 2 + 1 < rs.length → (dpl rs).getD k d0 = ((rs.getD (k * 2) ld).zs, (rs.getD (k * 2 + 1) ld).zs)
  | _, [], h => by simp at h
  | 0, [_], h => by simp at h
  | k + 1, [_], h => by simp at h
  | 0, f :: t :: rs, _ => rfl
  | k + 1, f :: t :: rs, h => by
    have e1 : (k + 1) * 2 = k * 2 + 1 + 1 := by omega
    have e2 : (k + 1) * 2 + 1 = k * 2 + 1 + 1 + 1 := by omega
    have := dpl_get k rs (by simp at h; omega)
    rw [e2, e1]
    simp only [dpl, List.getD_cons_succ]
    exact this
theorem dpl_append : ∀ (n : Nat) (xs ys : List LV), xs.length = n * 2 → dpl (xs ++ ys) = dpl xs ++ dpl ys
  | 0, [], ys, _ => rfl
  | 0, _ :: _, _, h => by simp at h
  | n + 1, [], _, h => by simp at h
  | n + 1, [_], _, h => by simp at h; omega
  | n + 1, f :: t :: xs, ys, h => by
    have := dpl_append n xs ys (by simp at h; omega)
    simp [dpl, this]
theorem dp_take_succ {ds : List Dp} {i : Nat} (h : i < ds.length) : ds.take (i + 1) = ds.take i ++ [ds.getD i d0] := by
  rw [List.take_succ_eq_append_getElem h]
  simp [List.getD, h]

/-- What a walk is told of a slice of sentences. -/
structure IsG (w : World) (a : Option Addr) (n cap : Nat) (rs : List LV) : Prop where
  len : rs.length = n * 2
  fits : n ≤ cap
  max : cap ≤ maxLen
  rows : ∀ r ∈ rs, IsRow .i64 w r.a r.n r.c r.zs
  cells : 0 < n → ∃ b off, a = some ⟨b, off, none⟩ ∧ b < w.heap.size ∧ ∀ i, i < n → w.cell? ⟨b, off + i * 2, none⟩ = some (.slice (rs.getD (i * 2) ld).a (rs.getD (i * 2) ld).n (rs.getD (i * 2) ld).c) ∧ w.cell? ⟨b, off + i * 2 + 1, none⟩ = some (.slice (rs.getD (i * 2 + 1) ld).a (rs.getD (i * 2 + 1) ld).n (rs.getD (i * 2 + 1) ld).c)

theorem IsG.below {w w' : World} {a : Option Addr} {n cap : Nat} {rs : List LV} (h : IsG w a n cap rs) (hb : Below w.heap.size w w') : IsG w' a n cap rs := by
  refine ⟨h.len, h.fits, h.max, fun r hr => IsRow.below (h.rows r hr) hb, fun h0 => ?_⟩
  obtain ⟨b, off, ha, hlt, hc⟩ := h.cells h0
  exact ⟨b, off, ha, Nat.lt_of_lt_of_le hlt hb.size, fun i hi => by rw [hb.cell (p := ⟨b, off + i * 2, none⟩) hlt, hb.cell (p := ⟨b, off + i * 2 + 1, none⟩) hlt]; exact hc i hi⟩

/-- A slice of sentences that the call owns, each list a block of its own. -/
structure OwnG (w : World) (base : Nat) (a : Option Addr) (n cap : Nat) (rs : List LV) : Prop where
  outer : w.ownsRow base 36 2 (.slice a n cap) n (lcells rs)
  inner : ∀ r ∈ rs, w.ownsRow base 3 1 (.slice r.a r.n r.c) r.n (ints .i64 r.zs)
  wf : ∀ r ∈ rs, ∀ z ∈ r.zs, (Lit.int .i64 z).wf = true
  apart : rs.Pairwise fun r s => Far r.a s.a
  apart0 : ∀ r ∈ rs, Far a r.a

theorem OwnG.below {w w' : World} {base : Nat} {a : Option Addr} {n cap : Nat} {rs : List LV} (h : OwnG w base a n cap rs) (hb : Below w.heap.size w w') : OwnG w' base a n cap rs :=
  ⟨own_below h.outer hb, fun r hr => own_below (h.inner r hr) hb, h.wf, h.apart, h.apart0⟩
theorem OwnG.len {w : World} {base : Nat} {a : Option Addr} {n cap : Nat} {rs : List LV} (h : OwnG w base a n cap rs) : rs.length = n * 2 := by
  have := h.outer.1
  rwa [lcells_length] at this
theorem OwnG.lt {w : World} {base : Nat} {a : Option Addr} {n cap : Nat} {rs : List LV} (h : OwnG w base a n cap rs) : ∀ r ∈ rs, ∀ x, r.a = some x → base ≤ x.block ∧ x.block < w.heap.size := fun r hr x hx => own_block (h.inner r hr) x hx
theorem OwnG.vlen {w : World} {base : Nat} {a : Option Addr} {n cap : Nat} {rs : List LV} (h : OwnG w base a n cap rs) : ∀ r ∈ rs, r.zs.length = r.n := fun r hr => by
  have := (h.inner r hr).1
  rw [ints_length] at this
  omega
theorem isG_outer {w : World} {base : Nat} {a : Option Addr} {n cap : Nat} {rs : List LV} (h0 : w.ownsRow base 36 2 (.slice a n cap) n (lcells rs)) (hrows : ∀ r ∈ rs, IsRow .i64 w r.a r.n r.c r.zs) : IsG w a n cap rs := by
  have h00 := h0
  obtain ⟨h1, h2⟩ := h00
  have hn : rs.length = n * 2 := by rwa [lcells_length] at h1
  rcases h2 with ⟨hv, rfl⟩ | ⟨g, cap', cur, hv, hg, hh, hnc, hcap, hsz, htake⟩
  · simp only [Value.slice.injEq] at hv
    obtain ⟨rfl, _, rfl⟩ := hv
    exact ⟨hn, Nat.le_refl _, by simp [maxLen], hrows, fun h => absurd h (by omega)⟩
  · simp only [Value.slice.injEq] at hv
    obtain ⟨rfl, _, rfl⟩ := hv
    refine ⟨hn, hnc, hcap, hrows, fun _ => ⟨g, 0, rfl, ?_, fun i hi => ?_⟩⟩
    · by_cases hx : g < w.heap.size
      · exact hx
      · rw [Array.getElem?_eq_none (by omega)] at hh; cases hh
    · rw [Nat.zero_add, h0.cellAt (i * 2) (by omega), h0.cellAt (i * 2 + 1) (by omega)]
      exact ⟨lcells_get rs (i * 2) (by omega), lcells_get rs (i * 2 + 1) (by omega)⟩
theorem OwnG.isG {w : World} {base : Nat} {a : Option Addr} {n cap : Nat} {rs : List LV} (h : OwnG w base a n cap rs) : IsG w a n cap rs :=
  isG_outer h.outer (fun r hr => by
    obtain ⟨a', c', e, hv⟩ := isRow_own (h.inner r hr) (h.wf r hr)
    cases e
    exact hv)

theorem infoD : (Try.prog.info? 36).map (fun i => (i.zero, i.size, i.bytes)) = some (some (.agg #[.slice none 0 0, .slice none 0 0]), 2, 48) := by kernel_rfl

/-- A list is put into its place. -/
theorem OwnG.put {w : World} {base g0 n cap : Nat} {xs ys : List LV} {q r : LV} (h : OwnG w base (some ⟨g0, 0, none⟩) n cap (xs ++ q :: ys)) (hr : w.ownsRow base 3 1 (.slice r.a r.n r.c) r.n (ints .i64 r.zs))
    (hw : ∀ z ∈ r.zs, (Lit.int .i64 z).wf = true) (hfx : ∀ s ∈ xs, Far s.a r.a) (hfy : ∀ s ∈ ys, Far r.a s.a) (hf0 : Far (some ⟨g0, 0, none⟩) r.a) :
    OwnG (w.setCell ⟨g0, xs.length, none⟩ (.slice r.a r.n r.c)) base (some ⟨g0, 0, none⟩) n cap (xs ++ r :: ys) := by
  have ot : OnlyAt (some ⟨g0, 0, none⟩) w (w.setCell ⟨g0, xs.length, none⟩ (.slice r.a r.n r.c)) := (OnlyAt.refl _ w).setCell (fun x hx => by cases hx; rfl) (by simp) _
  refine ⟨?_, fun s hs => ?_, fun s hs => ?_, ?_, fun s hs => ?_⟩
  · have := (h.outer.stored xs.length (.slice r.a r.n r.c)).1
    rwa [set_lcells] at this
  · rcases swap_mem (q := q) hs with rfl | hs'
    · exact own_touch hr ot (fun x y hx hy => hf0.symm x y hx hy)
    · exact own_touch (h.inner s hs') ot (fun x y hx hy => (h.apart0 s hs').symm x y hx hy)
  · rcases swap_mem (q := q) hs with rfl | hs'
    · exact hw
    · exact h.wf s hs'
  · have hp := h.apart
    rw [List.pairwise_append] at hp ⊢
    obtain ⟨p1, p2, p3⟩ := hp
    rw [List.pairwise_cons] at p2 ⊢
    refine ⟨p1, ⟨hfy, p2.2⟩, fun s hs t ht => ?_⟩
    rcases List.mem_cons.1 ht with rfl | ht
    · exact hfx s hs
    · exact p3 s hs t (List.mem_cons_of_mem _ ht)
  · rcases swap_mem (q := q) hs with rfl | hs'
    · exact hf0
    · exact h.apart0 s hs'

theorem OwnG.setInts {w w' : World} {base : Nat} {a : Option Addr} {n cap : Nat} {xs ys : List LV} {q : LV} {zs : List Int} (h : OwnG w base a n cap (xs ++ q :: ys)) (ot : OnlyAt q.a w w')
    (ho : w'.ownsRow base 3 1 (.slice q.a q.n q.c) q.n (ints .i64 zs)) (hv : ∀ z ∈ zs, (Lit.int .i64 z).wf = true) : OwnG w' base a n cap (xs ++ ⟨q.a, q.n, q.c, zs⟩ :: ys) := by
  have hq : q ∈ xs ++ q :: ys := by simp
  have hp := h.apart
  rw [List.pairwise_append] at hp
  obtain ⟨p1, p2, p3⟩ := hp
  rw [List.pairwise_cons] at p2
  refine ⟨?_, fun s hs => ?_, fun s hs => ?_, swap_pair h.apart (fun s hs => hs) (fun s hs => hs), fun s hs => ?_⟩
  · rw [lcells_zs]
    exact own_touch h.outer ot (fun x y hx hy => h.apart0 q hq x y hx hy)
  · simp only [List.mem_append, List.mem_cons] at hs
    rcases hs with hs | rfl | hs
    · exact own_touch (h.inner s (List.mem_append_left _ hs)) ot (fun x y hx hy => p3 s hs q (List.mem_cons_self ..) x y hx hy)
    · exact ho
    · exact own_touch (h.inner s (List.mem_append_right _ (List.mem_cons_of_mem _ hs))) ot (fun x y hx hy => (p2.1 s hs).symm x y hx hy)
  · rcases swap_mem (q := q) hs with rfl | hs'
    · exact hv
    · exact h.wf s hs'
  · rcases swap_mem (q := q) hs with rfl | hs'
    · exact h.apart0 q hq
    · exact h.apart0 s hs'

theorem made_g (n : Nat) : (madeCells #[Value.slice none 0 0, Value.slice none 0 0] (n * 2)).toList = lcells (List.replicate (n * 2) ld) := by
  apply List.ext_getElem?
  intro j
  by_cases hj : j < n * 2
  · rw [lcells_get _ _ (by simpa using hj)]
    rcases Nat.mod_two_eq_zero_or_one j with h | h <;> simp [madeCells, List.getD, hj, ld, h]
  · rw [List.getElem?_eq_none (by simp [madeCells]; omega), List.getElem?_eq_none (by rw [lcells_length]; simp; omega)]

theorem own_made {w : World} {base : Nat} {g n : Nat} (h : w.ownsRow base 36 2 (.slice (some ⟨g, 0, none⟩) n n) n (madeCells #[Value.slice none 0 0, Value.slice none 0 0] (n * 2)).toList) : OwnG w base (some ⟨g, 0, none⟩) n n (List.replicate (n * 2) ld) := by
  have hm : ∀ r, r ∈ List.replicate (n * 2) ld → r = ld := fun r hr => (List.mem_replicate.1 hr).2
  refine ⟨by rw [← made_g]; exact h, fun r hr => ?_, fun r hr => ?_, ?_, fun r hr => ?_⟩
  · rw [hm r hr]; exact World.ownsRow_nil _ _ _ _
  · rw [hm r hr]; simp [ld]
  · exact List.pairwise_replicate.2 (.inr (fun x y hx _ => by cases hx))
  · rw [hm r hr]; exact fun x y _ hy => by cases hy

/-! One sentence. -/
def EIs (w : World) (u t : Value) (d : Dp) : Prop := IIs w u d.1 ∧ IIs w t d.2
def EOwn (w : World) (lo hi : Nat) (u t : Value) (d : Dp) : Prop := IOwn w lo hi u d.1 ∧ IOwn w lo hi t d.2 ∧ Far (addrOf u) (addrOf t)
def EMarked (w : World) (lo hi : Nat) (u t : Value) (k nx : Int) : Prop := ∃ n m : Nat, IOwn w lo hi u (marks k n) ∧ IOwn w lo hi t (marks (k + (n : Int)) m) ∧ nx = k + (n : Int) + (m : Int) ∧ 0 ≤ k ∧ k ≤ 50000000 ∧ Far (addrOf u) (addrOf t)

theorem eIs_below {w w' : World} {u t : Value} {d : Dp} (h : EIs w u t d) (hb : Below w.heap.size w w') : EIs w' u t d := ⟨iIs_below h.1 hb, iIs_below h.2 hb⟩
theorem eOwn_is {w : World} {lo hi : Nat} {u t : Value} {d : Dp} (h : EOwn w lo hi u t d) : EIs w u t d := ⟨iOwn_is h.1, iOwn_is h.2.1⟩
theorem eOwn_keeps {w w' : World} {lo hi lo' hi' : Nat} {u t : Value} {d : Dp} (h : EOwn w lo hi u t d) (k : Keeps lo' hi' w w') (hd : hi ≤ lo' ∨ hi' ≤ lo) : EOwn w' lo hi u t d := ⟨iOwn_keeps h.1 k hd, iOwn_keeps h.2.1 k hd, h.2.2⟩
theorem eMarked_keeps {w w' : World} {lo hi lo' hi' : Nat} {u t : Value} {k nx : Int} (h : EMarked w lo hi u t k nx) (kk : Keeps lo' hi' w w') (hd : hi ≤ lo' ∨ hi' ≤ lo) : EMarked w' lo hi u t k nx := by
  obtain ⟨n, m, h1, h2, h3⟩ := h
  exact ⟨n, m, iOwn_keeps h1 kk hd, iOwn_keeps h2 kk hd, h3⟩
theorem eOwn_below {w w' : World} {lo hi : Nat} {u t : Value} {d : Dp} (h : EOwn w lo hi u t d) (hb : Below w.heap.size w w') : EOwn w' lo hi u t d := eOwn_keeps (lo' := hi) (hi' := hi) h (Keeps.of_below hb) (Or.inl (Nat.le_refl _))
theorem eMarked_below {w w' : World} {lo hi : Nat} {u t : Value} {k nx : Int} (h : EMarked w lo hi u t k nx) (hb : Below w.heap.size w w') : EMarked w' lo hi u t k nx := eMarked_keeps (lo' := hi) (hi' := hi) h (Keeps.of_below hb) (Or.inl (Nat.le_refl _))
theorem eOwn_wide {w : World} {lo hi lo' hi' : Nat} {u t : Value} {d : Dp} (h : EOwn w lo hi u t d) (h1 : lo' ≤ lo) (h2 : hi ≤ hi') : EOwn w lo' hi' u t d := ⟨iOwn_wide h.1 h1 h2, iOwn_wide h.2.1 h1 h2, h.2.2⟩
theorem eOwn_set {w : World} {lo hi : Nat} {u t : Value} {d : Dp} (h : EOwn w lo hi u t d) {b : Nat} (o : Nat) (v : Value) (hb : b < lo) : EOwn (w.setCell ⟨b, o, none⟩ v) lo hi u t d :=
  eOwn_keeps h (keeps_set (lo := b) (hi := b + 1) w o v (by omega)) (Or.inr (by omega))
theorem eOwn_of {w : World} {lo m hi : Nat} {u t : Value} {d : Dp} (h1 : IOwn w lo m u d.1) (h2 : IOwn w m hi t d.2) (hm : m ≤ hi) (hl : lo ≤ m) : EOwn w lo hi u t d := by
  refine ⟨iOwn_wide h1 (Nat.le_refl _) hm, iOwn_wide h2 hl (Nat.le_refl _), ?_⟩
  obtain ⟨a, n, cap, rfl, _, _, _, hb⟩ := h1
  obtain ⟨a', n', cap', rfl, _, _, _, hb'⟩ := h2
  exact fun x y hx hy => by have := hb x hx; have := hb' y hy; omega

theorem left_twice (m : Int) (n k : Nat) (h : 0 ≤ left m n) : left (left m n) k = left m ((n : Int) + (k : Int)) := by
  have e : left m n = m - n := by
    unfold left at h ⊢
    split at h
    · omega
    · rw [if_neg (by omega)]
  rw [e] at h ⊢
  unfold left
  by_cases h2 : m - (n : Int) < (k : Int)
  · rw [if_pos h2, if_pos (by omega)]
  · rw [if_neg h2, if_neg (by omega)]
    omega
theorem left_gone (m : Int) (n k : Nat) (h : left m n < 0) (_h0 : 0 ≤ m) : left m ((n : Int) + (k : Int)) = -1 := by
  unfold left at *
  split at h
  · rw [if_pos (by omega)]
  · omega
theorem left_m1 (m t : Int) : left m t < 0 → left m t = -1 := by
  unfold left
  split
  · intro _; rfl
  · intro h; omega

theorem dp_eq (x y : Dp) : decide (x = y) = (decide (x.1 = y.1) && decide (x.2 = y.2)) := by
  obtain ⟨a, b⟩ := x
  obtain ⟨c, d⟩ := y
  simp [Prod.mk.injEq, Bool.decide_and]


end Go.Proofs.Ytekheacbmbbpmaa.Dls
