/-
  Slices of slices of int in memory; contracts of the laws' helpers on them.
-/
import Derived.Test.YtekheacbmbbpmaaKep
namespace Go.Proofs.Ytekheacbmbbpmaa.Lls
open Go.RowKit
open Go.Proofs.Ytekheacbmbbpmaa.Frame Go.Proofs.Ytekheacbmbbpmaa.Mem Go.Proofs.Ytekheacbmbbpmaa.Ints Go.Proofs.Ytekheacbmbbpmaa.Kep

structure LV where
  a : Option Addr
  n : Nat
  c : Nat
  zs : List Int

def ld : LV := ⟨none, 0, 0, []⟩
def lcell (r : LV) : Value := .slice r.a r.n r.c
def lcells (rs : List LV) : List Value := rs.map lcell
def lplain (rs : List LV) : List (List Int) := rs.map fun r => r.zs

theorem lcells_length (rs : List LV) : (lcells rs).length = rs.length := by simp [lcells]
theorem lcells_append (xs ys : List LV) : lcells (xs ++ ys) = lcells xs ++ lcells ys := by simp [lcells]
theorem lcells_get (rs : List LV) (i : Nat) (h : i < rs.length) : (lcells rs)[i]? = some (.slice (rs.getD i ld).a (rs.getD i ld).n (rs.getD i ld).c) := by
  simp [lcells, lcell, List.getD, h]
theorem take_succ_ld {rs : List LV} {i : Nat} (h : i < rs.length) : rs.take (i + 1) = rs.take i ++ [rs.getD i ld] := by
  rw [List.take_succ_eq_append_getElem h]
  simp [List.getD, h]
theorem drop_succ_ld {rs : List LV} {i : Nat} (h : i < rs.length) : rs.drop i = rs.getD i ld :: rs.drop (i + 1) := by
  rw [List.drop_eq_getElem_cons h]
  simp [List.getD, h]
theorem getD_mem_ld {rs : List LV} {i : Nat} (h : i < rs.length) : rs.getD i ld ∈ rs := by
  simp only [List.getD, List.getElem?_eq_getElem h, Option.getD_some]
  exact List.getElem_mem h
theorem lplain_get (rs : List LV) (k : Nat) (h : k < rs.length) : (lplain rs).getD k [] = (rs.getD k ld).zs := by simp [lplain, List.getD, h]

/-- What a walk is told of a slice of slices. -/
structure IsLs (w : World) (a : Option Addr) (n cap : Nat) (rs : List LV) : Prop where
  len : rs.length = n
  fits : n ≤ cap
  max : cap ≤ maxLen
  rows : ∀ r ∈ rs, IsRow .i64 w r.a r.n r.c r.zs
  cells : 0 < n → ∃ b off, a = some ⟨b, off, none⟩ ∧ b < w.heap.size ∧ ∀ i, i < n → w.cell? ⟨b, off + i, none⟩ = some (.slice (rs.getD i ld).a (rs.getD i ld).n (rs.getD i ld).c)

theorem IsLs.below {w w' : World} {a : Option Addr} {n cap : Nat} {rs : List LV} (h : IsLs w a n cap rs) (hb : Below w.heap.size w w') : IsLs w' a n cap rs := by
  refine ⟨h.len, h.fits, h.max, fun r hr => IsRow.below (h.rows r hr) hb, fun h0 => ?_⟩
  obtain ⟨b, off, ha, hlt, hc⟩ := h.cells h0
  exact ⟨b, off, ha, Nat.lt_of_lt_of_le hlt hb.size, fun i hi => by rw [hb.cell (p := ⟨b, off + i, none⟩) hlt]; exact hc i hi⟩

def Far (a b : Option Addr) : Prop := ∀ x y, a = some x → b = some y → x.block ≠ y.block
theorem Far.symm {a b : Option Addr} (h : Far a b) : Far b a := fun x y hx hy e => h y x hy hx e.symm

/-- A slice of slices that the call owns, each a block of its own. -/
structure OwnLs (w : World) (base : Nat) (a : Option Addr) (n cap : Nat) (rs : List LV) : Prop where
  outer : w.ownsRow base 34 1 (.slice a n cap) n (lcells rs)
  inner : ∀ r ∈ rs, w.ownsRow base 3 1 (.slice r.a r.n r.c) r.n (ints .i64 r.zs)
  wf : ∀ r ∈ rs, ∀ z ∈ r.zs, (Lit.int .i64 z).wf = true
  apart : rs.Pairwise fun r s => Far r.a s.a
  apart0 : ∀ r ∈ rs, Far a r.a

theorem OwnLs.below {w w' : World} {base : Nat} {a : Option Addr} {n cap : Nat} {rs : List LV} (h : OwnLs w base a n cap rs) (hb : Below w.heap.size w w') : OwnLs w' base a n cap rs :=
  ⟨own_below h.outer hb, fun r hr => own_below (h.inner r hr) hb, h.wf, h.apart, h.apart0⟩
theorem OwnLs.len {w : World} {base : Nat} {a : Option Addr} {n cap : Nat} {rs : List LV} (h : OwnLs w base a n cap rs) : rs.length = n := by
  have := h.outer.1
  rw [lcells_length] at this
  omega
theorem OwnLs.lt {w : World} {base : Nat} {a : Option Addr} {n cap : Nat} {rs : List LV} (h : OwnLs w base a n cap rs) : ∀ r ∈ rs, ∀ x, r.a = some x → base ≤ x.block ∧ x.block < w.heap.size := fun r hr x hx => own_block (h.inner r hr) x hx

theorem isLs_outer {w : World} {base : Nat} {a : Option Addr} {n cap : Nat} {rs : List LV} (h0 : w.ownsRow base 34 1 (.slice a n cap) n (lcells rs)) (hrows : ∀ r ∈ rs, IsRow .i64 w r.a r.n r.c r.zs) : IsLs w a n cap rs := by
  have h00 := h0
  obtain ⟨h1, h2⟩ := h00
  have hn : rs.length = n := by rw [lcells_length] at h1; omega
  rcases h2 with ⟨hv, rfl⟩ | ⟨g, cap', cur, hv, hg, hh, hnc, hcap, hsz, htake⟩
  · simp only [Value.slice.injEq] at hv
    obtain ⟨rfl, _, rfl⟩ := hv
    exact ⟨hn, Nat.le_refl _, by simp [maxLen], hrows, fun h => absurd h (by omega)⟩
  · simp only [Value.slice.injEq] at hv
    obtain ⟨rfl, _, rfl⟩ := hv
    refine ⟨hn, hnc, hcap, hrows, fun _ => ⟨g, 0, rfl, ?_, fun i hi => ?_⟩⟩
    · by_cases hx : g < w.heap.size
      · exact hx
      · rw [Array.getElem?_eq_none (by omega)] at hh; cases hh
    · have := lcells_get rs i (by omega)
      rw [Nat.zero_add, h0.cellAt i (by omega)]
      exact this
theorem OwnLs.isLs {w : World} {base : Nat} {a : Option Addr} {n cap : Nat} {rs : List LV} (h : OwnLs w base a n cap rs) : IsLs w a n cap rs :=
  isLs_outer h.outer (fun r hr => by
    obtain ⟨a', c', e, hv⟩ := isRow_own (h.inner r hr) (h.wf r hr)
    cases e
    exact hv)

theorem infoL : (Try.prog.info? 34).map (fun i => (i.zero, i.size, i.bytes)) = some (some (.slice none 0 0), 1, 24) := by kernel_rfl

/-! Sizes. -/
def sumL (rs : List LV) : Int := (rs.map fun r => (r.n : Int)).sum
def totalL (rs : List LV) : Int := (rs.length : Int) + sumL rs
theorem sumL_append (xs ys : List LV) : sumL (xs ++ ys) = sumL xs + sumL ys := by simp [sumL, List.sum_append]
theorem sumL_nonneg (rs : List LV) : 0 ≤ sumL rs := by
  induction rs with
  | nil => simp [sumL]
  | cons r rs ih => simp only [sumL, List.map_cons, List.sum_cons] at *; omega
theorem sumL_le (rs : List LV) (k : Nat) : sumL (rs.take k) ≤ sumL rs := by
  have h : sumL rs = sumL (rs.take k) + sumL (rs.drop k) := by rw [← sumL_append, List.take_append_drop]
  have := sumL_nonneg (rs.drop k)
  omega
theorem sumL_mem {rs : List LV} {r : LV} (h : r ∈ rs) : (r.n : Int) ≤ sumL rs := by
  induction rs with
  | nil => cases h
  | cons x rs ih =>
    have hn := sumL_nonneg rs
    simp only [sumL, List.map_cons, List.sum_cons] at *
    rcases List.mem_cons.1 h with rfl | h
    · omega
    · have := ih h; omega
def left (m : Int) (t : Int) : Int := if m < t then -1 else m - t
theorem left_ok {m : Int} {rs : List LV} (h : 0 ≤ left m (totalL rs)) (hm : m ≤ 1048576) : rs.length ≤ 1048576 ∧ ∀ r ∈ rs, r.n ≤ 1048576 := by
  unfold left at h
  split at h
  · omega
  · have hn := sumL_nonneg rs
    unfold totalL at *
    refine ⟨by omega, fun r hr => ?_⟩
    have := sumL_mem hr
    omega

theorem set_lcells (xs ys : List LV) (q r : LV) : (lcells (xs ++ q :: ys)).set xs.length (.slice r.a r.n r.c) = lcells (xs ++ r :: ys) := by
  simp [lcells, lcell]

/-- A slice is put into its place. -/
theorem OwnLs.put {w : World} {base g0 n cap : Nat} {xs ys : List LV} {q r : LV} (h : OwnLs w base (some ⟨g0, 0, none⟩) n cap (xs ++ q :: ys)) (hr : w.ownsRow base 3 1 (.slice r.a r.n r.c) r.n (ints .i64 r.zs))
    (hw : ∀ z ∈ r.zs, (Lit.int .i64 z).wf = true) (hfx : ∀ s ∈ xs, Far s.a r.a) (hfy : ∀ s ∈ ys, Far r.a s.a) (hf0 : Far (some ⟨g0, 0, none⟩) r.a) :
    OwnLs (w.setCell ⟨g0, xs.length, none⟩ (.slice r.a r.n r.c)) base (some ⟨g0, 0, none⟩) n cap (xs ++ r :: ys) := by
  have ot : OnlyAt (some ⟨g0, 0, none⟩) w (w.setCell ⟨g0, xs.length, none⟩ (.slice r.a r.n r.c)) := (OnlyAt.refl _ w).setCell (fun x hx => by cases hx; rfl) (by simp) _
  have hmem : ∀ s, s ∈ xs ++ r :: ys → s = r ∨ s ∈ xs ++ q :: ys := fun s hs => by
    simp only [List.mem_append, List.mem_cons] at hs ⊢
    rcases hs with h | h | h
    · exact .inr (.inl h)
    · exact .inl h
    · exact .inr (.inr (.inr h))
  refine ⟨?_, fun s hs => ?_, fun s hs => ?_, ?_, fun s hs => ?_⟩
  · have := (h.outer.stored xs.length (.slice r.a r.n r.c)).1
    rwa [set_lcells] at this
  · rcases hmem s hs with rfl | hs'
    · exact own_touch hr ot (fun x y hx hy => hf0.symm x y hx hy)
    · exact own_touch (h.inner s hs') ot (fun x y hx hy => (h.apart0 s hs').symm x y hx hy)
  · rcases hmem s hs with rfl | hs'
    · exact hw
    · exact h.wf s hs'
  · have hp := h.apart
    rw [List.pairwise_append] at hp ⊢
    obtain ⟨p1, p2, p3⟩ := hp
    rw [List.pairwise_cons] at p2 ⊢
    refine ⟨p1, ⟨hfy, p2.2⟩, fun s hs t ht => ?_⟩
    rcases List.mem_cons.1 ht with rfl | ht
    · exact hfx s hs
    · exact p3 s hs t (List.mem_cons_of_mem _ ht)
  · rcases hmem s hs with rfl | hs'
    · exact hf0
    · exact h.apart0 s hs'

theorem made_ls (n : Nat) : (madeCells #[Value.slice none 0 0] n).toList = lcells (List.replicate n ld) := by
  apply List.ext_getElem?
  intro j
  by_cases hj : j < n
  · rw [lcells_get _ _ (by simpa using hj)]
    simp [madeCells, List.getD, hj, ld, Nat.mod_one]
  · rw [List.getElem?_eq_none (by simp [madeCells]; omega), List.getElem?_eq_none (by rw [lcells_length]; simp; omega)]

theorem own_made {w : World} {base : Nat} {g n : Nat} (h : w.ownsRow base 34 1 (.slice (some ⟨g, 0, none⟩) n n) n (madeCells #[Value.slice none 0 0] n).toList) : OwnLs w base (some ⟨g, 0, none⟩) n n (List.replicate n ld) := by
  have hm : ∀ r, r ∈ List.replicate n ld → r = ld := fun r hr => (List.mem_replicate.1 hr).2
  refine ⟨by rw [← made_ls]; exact h, fun r hr => ?_, fun r hr => ?_, ?_, fun r hr => ?_⟩
  · rw [hm r hr]; exact World.ownsRow_nil _ _ _ _
  · rw [hm r hr]; simp [ld]
  · exact List.pairwise_replicate.2 (.inr (fun x y hx _ => by cases hx))
  · rw [hm r hr]; exact fun x y _ hy => by cases hy

theorem eq_take_ld (xs ys : List LV) (k : Nat) (hx : k < xs.length) (hy : k < ys.length) (h : lplain (xs.take k) = lplain (ys.take k)) (e : (xs.getD k ld).zs = (ys.getD k ld).zs) : lplain (xs.take (k + 1)) = lplain (ys.take (k + 1)) := by
  rw [take_succ_ld hx, take_succ_ld hy]
  simp only [lplain, List.map_append, List.map_cons, List.map_nil] at *
  rw [h, e]

def eqL (x y : List Int) : Bool := decide (x = y)

def lmarks (k : Int) : List LV → List LV
  | [] => []
  | r :: rs => ⟨r.a, r.n, r.c, marks k r.n⟩ :: lmarks (k + (r.n : Int)) rs
def lnext (k : Int) (rs : List LV) : Int := k + sumL rs
theorem lmarks_length (k : Int) (rs : List LV) : (lmarks k rs).length = rs.length := by
  induction rs generalizing k with
  | nil => rfl
  | cons r rs ih => simp [lmarks, ih]
theorem lnext_cons (k : Int) (r : LV) (rs : List LV) : lnext (k + (r.n : Int)) rs = lnext k (r :: rs) := by
  simp only [lnext, sumL, List.map_cons, List.sum_cons]
  omega
theorem lmarks_append (k : Int) (xs ys : List LV) : lmarks k (xs ++ ys) = lmarks k xs ++ lmarks (lnext k xs) ys := by
  induction xs generalizing k with
  | nil => simp [lmarks, lnext, sumL]
  | cons r rs ih => simp only [List.cons_append, lmarks, ih, lnext_cons]
theorem lnext_append (k : Int) (xs ys : List LV) : lnext k (xs ++ ys) = lnext (lnext k xs) ys := by
  simp only [lnext, sumL_append]
  omega
theorem lmarks_mem {k : Int} {rs : List LV} {r : LV} (h : r ∈ lmarks k rs) : ∃ s ∈ rs, s.a = r.a := by
  induction rs generalizing k with
  | nil => cases h
  | cons q rs ih =>
    rcases List.mem_cons.1 h with rfl | h
    · exact ⟨q, by simp, rfl⟩
    · obtain ⟨s, hs, e⟩ := ih h
      exact ⟨s, by simp [hs], e⟩

/-- Only the inner blocks of a slice of slices were turned. -/
structure OnlyIn (rs : List LV) (w w' : World) : Prop where
  os : w'.os = w.os
  tape : w'.tape = w.tape
  output : w'.output = w.output
  size : w.heap.size ≤ w'.heap.size
  block : ∀ k, k < w.heap.size → (∀ r ∈ rs, ∀ x, r.a = some x → k ≠ x.block) → w'.heap[k]? = w.heap[k]?
theorem OnlyIn.refl (rs : List LV) (w : World) : OnlyIn rs w w := ⟨rfl, rfl, rfl, Nat.le_refl _, fun _ _ _ => rfl⟩
theorem OnlyIn.at_inner {rs : List LV} {w w1 w2 : World} {r : LV} (h : OnlyIn rs w w1) (t : OnlyAt r.a w1 w2) (hr : r ∈ rs) : OnlyIn rs w w2 :=
  ⟨t.os.trans h.os, t.tape.trans h.tape, t.output.trans h.output, Nat.le_trans h.size t.size, fun k hk h2 => (t.block k (Nat.lt_of_lt_of_le hk h.size) (h2 r hr)).trans (h.block k hk h2)⟩

theorem swap_mem {α : Type} {xs ys : List α} {q r s : α} (h : s ∈ xs ++ r :: ys) : s = r ∨ s ∈ xs ++ q :: ys := by
  simp only [List.mem_append, List.mem_cons] at h ⊢
  rcases h with h | h | h
  · exact .inr (.inl h)
  · exact .inl h
  · exact .inr (.inr (.inr h))
theorem swap_pair {R : LV → LV → Prop} {xs ys : List LV} {q r : LV} (h : (xs ++ q :: ys).Pairwise R) (h1 : ∀ s, R s q → R s r) (h2 : ∀ s, R q s → R r s) : (xs ++ r :: ys).Pairwise R := by
  rw [List.pairwise_append] at h ⊢
  obtain ⟨p1, p2, p3⟩ := h
  rw [List.pairwise_cons] at p2 ⊢
  refine ⟨p1, ⟨fun s hs => h2 s (p2.1 s hs), p2.2⟩, fun s hs t ht => ?_⟩
  rcases List.mem_cons.1 ht with rfl | ht
  · exact h1 s (p3 s hs q (List.mem_cons_self ..))
  · exact p3 s hs t (List.mem_cons_of_mem _ ht)
theorem lcells_zs (xs ys : List LV) (q : LV) (zs : List Int) : lcells (xs ++ ⟨q.a, q.n, q.c, zs⟩ :: ys) = lcells (xs ++ q :: ys) := by simp [lcells, lcell]

theorem OwnLs.setInts {w w' : World} {base : Nat} {a : Option Addr} {n cap : Nat} {xs ys : List LV} {q : LV} {zs : List Int} (h : OwnLs w base a n cap (xs ++ q :: ys)) (ot : OnlyAt q.a w w')
    (ho : w'.ownsRow base 3 1 (.slice q.a q.n q.c) q.n (ints .i64 zs)) (hv : ∀ z ∈ zs, (Lit.int .i64 z).wf = true) : OwnLs w' base a n cap (xs ++ ⟨q.a, q.n, q.c, zs⟩ :: ys) := by
  have hq : q ∈ xs ++ q :: ys := by simp
  have hp := h.apart
  rw [List.pairwise_append] at hp
  obtain ⟨p1, p2, p3⟩ := hp
  rw [List.pairwise_cons] at p2
  refine ⟨?_, fun s hs => ?_, fun s hs => ?_, swap_pair h.apart (fun s hs => hs) (fun s hs => hs), fun s hs => ?_⟩
  · rw [lcells_zs]
    exact own_touch h.outer ot (fun x y hx hy => h.apart0 q hq x y hx hy)
  · simp only [List.mem_append, List.mem_cons] at hs
    rcases hs with hs | rfl | hs
    · exact own_touch (h.inner s (List.mem_append_left _ hs)) ot (fun x y hx hy => p3 s hs q (List.mem_cons_self ..) x y hx hy)
    · exact ho
    · exact own_touch (h.inner s (List.mem_append_right _ (List.mem_cons_of_mem _ hs))) ot (fun x y hx hy => (p2.1 s hs).symm x y hx hy)
  · rcases swap_mem (q := q) hs with rfl | hs'
    · exact hv
    · exact h.wf s hs'
  · rcases swap_mem (q := q) hs with rfl | hs'
    · exact h.apart0 q hq
    · exact h.apart0 s hs'

theorem lmarks_at {k0 : Int} {rs : List LV} {k : Nat} (h : k < rs.length) : (lmarks k0 rs).getD k ld = ⟨(rs.getD k ld).a, (rs.getD k ld).n, (rs.getD k ld).c, marks (lnext k0 (rs.take k)) (rs.getD k ld).n⟩ := by
  have e : rs = rs.take k ++ rs.getD k ld :: rs.drop (k + 1) := by rw [← drop_succ_ld h, List.take_append_drop]
  have hl : (lmarks k0 (rs.take k)).length = k := by rw [lmarks_length, List.length_take]; omega
  conv => lhs; rw [e]
  rw [lmarks_append]
  simp [lmarks, List.getD, hl]


end Go.Proofs.Ytekheacbmbbpmaa.Lls
