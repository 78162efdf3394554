/-
  Slices of slices of int in memory; contracts of the laws' helpers on them.
-/
import Derived.Test.YtkondmnkmbdncaaKep
namespace Go.Proofs.Ytkondmnkmbdncaa.Lls
open Go.RowKit
open Go.Proofs.Ytkondmnkmbdncaa.Frame Go.Proofs.Ytkondmnkmbdncaa.Mem Go.Proofs.Ytkondmnkmbdncaa.Ints Go.Proofs.Ytkondmnkmbdncaa.Kep

structure LV where
  a : Option Addr
  n : Nat
  c : Nat
  zs : List Int

def ld : LV := ⟨none, 0, 0, []⟩
def lcell (r : LV) : Value := .slice r.a r.n r.c
def lcells (rs : List LV) : List Value := rs.map lcell
def lplain (rs : List LV) : List (List Int) := rs.map fun r => r.zs

theorem lcells_length (rs : List LV) : (lcells rs).length = rs.length := by simp [lcells]
theorem lcells_append (xs ys : List LV) : lcells (xs ++ ys) = lcells xs ++ lcells ys := by simp [lcells]
theorem lcells_get (rs : List LV) (i : Nat) (h : i < rs.length) : (lcells rs)[i]? = some (.slice (rs.getD i ld).a (rs.getD i ld).n (rs.getD i ld).c) := by
  simp [lcells, lcell, List.getD, h]
theorem take_succ_ld {rs : List LV} {i : Nat} (h : i < rs.length) : rs.take (i + 1) = rs.take i ++ [rs.getD i ld] := by
  rw [List.take_succ_eq_append_getElem h]
  simp [List.getD, h]
theorem drop_succ_ld {rs : List LV} {i : Nat} (h : i < rs.length) : rs.drop i = rs.getD i ld :: rs.drop (i + 1) := by
  rw [List.drop_eq_getElem_cons h]
  simp [List.getD, h]
theorem getD_mem_ld {rs : List LV} {i : Nat} (h : i < rs.length) : rs.getD i ld ∈ rs := by
  simp only [List.getD, List.getElem?_eq_getElem h, Option.getD_some]
  exact List.getElem_mem h
theorem lplain_get (rs : List LV) (k : Nat) (h : k < rs.length) : (lplain rs).getD k [] = (rs.getD k ld).zs := by simp [lplain, List.getD, h]

/-- What a walk is told of a slice of slices. -/
structure IsLs (w : World) (a : Option Addr) (n cap : Nat) (rs : List LV) : Prop where
  len : rs.length = n
  fits : n ≤ cap
  max : cap ≤ maxLen
  rows : ∀ r ∈ rs, IsRow .i64 w r.a r.n r.c r.zs
  cells : 0 < n → ∃ b off, a = some ⟨b, off, none⟩ ∧ b < w.heap.size ∧ ∀ i, i < n → w.cell? ⟨b, off + i, none⟩ = some (.slice (rs.getD i ld).a (rs.getD i ld).n (rs.getD i ld).c)

theorem IsLs.below {w w' : World} {a : Option Addr} {n cap : Nat} {rs : List LV} (h : IsLs w a n cap rs) (hb : Below w.heap.size w w') : IsLs w' a n cap rs := by
  refine ⟨h.len, h.fits, h.max, fun r hr => IsRow.below (h.rows r hr) hb, fun h0 => ?_⟩
  obtain ⟨b, off, ha, hlt, hc⟩ := h.cells h0
  exact ⟨b, off, ha, Nat.lt_of_lt_of_le hlt hb.size, fun i hi => by rw [hb.cell (p := ⟨b, off + i, none⟩) hlt]; exact hc i hi⟩

def Far (a b : Option Addr) : Prop := ∀ x y, a = some x → b = some y → x.block ≠ y.block
theorem Far.symm {a b : Option Addr} (h : Far a b) : Far b a := fun x y hx hy e => h y x hy hx e.symm

/-- A slice of slices that the call owns, each a block of its own. -/
structure OwnLs (w : World) (base : Nat) (a : Option Addr) (n cap : Nat) (rs : List LV) : Prop where
  outer : w.ownsRow base 24 1 (.slice a n cap) n (lcells rs)
  inner : ∀ r ∈ rs, w.ownsRow base 3 1 (.slice r.a r.n r.c) r.n (ints .i64 r.zs)
  wf : ∀ r ∈ rs, ∀ z ∈ r.zs, (Lit.int .i64 z).wf = true
  apart : rs.Pairwise fun r s => Far r.a s.a
  apart0 : ∀ r ∈ rs, Far a r.a

theorem OwnLs.below {w w' : World} {base : Nat} {a : Option Addr} {n cap : Nat} {rs : List LV} (h : OwnLs w base a n cap rs) (hb : Below w.heap.size w w') : OwnLs w' base a n cap rs :=
  ⟨own_below h.outer hb, fun r hr => own_below (h.inner r hr) hb, h.wf, h.apart, h.apart0⟩
theorem OwnLs.len {w : World} {base : Nat} {a : Option Addr} {n cap : Nat} {rs : List LV} (h : OwnLs w base a n cap rs) : rs.length = n := by
  have := h.outer.1
  rw [lcells_length] at this
  omega
theorem OwnLs.lt {w : World} {base : Nat} {a : Option Addr} {n cap : Nat} {rs : List LV} (h : OwnLs w base a n cap rs) : ∀ r ∈ rs, ∀ x, r.a = some x → base ≤ x.block ∧ x.block < w.heap.size := fun r hr x hx => own_block (h.inner r hr) x hx

theorem isLs_outer {w : World} {base : Nat} {a : Option Addr} {n cap : Nat} {rs : List LV} (h0 : w.ownsRow base 24 1 (.slice a n cap) n (lcells rs)) (hrows : ∀ r ∈ rs, IsRow .i64 w r.a r.n r.c r.zs) : IsLs w a n cap rs := by
  have h00 := h0
  obtain ⟨h1, h2⟩ := h00
  have hn : rs.length = n := by rw [lcells_length] at h1; omega
  rcases h2 with ⟨hv, rfl⟩ | ⟨g, cap', cur, hv, hg, hh, hnc, hcap, hsz, htake⟩
  · simp only [Value.slice.injEq] at hv
    obtain ⟨rfl, _, rfl⟩ := hv
    exact ⟨hn, Nat.le_refl _, by simp [maxLen], hrows, fun h => absurd h (by omega)⟩
  · simp only [Value.slice.injEq] at hv
    obtain ⟨rfl, _, rfl⟩ := hv
    refine ⟨hn, hnc, hcap, hrows, fun _ => ⟨g, 0, rfl, ?_, fun i hi => ?_⟩⟩
    · by_cases hx : g < w.heap.size
      · exact hx
      · rw [Array.getElem?_eq_none (by omega)] at hh; cases hh
    · have := lcells_get rs i (by omega)
      rw [Nat.zero_add, h0.cellAt i (by omega)]
      exact this
theorem OwnLs.isLs {w : World} {base : Nat} {a : Option Addr} {n cap : Nat} {rs : List LV} (h : OwnLs w base a n cap rs) : IsLs w a n cap rs :=
  isLs_outer h.outer (fun r hr => by
    obtain ⟨a', c', e, hv⟩ := isRow_own (h.inner r hr) (h.wf r hr)
    cases e
    exact hv)

theorem infoL : (Try.prog.info? 24).map (fun i => (i.zero, i.size, i.bytes)) = some (some (.slice none 0 0), 1, 24) := by kernel_rfl

/-! Sizes. -/
def sumL (rs : List LV) : Int := (rs.map fun r => (r.n : Int)).sum
def totalL (rs : List LV) : Int := (rs.length : Int) + sumL rs
theorem sumL_append (xs ys : List LV) : sumL (xs ++ ys) = sumL xs + sumL ys := by simp [sumL, List.sum_append]
theorem sumL_nonneg (rs : List LV) : 0 ≤ sumL rs := by
  induction rs with
  | nil => simp [sumL]
  | cons r rs ih => simp only [sumL, List.map_cons, List.sum_cons] at *; omega
theorem sumL_le (rs : List LV) (k : Nat) : sumL (rs.take k) ≤ sumL rs := by
  have h : sumL rs = sumL (rs.take k) + sumL (rs.drop k) := by rw [← sumL_append, List.take_append_drop]
  have := sumL_nonneg (rs.drop k)
  omega
theorem sumL_mem {rs : List LV} {r : LV} (h : r ∈ rs) : (r.n : Int) ≤ sumL rs := by
  induction rs with
  | nil => cases h
  | cons x rs ih =>
    have hn := sumL_nonneg rs
    simp only [sumL, List.map_cons, List.sum_cons] at *
    rcases List.mem_cons.1 h with rfl | h
    · omega
    · have := ih h; omega
def left (m : Int) (t : Int) : Int := if m < t then -1 else m - t
theorem left_ok {m : Int} {rs : List LV} (h : 0 ≤ left m (totalL rs)) (hm : m ≤ 1048576) : rs.length ≤ 1048576 ∧ ∀ r ∈ rs, r.n ≤ 1048576 := by
  unfold left at h
  split at h
  · omega
  · have hn := sumL_nonneg rs
    unfold totalL at *
    refine ⟨by omega, fun r hr => ?_⟩
    have := sumL_mem hr
    omega

theorem set_lcells (xs ys : List LV) (q r : LV) : (lcells (xs ++ q :: ys)).set xs.length (.slice r.a r.n r.c) = lcells (xs ++ r :: ys) := by
  simp [lcells, lcell]

/-- A slice is put into its place. -/
theorem OwnLs.put {w : World} {base g0 n cap : Nat} {xs ys : List LV} {q r : LV} (h : OwnLs w base (some ⟨g0, 0, none⟩) n cap (xs ++ q :: ys)) (hr : w.ownsRow base 3 1 (.slice r.a r.n r.c) r.n (ints .i64 r.zs))
    (hw : ∀ z ∈ r.zs, (Lit.int .i64 z).wf = true) (hfx : ∀ s ∈ xs, Far s.a r.a) (hfy : ∀ s ∈ ys, Far r.a s.a) (hf0 : Far (some ⟨g0, 0, none⟩) r.a) :
    OwnLs (w.setCell ⟨g0, xs.length, none⟩ (.slice r.a r.n r.c)) base (some ⟨g0, 0, none⟩) n cap (xs ++ r :: ys) := by
  have ot : OnlyAt (some ⟨g0, 0, none⟩) w (w.setCell ⟨g0, xs.length, none⟩ (.slice r.a r.n r.c)) := (OnlyAt.refl _ w).setCell (fun x hx => by cases hx; rfl) (by simp) _
  have hmem : ∀ s, s ∈ xs ++ r :: ys → s = r ∨ s ∈ xs ++ q :: ys := fun s hs => by
    simp only [List.mem_append, List.mem_cons] at hs ⊢
    rcases hs with h | h | h
    · exact .inr (.inl h)
    · exact .inl h
    · exact .inr (.inr (.inr h))
  refine ⟨?_, fun s hs => ?_, fun s hs => ?_, ?_, fun s hs => ?_⟩
  · have := (h.outer.stored xs.length (.slice r.a r.n r.c)).1
    rwa [set_lcells] at this
  · rcases hmem s hs with rfl | hs'
    · exact own_touch hr ot (fun x y hx hy => hf0.symm x y hx hy)
    · exact own_touch (h.inner s hs') ot (fun x y hx hy => (h.apart0 s hs').symm x y hx hy)
  · rcases hmem s hs with rfl | hs'
    · exact hw
    · exact h.wf s hs'
  · have hp := h.apart
    rw [List.pairwise_append] at hp ⊢
    obtain ⟨p1, p2, p3⟩ := hp
    rw [List.pairwise_cons] at p2 ⊢
    refine ⟨p1, ⟨hfy, p2.2⟩, fun s hs t ht => ?_⟩
    rcases List.mem_cons.1 ht with rfl | ht
    · exact hfx s hs
    · exact p3 s hs t (List.mem_cons_of_mem _ ht)
  · rcases hmem s hs with rfl | hs'
    · exact hf0
    · exact h.apart0 s hs'

theorem made_ls (n : Nat) : (madeCells #[Value.slice none 0 0] n).toList = lcells (List.replicate n ld) := by
  apply List.ext_getElem?
  intro j
  by_cases hj : j < n
  · rw [lcells_get _ _ (by simpa using hj)]
    simp [madeCells, List.getD, hj, ld, Nat.mod_one]
  · rw [List.getElem?_eq_none (by simp [madeCells]; omega), List.getElem?_eq_none (by rw [lcells_length]; simp; omega)]

theorem own_made {w : World} {base : Nat} {g n : Nat} (h : w.ownsRow base 24 1 (.slice (some ⟨g, 0, none⟩) n n) n (madeCells #[Value.slice none 0 0] n).toList) : OwnLs w base (some ⟨g, 0, none⟩) n n (List.replicate n ld) := by
  have hm : ∀ r, r ∈ List.replicate n ld → r = ld := fun r hr => (List.mem_replicate.1 hr).2
  refine ⟨by rw [← made_ls]; exact h, fun r hr => ?_, fun r hr => ?_, ?_, fun r hr => ?_⟩
  · rw [hm r hr]; exact World.ownsRow_nil _ _ _ _
  · rw [hm r hr]; simp [ld]
  · exact List.pairwise_replicate.2 (.inr (fun x y hx _ => by cases hx))
  · rw [hm r hr]; exact fun x y _ hy => by cases hy

theorem eq_take_ld (xs ys : List LV) (k : Nat) (hx : k < xs.length) (hy : k < ys.length) (h : lplain (xs.take k) = lplain (ys.take k)) (e : (xs.getD k ld).zs = (ys.getD k ld).zs) : lplain (xs.take (k + 1)) = lplain (ys.take (k + 1)) := by
  rw [take_succ_ld hx, take_succ_ld hy]
  simp only [lplain, List.map_append, List.map_cons, List.map_nil] at *
  rw [h, e]

def eqL (x y : List Int) : Bool := decide (x = y)

def lmarks (k : Int) : List LV → List LV
  | [] => []
  | r :: rs => ⟨r.a, r.n, r.c, marks k r.n⟩ :: lmarks (k + (r.n : Int)) rs
def lnext (k : Int) (rs : List LV) : Int := k + sumL rs
theorem lmarks_length (k : Int) (rs : List LV) : (lmarks k rs).length = rs.length := by
  induction rs generalizing k with
  | nil => rfl
  | cons r rs ih => simp [lmarks, ih]
theorem lnext_cons (k : Int) (r : LV) (rs : List LV) : lnext (k + (r.n : Int)) rs = lnext k (r :: rs) := by
  simp only [lnext, sumL, List.map_cons, List.sum_cons]
  omega
theorem lmarks_append (k : Int) (xs ys : List LV) : lmarks k (xs ++ ys) = lmarks k xs ++ lmarks (lnext k xs) ys := by
  induction xs generalizing k with
  | nil => simp [lmarks, lnext, sumL]
  | cons r rs ih => simp only [List.cons_append, lmarks, ih, lnext_cons]
theorem lnext_append (k : Int) (xs ys : List LV) : lnext k (xs ++ ys) = lnext (lnext k xs) ys := by
  simp only [lnext, sumL_append]
  omega
theorem lmarks_mem {k : Int} {rs : List LV} {r : LV} (h : r ∈ lmarks k rs) : ∃ s ∈ rs, s.a = r.a := by
  induction rs generalizing k with
  | nil => cases h
  | cons q rs ih =>
    rcases List.mem_cons.1 h with rfl | h
    · exact ⟨q, by simp, rfl⟩
    · obtain ⟨s, hs, e⟩ := ih h
      exact ⟨s, by simp [hs], e⟩

/-- Only the inner blocks of a slice of slices were turned. -/
structure OnlyIn (rs : List LV) (w w' : World) : Prop where
  os : w'.os = w.os
  tape : w'.tape = w.tape
  output : w'.output = w.output
  size : w.heap.size ≤ w'.heap.size
  block : ∀ k, k < w.heap.size → (∀ r ∈ rs, ∀ x, r.a = some x → k ≠ x.block) → w'.heap[k]? = w.heap[k]?
theorem OnlyIn.refl (rs : List LV) (w : World) : OnlyIn rs w w := ⟨rfl, rfl, rfl, Nat.le_refl _, fun _ _ _ => rfl⟩
theorem OnlyIn.at_inner {rs : List LV} {w w1 w2 : World} {r : LV} (h : OnlyIn rs w w1) (t : OnlyAt r.a w1 w2) (hr : r ∈ rs) : OnlyIn rs w w2 :=
  ⟨t.os.trans h.os, t.tape.trans h.tape, t.output.trans h.output, Nat.le_trans h.size t.size, fun k hk h2 => (t.block k (Nat.lt_of_lt_of_le hk h.size) (h2 r hr)).trans (h.block k hk h2)⟩

theorem swap_mem {α : Type} {xs ys : List α} {q r s : α} (h : s ∈ xs ++ r :: ys) : s = r ∨ s ∈ xs ++ q :: ys := by
  simp only [List.mem_append, List.mem_cons] at h ⊢
  rcases h with h | h | h
  · exact .inr (.inl h)
  · exact .inl h
  · exact .inr (.inr (.inr h))
theorem swap_pair {R : LV → LV → Prop} {xs ys : List LV} {q r : LV} (h : (xs ++ q :: ys).Pairwise R) (h1 : ∀ s, R s q → R s r) (h2 : ∀ s, R q s → R r s) : (xs ++ r :: ys).Pairwise R := by
  rw [List.pairwise_append] at h ⊢
  obtain ⟨p1, p2, p3⟩ := h
  rw [List.pairwise_cons] at p2 ⊢
  refine ⟨p1, ⟨fun s hs => h2 s (p2.1 s hs), p2.2⟩, fun s hs t ht => ?_⟩
  rcases List.mem_cons.1 ht with rfl | ht
  · exact h1 s (p3 s hs q (List.mem_cons_self ..))
  · exact p3 s hs t (List.mem_cons_of_mem _ ht)
theorem lcells_zs (xs ys : List LV) (q : LV) (zs : List Int) : lcells (xs ++ ⟨q.a, q.n, q.c, zs⟩ :: ys) = lcells (xs ++ q :: ys) := by simp [lcells, lcell]

theorem OwnLs.setInts {w w' : World} {base : Nat} {a : Option Addr} {n cap : Nat} {xs ys : List LV} {q : LV} {zs : List Int} (h : OwnLs w base a n cap (xs ++ q :: ys)) (ot : OnlyAt q.a w w')
    (ho : w'.ownsRow base 3 1 (.slice q.a q.n q.c) q.n (ints .i64 zs)) (hv : ∀ z ∈ zs, (Lit.int .i64 z).wf = true) : OwnLs w' base a n cap (xs ++ ⟨q.a, q.n, q.c, zs⟩ :: ys) := by
  have hq : q ∈ xs ++ q :: ys := by simp
  have hp := h.apart
  rw [List.pairwise_append] at hp
  obtain ⟨p1, p2, p3⟩ := hp
  rw [List.pairwise_cons] at p2
  refine ⟨?_, fun s hs => ?_, fun s hs => ?_, swap_pair h.apart (fun s hs => hs) (fun s hs => hs), fun s hs => ?_⟩
  · rw [lcells_zs]
    exact own_touch h.outer ot (fun x y hx hy => h.apart0 q hq x y hx hy)
  · simp only [List.mem_append, List.mem_cons] at hs
    rcases hs with hs | rfl | hs
    · exact own_touch (h.inner s (List.mem_append_left _ hs)) ot (fun x y hx hy => p3 s hs q (List.mem_cons_self ..) x y hx hy)
    · exact ho
    · exact own_touch (h.inner s (List.mem_append_right _ (List.mem_cons_of_mem _ hs))) ot (fun x y hx hy => (p2.1 s hs).symm x y hx hy)
  · rcases swap_mem (q := q) hs with rfl | hs'
    · exact hv
    · exact h.wf s hs'
  · rcases swap_mem (q := q) hs with rfl | hs'
    · exact h.apart0 q hq
    · exact h.apart0 s hs'

theorem lmarks_at {k0 : Int} {rs : List LV} {k : Nat} (h : k < rs.length) : (lmarks k0 rs).getD k ld = ⟨(rs.getD k ld).a, (rs.getD k ld).n, (rs.getD k ld).c, marks (lnext k0 (rs.take k)) (rs.getD k ld).n⟩ := by
  have e : rs = rs.take k ++ rs.getD k ld :: rs.drop (k + 1) := by rw [← drop_succ_ld h, List.take_append_drop]
  have hl : (lmarks k0 (rs.take k)).length = k := by rw [lmarks_length, List.length_take]; omega
  conv => lhs; rw [e]
  rw [lmarks_append]
  simp [lmarks, List.getD, hl]

theorem szIntS (a : Option Addr) (n cap : Nat) (m : Int) (w : World) (hn : n ≤ maxLen) (h0 : 0 ≤ m) (h1 : m ≤ 1048576) :
    Calls Try.prog 105 #[.slice a n cap, .int .i64 m] w fun e w' => e = .returned (.int .i64 (left m n)) ∧ w' = w := by
  unfold maxLen at hn
  by_cases h : m < (n : Int)
  · have e : left m n = -1 := by unfold left; simp [h]
    rw [e]
    have hz : m - (n : Int) < 0 := by omega
    go_enter Try.func105, Try.ntmps105
    go_wp2
    go_ret
    exact ⟨rfl, rfl⟩
  · have e : left m n = m - n := by unfold left; simp [h]
    rw [e]
    have hz : ¬ m - (n : Int) < 0 := by omega
    go_enter Try.func105, Try.ntmps105
    go_wp2
    go_ret
    exact ⟨rfl, rfl⟩

set_option maxHeartbeats 800000 in
theorem szIntSS (a : Option Addr) (n cap : Nat) (rs : List LV) (m : Int) (w : World) (h : IsLs w a n cap rs) (h0 : 0 ≤ m) (h1 : m ≤ 1048576) :
    Calls Try.prog 52 #[.slice a n cap, .int .i64 m] w fun e w' => e = .returned (.int .i64 (left m (totalL rs))) ∧ w' = w := by
  have hmax := h.max
  have hfit := h.fits
  unfold maxLen at hmax
  have HL : Hid (rs.length = n) := h.len
  have HR : Hid (∀ r ∈ rs, r.n ≤ maxLen) := fun r hr => Nat.le_trans (h.rows r hr).fits (h.rows r hr).max
  have HCs : Hid (0 < n → ∃ b off, a = some ⟨b, off, none⟩ ∧ b < w.heap.size ∧ ∀ i, i < n → w.cell? ⟨b, off + i, none⟩ = some (.slice (rs.getD i ld).a (rs.getD i ld).n (rs.getD i ld).c)) := h.cells
  have hnn := sumL_nonneg rs
  have HT : Hid (totalL rs = (n : Int) + sumL rs) := by show _ = _; unfold totalL; rw [h.len]
  clear h
  by_cases hb : m < (n : Int)
  · have HE : Hid (left m (totalL rs) = -1) := by show _ = _; rw [HT.out]; unfold left; rw [if_pos (by omega)]
    have hz : m - (n : Int) < 0 := by omega
    clear hnn
    go_enter Try.func52, Try.ntmps52
    go_wp2
    go_ret
    exact ⟨Ints.ret_int HE.out.symm, rfl⟩
  · have hz : ¬ m - (n : Int) < 0 := by omega
    have hn : n ≤ 1048576 := by omega
    have HNN : Hid _ := hnn
    clear hnn
    go_enter Try.func52, Try.ntmps52
    go_wp2
    go_loopw [1, 5] (fun l i wr => ∃ k : Nat, k ≤ n ∧ i = .int .i64 k ∧ l = .int .i64 (m - (n : Int) - sumL (rs.take k)) ∧ 0 ≤ m - (n : Int) - sumL (rs.take k) ∧ wr = w) (fun _ i _ => n - (intOf i).toNat)
    case atStart => exact ⟨0, Nat.zero_le _, rfl, by simp [sumL], by simp [sumL]; omega, rfl⟩
    case round =>
      obtain ⟨k, hk, rfl, rfl, hpos, rfl⟩ := hrel
      have hsk := sumL_nonneg (rs.take k)
      by_cases hlt : k < n
      · obtain ⟨b, off, rfl, hbl, hc⟩ := HCs.out (by omega)
        have hkl : k < rs.length := by rw [HL.out]; exact hlt
        have p1 := hc k hlt
        have hs : sumL (rs.take (k + 1)) = sumL (rs.take k) + ((rs.getD k ld).n : Int) := by rw [take_succ_ld hkl, sumL_append]; simp [sumL]
        have hle := sumL_le rs (k + 1)
        have hrn := HR.out _ (getD_mem_ld hkl)
        generalize rs.getD k ld = r at p1 hs hrn
        obtain ⟨ra, rn, rc, rzs⟩ := r
        simp only at p1 hs hrn
        generalize hS : sumL (rs.take k) = S at hpos hs hsk
        have HS : Hid (sumL (rs.take k) = S) := hS
        have HS1 : Hid (sumL (rs.take (k + 1)) = S + (rn : Int)) := hs
        have HLE : Hid (sumL (rs.take (k + 1)) ≤ sumL rs) := hle
        have HRN : Hid (rn ≤ maxLen) := hrn
        clear hc hs hle hS hrn
        by_cases hneg : m - (n : Int) - S < (rn : Int)
        · have HE : Hid (left (m - (n : Int) - S) rn = -1) := by show _ = _; unfold left; simp [hneg]
          have HF : Hid (left m (totalL rs) = -1) := by show _ = _; rw [HT.out]; unfold left; rw [if_pos (by have := HS1.out; have := HLE.out; omega)]
          go_wp2_with fail
          refine (szIntS _ _ _ _ _ HRN.out (by omega) (by omega)).mono ?_
          rintro e w1 ⟨rfl, rfl⟩
          rw [HE.out]
          go_wp2
          go_ret
          exact ⟨Ints.ret_int HF.out.symm, rfl⟩
        · have HE : Hid (left (m - (n : Int) - S) rn = m - (n : Int) - S - (rn : Int)) := by show _ = _; unfold left; simp [hneg]
          have hz2 : ¬ m - (n : Int) - S - (rn : Int) < 0 := by omega
          go_wp2_with fail
          refine (szIntS _ _ _ _ _ HRN.out (by omega) (by omega)).mono ?_
          rintro e w1 ⟨rfl, rfl⟩
          rw [HE.out]
          go_wp2
          go_roundw
          case rel => exact ⟨k + 1, by omega, by go_num, by rw [HS1.out]; congr 1; omega, by rw [HS1.out]; omega, by first | trivial | rfl⟩
          case measure => simp [intOf]; omega
      · obtain rfl : k = n := by omega
        have HF : Hid (m - (k : Int) - sumL (rs.take k) = left m (totalL rs)) := by
          show _ = _
          rw [List.take_of_length_le (by rw [HL.out]; omega)] at hpos ⊢
          rw [HT.out]
          unfold left
          rw [if_neg (by omega)]
          omega
        clear hpos hsk
        go_wp2
        go_ret
        exact ⟨Ints.ret_int HF.out, rfl⟩

set_option maxHeartbeats 800000 in
theorem toIntSS (a : Option Addr) (n cap : Nat) (rs : List LV) (w : World) (h : IsLs w a n cap rs) (hn : n ≤ 1048576) (hr : ∀ r ∈ rs, r.n ≤ 1048576) :
    Calls Try.prog 54 #[.slice a n cap] w fun e w' => ∃ rs', e = .returned (.slice (some ⟨w.heap.size, 0, none⟩) n n) ∧ OwnLs w' w.heap.size (some ⟨w.heap.size, 0, none⟩) n n rs' ∧ lplain rs' = lplain rs ∧ Below w.heap.size w w' := by
  obtain ⟨i0, hi, hz0, hz1, hz2⟩ := info_parts infoL
  have HI : Hid (IsLs w a n cap rs) := h
  have HRN : Hid (∀ r ∈ rs, r.n ≤ 1048576) := hr
  have HL : Hid (rs.length = n) := h.len
  clear h hr
  go_enter Try.func54, Try.ntmps54
  go_wp2_with (at_make; refine wpList_make_full _ rfl _ _ 23 rfl w.heap.size 24 i0 (.slice none 0 0) 1 Try.underlying23 hi hz0 hz1 _ _ _ _ n rfl rfl rfl rfl ?b2 ?b3 (Nat.le_refl _) ?_)
  case b2 => rw [hz2]; omega
  case b3 => unfold maxLen; omega
  intro w0 hown0 hgrow0
  go_wp2_with fail
  go_loopw [4] (fun i wr => ∃ (k : Nat) (xs : List LV), k ≤ n ∧ i = .int .i64 k ∧ xs.length = k ∧ lplain xs = lplain (rs.take k) ∧ OwnLs wr w.heap.size (some ⟨w.heap.size, 0, none⟩) n n (xs ++ List.replicate (n - k) ld) ∧ Below w.heap.size w wr)
    (fun i _ => n - (intOf i).toNat)
  case atStart => exact ⟨0, [], Nat.zero_le _, rfl, rfl, rfl, own_made (by simpa using hown0), (Below.refl _ _).grown hgrow0 (Nat.le_refl _) (fun k h => by cases h)⟩
  case round =>
    obtain ⟨k, xs, hk, rfl, hxl, hpl, hown, hnx⟩ := hrel
    have HN : Hid (Below w.heap.size w wr) := hnx
    have HX : Hid (xs.length = k) := hxl
    have HP : Hid (lplain xs = lplain (rs.take k)) := hpl
    clear hnx hxl hpl
    by_cases hlt : k < n
    · obtain ⟨b, off, rfl, hbl, hc⟩ := HI.out.cells (by omega)
      have hkl : k < rs.length := by rw [HL.out]; exact hlt
      have p1 : wr.cell? ⟨b, off + k, none⟩ = some (.slice (rs.getD k ld).a (rs.getD k ld).n (rs.getD k ld).c) := by rw [HN.out.cell (p := ⟨b, off + k, none⟩) hbl]; exact hc k hlt
      have hrow := HI.out.rows _ (getD_mem_ld hkl)
      have hrn := HRN.out _ (getD_mem_ld hkl)
      have hts := take_succ_ld hkl
      generalize rs.getD k ld = r at p1 hrow hrn hts
      obtain ⟨ra, rn, rc, rzs⟩ := r
      simp only at p1 hrow hrn
      have HROW : Hid (IsRow .i64 w ra rn rc rzs) := hrow
      have HTS : Hid (rs.take (k + 1) = rs.take k ++ [⟨ra, rn, rc, rzs⟩]) := hts
      have hsplit : xs ++ List.replicate (n - k) ld = xs ++ ld :: List.replicate (n - (k + 1)) ld := by
        rw [show n - k = (n - (k + 1)) + 1 by omega, List.replicate_succ]
      rw [hsplit] at hown
      have HO : Hid (OwnLs wr w.heap.size (some ⟨w.heap.size, 0, none⟩) n n (xs ++ ld :: List.replicate (n - (k + 1)) ld)) := hown
      clear hc hrow hts hown hsplit hkl
      go_wp2_with fail
      refine (Ints.toIntS _ _ _ _ _ (IsRow.below HROW.out HN.out) hrn).mono ?_
      rintro e w1 ⟨rfl, ho1, hb1⟩
      have own1 := OwnLs.below HO.out hb1
      have hs1 := hb1.size
      have hput := OwnLs.put (r := ⟨some ⟨wr.heap.size, 0, none⟩, rn, rn, rzs⟩) own1 (own_base ho1 HN.out.size) HROW.out.wf
        (fun s hs x y hx hy => by cases hy; have := (OwnLs.lt HO.out s (List.mem_append_left _ hs) x hx).2; show x.block ≠ wr.heap.size; omega)
        (fun s hs x y hx hy => by rw [(List.mem_replicate.1 hs).2] at hy; cases hy)
        (fun x y hx hy => by cases hx; cases hy; have := (own_block HO.out.outer _ rfl).2; show w.heap.size ≠ wr.heap.size; simp at this; omega)
      rw [HX.out] at hput
      have HPUT : Hid (OwnLs (w1.setCell ⟨w.heap.size, k, none⟩ (.slice (some ⟨wr.heap.size, 0, none⟩) rn rn)) w.heap.size (some ⟨w.heap.size, 0, none⟩) n n (xs ++ ⟨some ⟨wr.heap.size, 0, none⟩, rn, rn, rzs⟩ :: List.replicate (n - (k + 1)) ld)) := hput
      have HN1 : Hid (Below w.heap.size w w1) := Frame.next HN.out hb1 HN.out.size
      have f0 := own1.outer.frozenAt k
      have hl2 : (lcells (xs ++ ld :: List.replicate (n - (k + 1)) ld)).length = n := by simpa using own1.outer.1
      obtain ⟨o0, ho0⟩ : ∃ o, w1.cell? ⟨w.heap.size, k, none⟩ = some o := by rw [own1.outer.cellAt _ (by omega)]; exact ⟨_, List.getElem?_eq_getElem (by omega)⟩
      clear own1 hput ho1 hb1 hl2
      go_wp2
      go_roundw
      case rel =>
        refine ⟨k + 1, xs ++ [⟨some ⟨wr.heap.size, 0, none⟩, rn, rn, rzs⟩], by omega, by go_num, by rw [List.length_append, HX.out]; rfl, ?_, ?_, HN1.out.setCell (Nat.le_refl _) _⟩
        · rw [HTS.out]
          have h := HP.out
          simp only [lplain, List.map_append] at *
          rw [h]
          rfl
        · rw [List.append_assoc]
          exact HPUT.out
      case measure => simp [intOf]; omega
    · obtain rfl : k = n := by omega
      rw [Nat.sub_self, List.replicate_zero, List.append_nil] at hown
      have HO : Hid (OwnLs wr w.heap.size (some ⟨w.heap.size, 0, none⟩) k k xs) := hown
      have HPF : Hid (lplain xs = lplain rs) := by
        have := HP.out
        rwa [List.take_of_length_le (by rw [HL.out]; omega)] at this
      clear hown
      go_wp2
      go_ret
      exact ⟨xs, rfl, HO.out, HPF.out, HN.out⟩

set_option maxHeartbeats 1600000 in
theorem eqIntSS (a b : Option Addr) (n m ca cb : Nat) (xs ys : List LV) (w : World) (ha : IsLs w a n ca xs) (hb : IsLs w b m cb ys) (hn : n ≤ 1048576) (hm : m ≤ 1048576) (hx : ∀ r ∈ xs, r.n ≤ 1048576) (hy : ∀ r ∈ ys, r.n ≤ 1048576) :
    Calls Try.prog 55 #[.slice a n ca, .slice b m cb] w fun e w' => e = .returned (.bool (decide (lplain xs = lplain ys))) ∧ Below w.heap.size w w' := by
  have la := ha.len
  have lb := hb.len
  by_cases hl : n = m
  · subst hl
    have HA : Hid (IsLs w a n ca xs) := ha
    have HB : Hid (IsLs w b n cb ys) := hb
    have LA : Hid (xs.length = n) := la
    have LB : Hid (ys.length = n) := lb
    have NX : Hid (∀ r ∈ xs, r.n ≤ 1048576) := hx
    have NY : Hid (∀ r ∈ ys, r.n ≤ 1048576) := hy
    clear la lb ha hb hx hy
    go_enter Try.func55, Try.ntmps55
    go_wp2
    go_loopw [5] (fun i wr => ∃ k : Nat, k ≤ n ∧ i = .int .i64 k ∧ lplain (xs.take k) = lplain (ys.take k) ∧ Below w.heap.size w wr) (fun i _ => n - (intOf i).toNat)
    case atStart => exact ⟨0, Nat.zero_le _, rfl, rfl, Below.refl _ _⟩
    case round =>
      obtain ⟨k, hk, rfl, heq, hnx⟩ := hrel
      have Heq : Hid (lplain (xs.take k) = lplain (ys.take k)) := heq
      have Hn : Hid (Below w.heap.size w wr) := hnx
      clear heq hnx
      by_cases hlt : k < n
      · obtain ⟨b1, o1, rfl, hb1, hc1⟩ := HA.out.cells (by omega)
        obtain ⟨b2, o2, rfl, hb2, hc2⟩ := HB.out.cells (by omega)
        have kx : k < xs.length := by rw [LA.out]; exact hlt
        have ky : k < ys.length := by rw [LB.out]; exact hlt
        have p1 : wr.cell? ⟨b1, o1 + k, none⟩ = some (.slice (xs.getD k ld).a (xs.getD k ld).n (xs.getD k ld).c) := by rw [Hn.out.cell (p := ⟨b1, o1 + k, none⟩) hb1]; exact hc1 k hlt
        have q1 : wr.cell? ⟨b2, o2 + k, none⟩ = some (.slice (ys.getD k ld).a (ys.getD k ld).n (ys.getD k ld).c) := by rw [Hn.out.cell (p := ⟨b2, o2 + k, none⟩) hb2]; exact hc2 k hlt
        have vx := HA.out.rows _ (getD_mem_ld kx)
        have vy := HB.out.rows _ (getD_mem_ld ky)
        have nx := NX.out _ (getD_mem_ld kx)
        have ny := NY.out _ (getD_mem_ld ky)
        have hkI : (k : Int) < (n : Int) := by omega
        have hk0 : (0 : Int) ≤ (k : Int) := by omega
        have HXY : Hid (((xs.getD k ld).zs = (ys.getD k ld).zs → lplain (xs.take (k + 1)) = lplain (ys.take (k + 1))) ∧ ((xs.getD k ld).zs ≠ (ys.getD k ld).zs → lplain xs ≠ lplain ys)) :=
          ⟨fun e => eq_take_ld xs ys k kx ky Heq.out e, fun e h => e (by rw [← lplain_get xs k kx, ← lplain_get ys k ky, h])⟩
        generalize xs.getD k ld = x at p1 vx nx HXY
        generalize ys.getD k ld = y at q1 vy ny HXY
        obtain ⟨xa, xn, xc, xv⟩ := x
        obtain ⟨ya, yn, yc, yv⟩ := y
        simp only at p1 q1 vx vy nx ny
        have VX : Hid (IsRow .i64 w xa xn xc xv) := vx
        have VY : Hid (IsRow .i64 w ya yn yc yv) := vy
        have HF : Hid ((xv = yv → lplain (xs.take (k + 1)) = lplain (ys.take (k + 1))) ∧ (xv ≠ yv → lplain xs ≠ lplain ys)) := HXY.out
        clear hc1 hc2 vx vy HXY kx ky
        cases hE : decide (xv = yv)
        · have HE : Hid (decide (xv = yv) = false) := hE
          have F : Hid (decide (lplain xs = lplain ys) = false) := decide_eq_false (HF.out.2 (of_decide_eq_false hE))
          clear hE HF
          go_wp2_with fail
          go_region_held3 (fun w' => Below wr.heap.size wr w' ∧ w'.cell? ⟨b1, o1 + k, none⟩ = some (.slice xa xn xc) ∧ w'.cell? ⟨b2, o2 + k, none⟩ = some (.slice ya yn yc))
            (first | exact ⟨(Below.refl _ _).drew, p1, q1⟩ | exact (fun kb => ⟨kb, Frame.held_cell kb p1, Frame.held_cell kb q1⟩) (Frame.held_next ‹Below wr.heap.size wr _ ∧ _› hb))
            (first | (go_at_call 56; refine (Ints.eqIntS _ _ _ _ _ _ xv yv _ ?_ ?_ nx ny).mono ?_; exact IsRow.below VX.out (Frame.next Hn.out (And.left ‹Below wr.heap.size wr _ ∧ _›) Hn.out.size); exact IsRow.below VY.out (Frame.next Hn.out (And.left ‹Below wr.heap.size wr _ ∧ _›) Hn.out.size); rintro e w1 ⟨rfl, hb⟩; rw [HE.out]))
          have Hn1 : Hid (Below w.heap.size w w1) := Frame.next Hn.out (And.left ‹Below wr.heap.size wr _ ∧ _›) Hn.out.size
          clear p1 q1 hb
          go_wp2
          go_ret
          exact ⟨Ints.ret_bool F.out.symm, Hn1.out⟩
        · have HE : Hid (decide (xv = yv) = true) := hE
          have F : Hid (lplain (xs.take (k + 1)) = lplain (ys.take (k + 1))) := HF.out.1 (of_decide_eq_true hE)
          clear hE HF
          go_wp2_with fail
          go_region_held3 (fun w' => Below wr.heap.size wr w' ∧ w'.cell? ⟨b1, o1 + k, none⟩ = some (.slice xa xn xc) ∧ w'.cell? ⟨b2, o2 + k, none⟩ = some (.slice ya yn yc))
            (first | exact ⟨(Below.refl _ _).drew, p1, q1⟩ | exact (fun kb => ⟨kb, Frame.held_cell kb p1, Frame.held_cell kb q1⟩) (Frame.held_next ‹Below wr.heap.size wr _ ∧ _› hb))
            (first | (go_at_call 56; refine (Ints.eqIntS _ _ _ _ _ _ xv yv _ ?_ ?_ nx ny).mono ?_; exact IsRow.below VX.out (Frame.next Hn.out (And.left ‹Below wr.heap.size wr _ ∧ _›) Hn.out.size); exact IsRow.below VY.out (Frame.next Hn.out (And.left ‹Below wr.heap.size wr _ ∧ _›) Hn.out.size); rintro e w1 ⟨rfl, hb⟩; rw [HE.out]))
          have Hn1 : Hid (Below w.heap.size w w1) := Frame.next Hn.out (And.left ‹Below wr.heap.size wr _ ∧ _›) Hn.out.size
          clear p1 q1 hb
          go_wp2
          go_roundw
          case rel => exact ⟨k + 1, by omega, by go_num, F.out, Hn1.out⟩
          case measure => simp [intOf]; omega
      · have F : Hid (decide (lplain xs = lplain ys) = true) := decide_eq_true (by
          have h := Heq.out
          rwa [List.take_of_length_le (by rw [LA.out]; omega), List.take_of_length_le (by rw [LB.out]; omega)] at h)
        go_wp2
        go_ret
        exact ⟨Ints.ret_bool F.out.symm, Hn.out⟩
  · have e : decide (lplain xs = lplain ys) = false := decide_eq_false (fun h => hl (by rw [← la, ← lb]; have := congrArg List.length h; simpa [lplain] using this))
    rw [e]
    have hne : ((n : Int) != (m : Int)) = true := by rw [bne_iff_ne]; omega
    clear e ha hb la lb hl
    go_enter Try.func55, Try.ntmps55
    go_wp2
    go_ret
    exact ⟨rfl, Below.refl _ _⟩

set_option maxHeartbeats 1600000 in
theorem markIntSS (a : Option Addr) (n cap : Nat) (rs : List LV) (k0 : Int) (base : Nat) (w : World) (h : OwnLs w base a n cap rs) (hn : n ≤ 1048576) (hr : ∀ r ∈ rs, r.n ≤ 1048576) (hk0 : 0 ≤ k0) (hk1 : k0 + totalL rs ≤ 100000000) :
    Calls Try.prog 57 #[.slice a n cap, .int .i64 k0] w fun e w' => e = .returned (.int .i64 (lnext k0 rs)) ∧ OwnLs w' base a n cap (lmarks k0 rs) ∧ OnlyIn rs w w' := by
  have HL : Hid (rs.length = n) := h.len
  have HRN : Hid (∀ r ∈ rs, r.n ≤ 1048576) := hr
  have HO : Hid (OwnLs w base a n cap rs) := h
  have hk2 : k0 + (n : Int) + sumL rs ≤ 100000000 := by unfold totalL at hk1; rw [h.len] at hk1; omega
  have HT : Hid (∀ k, 0 ≤ sumL (rs.take k) ∧ sumL (rs.take k) ≤ sumL rs) := fun k => ⟨sumL_nonneg _, sumL_le rs k⟩
  clear h hr hk1
  go_enter Try.func57, Try.ntmps57
  go_wp2
  go_loopw [1, 5] (fun m i wr => ∃ k : Nat, k ≤ n ∧ i = .int .i64 k ∧ m = .int .i64 (lnext k0 (rs.take k)) ∧ OwnLs wr base a n cap (lmarks k0 (rs.take k) ++ rs.drop k) ∧ OnlyIn rs w wr) (fun _ i _ => n - (intOf i).toNat)
  case atStart => exact ⟨0, Nat.zero_le _, rfl, by simp [lnext, sumL], HO.out, OnlyIn.refl _ _⟩
  case round =>
    obtain ⟨k, hk, rfl, rfl, hown, ht⟩ := hrel
    by_cases hlt : k < n
    · have hkl : k < rs.length := by rw [HL.out]; exact hlt
      obtain ⟨g, rfl⟩ : ∃ g, a = some ⟨g, 0, none⟩ := by
        rcases hown.outer.2 with ⟨h2, _⟩ | ⟨g, cap', cur, hv, _⟩
        · simp at h2; omega
        · simp only [Value.slice.injEq] at hv
          exact ⟨g, hv.1⟩
      have hml : (lmarks k0 (rs.take k)).length = k := by rw [lmarks_length, List.length_take]; omega
      rw [drop_succ_ld hkl] at hown
      have hrn := HRN.out _ (getD_mem_ld hkl)
      have hmem := getD_mem_ld hkl
      have hts := take_succ_ld hkl
      have hb := HT.out k
      have hK : lnext k0 (rs.take k) = k0 + sumL (rs.take k) := rfl
      generalize rs.getD k ld = r at hown hrn hmem hts
      obtain ⟨ra, rn, rc, rzs⟩ := r
      simp only at hrn
      have hcell : wr.cell? ⟨g, k, none⟩ = some (.slice ra rn rc) := by
        have h1 := hown.outer.cellAt k (by omega)
        rw [lcells_get _ k (by simp [hml])] at h1
        have e : (lmarks k0 (rs.take k) ++ ⟨ra, rn, rc, rzs⟩ :: rs.drop (k + 1)).getD k ld = ⟨ra, rn, rc, rzs⟩ := by simp [List.getD, hml]
        rw [e] at h1
        exact h1
      generalize hKK : lnext k0 (rs.take k) = K at hK ⊢
      have HOW : Hid (OwnLs wr base (some ⟨g, 0, none⟩) n cap (lmarks k0 (rs.take k) ++ ⟨ra, rn, rc, rzs⟩ :: rs.drop (k + 1))) := hown
      have HTR : Hid (OnlyIn rs w wr) := ht
      have HKK : Hid (lnext k0 (rs.take k) = K) := hKK
      have HTS : Hid (rs.take (k + 1) = rs.take k ++ [⟨ra, rn, rc, rzs⟩]) := hts
      have HMEM : Hid ((⟨ra, rn, rc, rzs⟩ : LV) ∈ rs) := hmem
      have hKb : 0 ≤ K ∧ K ≤ 100000000 := by omega
      obtain ⟨hKb0, hKb1⟩ := hKb
      have HIN : Hid (wr.ownsRow base 3 1 (.slice ra rn rc) rn (ints .i64 rzs)) := hown.inner ⟨ra, rn, rc, rzs⟩ (by simp)
      clear ht hown hK hKK hts hkl hml hb hmem
      go_wp2_with fail
      refine (Ints.markIntS ra rn rc rzs _ base _ HIN.out hrn (by omega) (by omega)).mono ?_
      rintro e w1 ⟨rfl, ho1, ht1⟩
      have HSV : Hid (OwnLs w1 base (some ⟨g, 0, none⟩) n cap (lmarks k0 (rs.take k) ++ ⟨ra, rn, rc, marks K rn⟩ :: rs.drop (k + 1))) := OwnLs.setInts (q := ⟨ra, rn, rc, rzs⟩) HOW.out ht1 ho1 (marks_wf _ _ (by omega) (by omega))
      have HT2 : Hid (OnlyIn rs w w1) := HTR.out.at_inner (r := ⟨ra, rn, rc, rzs⟩) ht1 HMEM.out
      have HNX : Hid (lnext k0 (rs.take (k + 1)) = K + (rn : Int)) := by
        show _ = _
        rw [HTS.out, lnext_append, HKK.out]
        simp [lnext, sumL]
      have HMK : Hid (lmarks k0 (rs.take (k + 1)) ++ rs.drop (k + 1) = lmarks k0 (rs.take k) ++ ⟨ra, rn, rc, marks K rn⟩ :: rs.drop (k + 1)) := by
        show _ = _
        rw [HTS.out, lmarks_append, HKK.out]
        simp [lmarks]
      clear ho1 ht1
      go_wp2
      go_roundw
      case rel => exact ⟨k + 1, by omega, by go_num, by rw [HNX.out], by rw [HMK.out]; exact HSV.out, HT2.out⟩
      case measure => simp [intOf]; omega
    · obtain rfl : k = n := by omega
      rw [List.take_of_length_le (by rw [HL.out]; omega), List.drop_of_length_le (by rw [HL.out]; omega), List.append_nil] at hown
      have HO2 : Hid (OwnLs wr base a k cap (lmarks k0 rs)) := hown
      have HTR : Hid (OnlyIn rs w wr) := ht
      have HE : Hid (lnext k0 (rs.take k) = lnext k0 rs) := by show _ = _; rw [List.take_of_length_le (by rw [HL.out]; omega)]
      clear hown ht
      go_wp2
      go_ret
      exact ⟨Ints.ret_int HE.out, HO2.out, HTR.out⟩

set_option maxHeartbeats 1600000 in
theorem heldIntSS (a : Option Addr) (n cap : Nat) (rs : List LV) (k0 : Int) (w : World) (h : IsLs w a n cap (lmarks k0 rs)) (hn : n ≤ 1048576) (hr : ∀ r ∈ rs, r.n ≤ 1048576) (hk0 : 0 ≤ k0) (hk1 : k0 + totalL rs ≤ 100000000) :
    Calls Try.prog 60 #[.slice a n cap, .int .i64 k0] w fun e w' => e = .returned (.int .i64 (lnext k0 rs)) ∧ w' = w := by
  have hlen : rs.length = n := by have := h.len; rwa [lmarks_length] at this
  have HL : Hid (rs.length = n) := hlen
  have HRN : Hid (∀ r ∈ rs, r.n ≤ 1048576) := hr
  have HI : Hid (IsLs w a n cap (lmarks k0 rs)) := h
  have hk2 : k0 + (n : Int) + sumL rs ≤ 100000000 := by unfold totalL at hk1; rw [hlen] at hk1; omega
  have HT : Hid (∀ k, 0 ≤ sumL (rs.take k) ∧ sumL (rs.take k) ≤ sumL rs) := fun k => ⟨sumL_nonneg _, sumL_le rs k⟩
  clear h hr hk1 hlen
  go_enter Try.func60, Try.ntmps60
  go_wp2
  go_loopw [1, 5] (fun m i wr => ∃ k : Nat, k ≤ n ∧ i = .int .i64 k ∧ m = .int .i64 (lnext k0 (rs.take k)) ∧ wr = w) (fun _ i _ => n - (intOf i).toNat)
  case atStart => exact ⟨0, Nat.zero_le _, rfl, by simp [lnext, sumL], rfl⟩
  case round =>
    obtain ⟨k, hk, rfl, rfl, rfl⟩ := hrel
    by_cases hlt : k < n
    · have hkl : k < rs.length := by rw [HL.out]; exact hlt
      obtain ⟨b, off, rfl, hbl, hc⟩ := HI.out.cells (by omega)
      have p1 := hc k hlt
      have hrow := HI.out.rows _ (getD_mem_ld (rs := lmarks k0 rs) (i := k) (by rw [lmarks_length]; exact hkl))
      rw [lmarks_at hkl] at p1 hrow
      have hrn := HRN.out _ (getD_mem_ld hkl)
      have hts := take_succ_ld hkl
      have hb := HT.out k
      have hK : lnext k0 (rs.take k) = k0 + sumL (rs.take k) := rfl
      generalize rs.getD k ld = r at p1 hrow hrn hts
      obtain ⟨ra, rn, rc, rzs⟩ := r
      simp only at p1 hrow hrn
      generalize hKK : lnext k0 (rs.take k) = K at hK hrow ⊢
      have HROW : Hid (IsRow .i64 wr ra rn rc (marks K rn)) := hrow
      have HNX : Hid (lnext k0 (rs.take (k + 1)) = K + (rn : Int)) := by
        show _ = _
        rw [hts, lnext_append, hKK]
        simp [lnext, sumL]
      have hKb : 0 ≤ K ∧ K ≤ 100000000 := by omega
      obtain ⟨hKb0, hKb1⟩ := hKb
      have hz : ¬ K + (rn : Int) < 0 := by omega
      clear hc hrow hts hb hK hKK hkl
      go_wp2_with fail
      refine (Ints.heldIntS ra rn rc K _ HROW.out hrn (by omega) (by omega)).mono ?_
      rintro e w1 ⟨rfl, rfl⟩
      go_wp2
      go_roundw
      case rel => exact ⟨k + 1, by omega, by go_num, by rw [HNX.out], by first | trivial | rfl⟩
      case measure => simp [intOf]; omega
    · obtain rfl : k = n := by omega
      have HE : Hid (lnext k0 (rs.take k) = lnext k0 rs) := by show _ = _; rw [List.take_of_length_le (by rw [HL.out]; omega)]
      go_wp2
      go_ret
      exact ⟨Ints.ret_int HE.out, rfl⟩


end Go.Proofs.Ytkondmnkmbdncaa.Lls
