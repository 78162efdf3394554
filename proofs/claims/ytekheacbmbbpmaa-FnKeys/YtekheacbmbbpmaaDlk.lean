/-
  Marks of sentences; slices of sentences and one sentence, by their place.
-/
import Derived.Test.YtekheacbmbbpmaaDlt
namespace Go.Proofs.Ytekheacbmbbpmaa.Dlk
open Go.RowKit
open Go.Proofs.Ytekheacbmbbpmaa.Frame Go.Proofs.Ytekheacbmbbpmaa.Mem Go.Proofs.Ytekheacbmbbpmaa.Ints Go.Proofs.Ytekheacbmbbpmaa.Kep Go.Proofs.Ytekheacbmbbpmaa.Lls Go.Proofs.Ytekheacbmbbpmaa.Knl Go.Proofs.Ytekheacbmbbpmaa.Krl Go.Proofs.Ytekheacbmbbpmaa.Dls Go.Proofs.Ytekheacbmbbpmaa.Dlt

/-! Kinds. -/
def DIs (w : World) (v : Value) (ds : List Dp) : Prop := ∃ a n cap rs, v = .slice a n cap ∧ IsG w a n cap rs ∧ dpl rs = ds ∧ (n : Int) + sumL rs ≤ 1048576
def DOwn (w : World) (lo hi : Nat) (v : Value) (ds : List Dp) : Prop := ∃ a n cap rs, v = .slice a n cap ∧ OwnG w lo a n cap rs ∧ dpl rs = ds ∧ (n : Int) + sumL rs ≤ 1048576 ∧ (∀ x, a = some x → lo ≤ x.block ∧ x.block < hi) ∧ ∀ r ∈ rs, ∀ x, r.a = some x → lo ≤ x.block ∧ x.block < hi
def DMarked (w : World) (lo hi : Nat) (v : Value) (k nx : Int) : Prop := ∃ a n cap rs, v = .slice a n cap ∧ OwnG w lo a n cap (lmarks k rs) ∧ (n : Int) + sumL rs ≤ 1048576 ∧ nx = lnext k rs ∧ 0 ≤ k ∧ k ≤ 50000000 ∧ (∀ x, a = some x → lo ≤ x.block ∧ x.block < hi) ∧ ∀ r ∈ lmarks k rs, ∀ x, r.a = some x → lo ≤ x.block ∧ x.block < hi

theorem small_ds {n : Nat} {rs : List LV} (h : (n : Int) + sumL rs ≤ 1048576) : n ≤ 1048576 ∧ ∀ r ∈ rs, r.n ≤ 1048576 := by
  have h0 := sumL_nonneg rs
  exact ⟨by omega, fun r hr => by have := sumL_mem hr; omega⟩
theorem sum_plain {rs : List LV} (h : ∀ r ∈ rs, r.zs.length = r.n) : sumL rs = ((lplain rs).map fun z => (z.length : Int)).sum := by
  unfold sumL lplain
  rw [List.map_map]
  congr 1
  refine List.map_congr_left (fun r hr => ?_)
  simp [h r hr]
theorem dpl_plain : ∀ (xs ys : List LV), lplain xs = lplain ys → dpl xs = dpl ys
  | [], ys, h => by
    cases ys with
    | nil => rfl
    | cons _ _ => simp [lplain] at h
  | [x], ys, h => by
    match ys, h with
    | [], h => simp [lplain] at h
    | [y], _ => rfl
    | _ :: _ :: _, h => simp [lplain] at h
  | x :: x' :: xs, ys, h => by
    match ys, h with
    | [], h => simp [lplain] at h
    | [_], h => simp [lplain] at h
    | y :: y' :: ys, h =>
      simp only [lplain, List.map_cons, List.cons.injEq] at h
      simp only [dpl]
      rw [h.1, h.2.1, dpl_plain xs ys h.2.2]

theorem dIs_below {w w' : World} {v : Value} {ds : List Dp} (h : DIs w v ds) (hb : Below w.heap.size w w') : DIs w' v ds := by
  obtain ⟨a, n, cap, rs, rfl, hr, e, ht⟩ := h
  exact ⟨a, n, cap, rs, rfl, hr.below hb, e, ht⟩
theorem dOwn_is {w : World} {lo hi : Nat} {v : Value} {ds : List Dp} (h : DOwn w lo hi v ds) : DIs w v ds := by
  obtain ⟨a, n, cap, rs, rfl, ho, e, ht, _, _⟩ := h
  exact ⟨a, n, cap, rs, rfl, ho.isG, e, ht⟩
theorem ownG_keeps {w w' : World} {lo hi lo' hi' : Nat} {a : Option Addr} {n cap : Nat} {rs : List LV} (h : OwnG w lo a n cap rs) (hb : ∀ x, a = some x → lo ≤ x.block ∧ x.block < hi) (hr : ∀ r ∈ rs, ∀ x, r.a = some x → lo ≤ x.block ∧ x.block < hi) (t : Keeps lo' hi' w w') (hd : hi ≤ lo' ∨ hi' ≤ lo) : OwnG w' lo a n cap rs :=
  ⟨own_keeps h.outer hb t hd, fun r hr' => own_keeps (h.inner r hr') (hr r hr') t hd, h.wf, h.apart, h.apart0⟩
theorem dOwn_keeps {w w' : World} {lo hi lo' hi' : Nat} {v : Value} {ds : List Dp} (h : DOwn w lo hi v ds) (t : Keeps lo' hi' w w') (hd : hi ≤ lo' ∨ hi' ≤ lo) : DOwn w' lo hi v ds := by
  obtain ⟨a, n, cap, rs, rfl, ho, e, ht, hb, hr⟩ := h
  exact ⟨a, n, cap, rs, rfl, ownG_keeps ho hb hr t hd, e, ht, hb, hr⟩
theorem dMarked_keeps {w w' : World} {lo hi lo' hi' : Nat} {v : Value} {k nx : Int} (h : DMarked w lo hi v k nx) (t : Keeps lo' hi' w w') (hd : hi ≤ lo' ∨ hi' ≤ lo) : DMarked w' lo hi v k nx := by
  obtain ⟨a, n, cap, rs, rfl, ho, ht, e, h0, h1, hb, hr⟩ := h
  exact ⟨a, n, cap, rs, rfl, ownG_keeps ho hb hr t hd, ht, e, h0, h1, hb, hr⟩
theorem dOwn_below {w w' : World} {lo hi : Nat} {v : Value} {ds : List Dp} (h : DOwn w lo hi v ds) (hb : Below w.heap.size w w') : DOwn w' lo hi v ds := dOwn_keeps (lo' := hi) (hi' := hi) h (Keeps.of_below hb) (Or.inl (Nat.le_refl _))
theorem dMarked_below {w w' : World} {lo hi : Nat} {v : Value} {k nx : Int} (h : DMarked w lo hi v k nx) (hb : Below w.heap.size w w') : DMarked w' lo hi v k nx := dMarked_keeps (lo' := hi) (hi' := hi) h (Keeps.of_below hb) (Or.inl (Nat.le_refl _))


end Go.Proofs.Ytekheacbmbbpmaa.Dlk
