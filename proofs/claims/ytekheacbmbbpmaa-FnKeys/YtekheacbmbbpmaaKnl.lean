/-
  Slices of slices of int by their place: the laws' helpers on them.
-/
import Derived.Test.YtekheacbmbbpmaaLls
namespace Go.Proofs.Ytekheacbmbbpmaa.Knl
open Go.RowKit
open Go.Proofs.Ytekheacbmbbpmaa.Frame Go.Proofs.Ytekheacbmbbpmaa.Mem Go.Proofs.Ytekheacbmbbpmaa.Ints Go.Proofs.Ytekheacbmbbpmaa.Kep Go.Proofs.Ytekheacbmbbpmaa.Lls

abbrev Ll := List (List Int)
def ltotal (xs : Ll) : Int := (xs.length : Int) + (xs.map fun x => (x.length : Int)).sum
theorem total_lplain {rs : List LV} (h : ∀ r ∈ rs, r.zs.length = r.n) : totalL rs = ltotal (lplain rs) := by
  unfold totalL ltotal sumL lplain
  rw [List.length_map, List.map_map]
  congr 2
  refine List.map_congr_left (fun r hr => ?_)
  simp [h r hr]
theorem small_ls {rs : List LV} (h : totalL rs ≤ 1048576) : rs.length ≤ 1048576 ∧ ∀ r ∈ rs, r.n ≤ 1048576 :=
  left_ok (m := 1048576) (by unfold left; rw [if_neg (by omega)]; omega) (Int.le_refl _)
theorem OwnLs.vlen {w : World} {base : Nat} {a : Option Addr} {n cap : Nat} {rs : List LV} (h : OwnLs w base a n cap rs) : ∀ r ∈ rs, r.zs.length = r.n := fun r hr => by
  have := (h.inner r hr).1
  rw [ints_length] at this
  omega

def LIs (w : World) (v : Value) (xs : Ll) : Prop := ∃ a n cap rs, v = .slice a n cap ∧ IsLs w a n cap rs ∧ lplain rs = xs ∧ totalL rs ≤ 1048576
def LOwn (w : World) (lo hi : Nat) (v : Value) (xs : Ll) : Prop := ∃ a n cap rs, v = .slice a n cap ∧ OwnLs w lo a n cap rs ∧ lplain rs = xs ∧ totalL rs ≤ 1048576 ∧ (∀ x, a = some x → lo ≤ x.block ∧ x.block < hi) ∧ ∀ r ∈ rs, ∀ x, r.a = some x → lo ≤ x.block ∧ x.block < hi
def LMarked (w : World) (lo hi : Nat) (v : Value) (k nx : Int) : Prop := ∃ a n cap rs, v = .slice a n cap ∧ OwnLs w lo a n cap (lmarks k rs) ∧ totalL rs ≤ 1048576 ∧ nx = lnext k rs ∧ 0 ≤ k ∧ k ≤ 50000000 ∧ (∀ x, a = some x → lo ≤ x.block ∧ x.block < hi) ∧ ∀ r ∈ lmarks k rs, ∀ x, r.a = some x → lo ≤ x.block ∧ x.block < hi

theorem lOwn_of {w : World} {lo : Nat} {a : Option Addr} {n cap : Nat} {rs : List LV} (h : OwnLs w lo a n cap rs) (ht : ltotal (lplain rs) ≤ 1048576) : LOwn w lo w.heap.size (.slice a n cap) (lplain rs) :=
  ⟨a, n, cap, rs, rfl, h, rfl, by rw [total_lplain (OwnLs.vlen h)]; exact ht, own_block h.outer, fun r hr x hx => own_block (h.inner r hr) x hx⟩
theorem lIs_below {w w' : World} {v : Value} {xs : Ll} (h : LIs w v xs) (hb : Below w.heap.size w w') : LIs w' v xs := by
  obtain ⟨a, n, cap, rs, rfl, hr, e, ht⟩ := h
  exact ⟨a, n, cap, rs, rfl, hr.below hb, e, ht⟩
theorem lOwn_is {w : World} {lo hi : Nat} {v : Value} {xs : Ll} (h : LOwn w lo hi v xs) : LIs w v xs := by
  obtain ⟨a, n, cap, rs, rfl, ho, e, ht, _, _⟩ := h
  exact ⟨a, n, cap, rs, rfl, ho.isLs, e, ht⟩
theorem ownLs_keeps {w w' : World} {lo hi lo' hi' : Nat} {a : Option Addr} {n cap : Nat} {rs : List LV} (h : OwnLs w lo a n cap rs) (hb : ∀ x, a = some x → lo ≤ x.block ∧ x.block < hi) (hr : ∀ r ∈ rs, ∀ x, r.a = some x → lo ≤ x.block ∧ x.block < hi) (t : Keeps lo' hi' w w') (hd : hi ≤ lo' ∨ hi' ≤ lo) : OwnLs w' lo a n cap rs :=
  ⟨own_keeps h.outer hb t hd, fun r hr' => own_keeps (h.inner r hr') (hr r hr') t hd, h.wf, h.apart, h.apart0⟩
theorem lOwn_keeps {w w' : World} {lo hi lo' hi' : Nat} {v : Value} {xs : Ll} (h : LOwn w lo hi v xs) (t : Keeps lo' hi' w w') (hd : hi ≤ lo' ∨ hi' ≤ lo) : LOwn w' lo hi v xs := by
  obtain ⟨a, n, cap, rs, rfl, ho, e, ht, hb, hr⟩ := h
  exact ⟨a, n, cap, rs, rfl, ownLs_keeps ho hb hr t hd, e, ht, hb, hr⟩
theorem lMarked_keeps {w w' : World} {lo hi lo' hi' : Nat} {v : Value} {k nx : Int} (h : LMarked w lo hi v k nx) (t : Keeps lo' hi' w w') (hd : hi ≤ lo' ∨ hi' ≤ lo) : LMarked w' lo hi v k nx := by
  obtain ⟨a, n, cap, rs, rfl, ho, ht, e, h0, h1, hb, hr⟩ := h
  exact ⟨a, n, cap, rs, rfl, ownLs_keeps ho hb hr t hd, ht, e, h0, h1, hb, hr⟩
theorem lOwn_below {w w' : World} {lo hi : Nat} {v : Value} {xs : Ll} (h : LOwn w lo hi v xs) (hb : Below w.heap.size w w') : LOwn w' lo hi v xs := lOwn_keeps (lo' := hi) (hi' := hi) h (Keeps.of_below hb) (Or.inl (Nat.le_refl _))
theorem lMarked_below {w w' : World} {lo hi : Nat} {v : Value} {k nx : Int} (h : LMarked w lo hi v k nx) (hb : Below w.heap.size w w') : LMarked w' lo hi v k nx := lMarked_keeps (lo' := hi) (hi' := hi) h (Keeps.of_below hb) (Or.inl (Nat.le_refl _))


end Go.Proofs.Ytekheacbmbbpmaa.Knl
