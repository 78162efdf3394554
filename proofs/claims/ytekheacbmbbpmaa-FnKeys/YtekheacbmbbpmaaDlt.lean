/-
  Slices of sentences: contracts of the laws' helpers on them; marks of one sentence.
-/
import Derived.Test.YtekheacbmbbpmaaDls
namespace Go.Proofs.Ytekheacbmbbpmaa.Dlt
open Go.RowKit
open Go.Proofs.Ytekheacbmbbpmaa.Frame Go.Proofs.Ytekheacbmbbpmaa.Mem Go.Proofs.Ytekheacbmbbpmaa.Ints Go.Proofs.Ytekheacbmbbpmaa.Kep Go.Proofs.Ytekheacbmbbpmaa.Lls Go.Proofs.Ytekheacbmbbpmaa.Knl Go.Proofs.Ytekheacbmbbpmaa.Krl Go.Proofs.Ytekheacbmbbpmaa.Dls

theorem take_two {rs : List LV} {k : Nat} (h : k * 2 + 1 < rs.length) : rs.take ((k + 1) * 2) = rs.take (k * 2) ++ [rs.getD (k * 2) ld, rs.getD (k * 2 + 1) ld] := by
  rw [show (k + 1) * 2 = k * 2 + 1 + 1 by omega, take_succ_ld h, take_succ_ld (by omega), List.append_assoc]
  rfl
theorem drop_two {rs : List LV} {k : Nat} (h : k * 2 + 1 < rs.length) : rs.drop (k * 2) = rs.getD (k * 2) ld :: rs.getD (k * 2 + 1) ld :: rs.drop ((k + 1) * 2) := by
  rw [drop_succ_ld (show k * 2 < rs.length by omega), drop_succ_ld h, show (k + 1) * 2 = k * 2 + 1 + 1 by omega]

theorem eOwn_parts {w : World} {lo hi : Nat} {ua ta : Option Addr} {un uc tn tc : Nat} {d : Dp} (h : EOwn w lo hi (.slice ua un uc) (.slice ta tn tc) d) :
    w.ownsRow lo 3 1 (.slice ua un uc) un (ints .i64 d.1) ∧ w.ownsRow lo 3 1 (.slice ta tn tc) tn (ints .i64 d.2) ∧ (∀ z ∈ d.1, (Lit.int .i64 z).wf = true) ∧ (∀ z ∈ d.2, (Lit.int .i64 z).wf = true) ∧ (∀ x, ua = some x → lo ≤ x.block ∧ x.block < hi) ∧ (∀ x, ta = some x → lo ≤ x.block ∧ x.block < hi) ∧ Far ua ta := by
  obtain ⟨⟨a, n, c, e, h1, h2, _, h3⟩, ⟨a', n', c', e', h1', h2', _, h3'⟩, hf⟩ := h
  cases e
  cases e'
  exact ⟨h1, h1', h2, h2', h3, h3', hf⟩

theorem OwnG.put_two {w : World} {base g0 n cap : Nat} {xs ys : List LV} {q q' r r' : LV} (h : OwnG w base (some ⟨g0, 0, none⟩) n cap (xs ++ q :: q' :: ys)) (hq' : q'.a = none) (hr : w.ownsRow base 3 1 (.slice r.a r.n r.c) r.n (ints .i64 r.zs)) (hr' : w.ownsRow base 3 1 (.slice r'.a r'.n r'.c) r'.n (ints .i64 r'.zs))
    (hw : ∀ z ∈ r.zs, (Lit.int .i64 z).wf = true) (hw' : ∀ z ∈ r'.zs, (Lit.int .i64 z).wf = true) (hrr : Far r.a r'.a) (hfx : ∀ s ∈ xs, Far s.a r.a ∧ Far s.a r'.a) (hfy : ∀ s ∈ ys, s.a = none) (hf0 : Far (some ⟨g0, 0, none⟩) r.a) (hf0' : Far (some ⟨g0, 0, none⟩) r'.a) :
    OwnG ((w.setCell ⟨g0, xs.length, none⟩ (.slice r.a r.n r.c)).setCell ⟨g0, xs.length + 1, none⟩ (.slice r'.a r'.n r'.c)) base (some ⟨g0, 0, none⟩) n cap (xs ++ r :: r' :: ys) := by
  have h1 := OwnG.put (r := r) h hr hw (fun s hs => (hfx s hs).1) (fun s hs x y hx hy => by
    rcases List.mem_cons.1 hs with rfl | hs
    · rw [hq'] at hy; cases hy
    · rw [hfy s hs] at hy; cases hy) hf0
  have ot : OnlyAt (some ⟨g0, 0, none⟩) w (w.setCell ⟨g0, xs.length, none⟩ (.slice r.a r.n r.c)) := (OnlyAt.refl _ w).setCell (fun x hx => by cases hx; rfl) (by simp) _
  have e : xs ++ r :: q' :: ys = (xs ++ [r]) ++ q' :: ys := by simp
  rw [e] at h1
  have h2 := OwnG.put (r := r') h1 (own_touch hr' ot (fun x y hx hy => hf0'.symm x y hx hy)) hw' (fun s hs => by
    rcases List.mem_append.1 hs with hs | hs
    · exact (hfx s hs).2
    · rw [List.mem_singleton.1 hs]; exact hrr) (fun s hs x y hx hy => by rw [hfy s hs] at hy; cases hy) hf0'
  rw [List.length_append] at h2
  have e2 : (xs ++ [r]) ++ r' :: ys = xs ++ r :: r' :: ys := by simp
  rw [e2] at h2
  exact h2

theorem eq_take_dp (xs ys : List Dp) (k : Nat) (hx : k < xs.length) (hy : k < ys.length) (h : xs.take k = ys.take k) (e : xs.getD k Dls.d0 = ys.getD k Dls.d0) : xs.take (k + 1) = ys.take (k + 1) := by
  rw [dp_take_succ hx, dp_take_succ hy, h, e]


end Go.Proofs.Ytekheacbmbbpmaa.Dlt
