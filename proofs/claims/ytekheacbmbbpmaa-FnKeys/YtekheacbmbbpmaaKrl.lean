/-
  Relations in memory, by their place: the laws' helpers on them.
-/
import Derived.Test.YtekheacbmbbpmaaKnl
import Derived.Test.YtekheacbmbbpmaaRel
namespace Go.Proofs.Ytekheacbmbbpmaa.Krl
open Go.RowKit
open Go.Proofs.Ytekheacbmbbpmaa.Frame Go.Proofs.Ytekheacbmbbpmaa.Mem Go.Proofs.Ytekheacbmbbpmaa.Ints Go.Proofs.Ytekheacbmbbpmaa.Kep Go.Proofs.Ytekheacbmbbpmaa.Lls Go.Proofs.Ytekheacbmbbpmaa.Knl
open Go.Proofs.Ytekheacbmbbpmaa.Rel hiding Ll

def addrOf : Value → Option Addr
  | .slice a _ _ => a
  | _ => none
def LOwnR (w : World) (lo hi : Nat) (v : Value) (rs : List LV) : Prop := ∃ a n cap, v = .slice a n cap ∧ OwnLs w lo a n cap rs ∧ totalL rs ≤ 1048576 ∧ (∀ x, a = some x → lo ≤ x.block ∧ x.block < hi) ∧ ∀ r ∈ rs, ∀ x, r.a = some x → lo ≤ x.block ∧ x.block < hi
def Sep (u t : Value) (rs : List LV) : Prop := Far (addrOf u) (addrOf t) ∧ ∀ r ∈ rs, Far (addrOf u) r.a
def QIs (w : World) (u t : Value) (r : Rl) : Prop := IIs w u r.1 ∧ LIs w t r.2
def QOwn (w : World) (lo hi : Nat) (u t : Value) (r : Rl) : Prop := ∃ rs, IOwn w lo hi u r.1 ∧ LOwnR w lo hi t rs ∧ lplain rs = r.2 ∧ Sep u t rs
def QMarked (w : World) (lo hi : Nat) (u t : Value) (k nx : Int) : Prop := ∃ (n : Nat) (rs : List LV), IOwn w lo hi u (marks k n) ∧ LOwnR w lo hi t (lmarks (k + (n : Int)) rs) ∧ totalL rs ≤ 1048576 ∧ nx = lnext (k + (n : Int)) rs ∧ 0 ≤ k ∧ k ≤ 50000000 ∧ n ≤ 1048576 ∧ Sep u t (lmarks (k + (n : Int)) rs)

theorem lOwnR_own {w : World} {lo hi : Nat} {v : Value} {rs : List LV} (h : LOwnR w lo hi v rs) : LOwn w lo hi v (lplain rs) := by
  obtain ⟨a, n, cap, rfl, h1, h2, h3, h4⟩ := h
  exact ⟨a, n, cap, rs, rfl, h1, rfl, h2, h3, h4⟩
theorem lOwnR_keeps {w w' : World} {lo hi lo' hi' : Nat} {v : Value} {rs : List LV} (h : LOwnR w lo hi v rs) (t : Keeps lo' hi' w w') (hd : hi ≤ lo' ∨ hi' ≤ lo) : LOwnR w' lo hi v rs := by
  obtain ⟨a, n, cap, rfl, ho, ht, hb, hr⟩ := h
  exact ⟨a, n, cap, rfl, ownLs_keeps ho hb hr t hd, ht, hb, hr⟩
theorem qIs_below {w w' : World} {u t : Value} {r : Rl} (h : QIs w u t r) (hb : Below w.heap.size w w') : QIs w' u t r := ⟨iIs_below h.1 hb, lIs_below h.2 hb⟩
theorem qOwn_is {w : World} {lo hi : Nat} {u t : Value} {r : Rl} (h : QOwn w lo hi u t r) : QIs w u t r := by
  obtain ⟨rs, h1, h2, h3, _⟩ := h
  exact ⟨iOwn_is h1, h3 ▸ lOwn_is (lOwnR_own h2)⟩
theorem qOwn_keeps {w w' : World} {lo hi lo' hi' : Nat} {u t : Value} {r : Rl} (h : QOwn w lo hi u t r) (k : Keeps lo' hi' w w') (hd : hi ≤ lo' ∨ hi' ≤ lo) : QOwn w' lo hi u t r := by
  obtain ⟨rs, h1, h2, h3, h4⟩ := h
  exact ⟨rs, iOwn_keeps h1 k hd, lOwnR_keeps h2 k hd, h3, h4⟩
theorem qMarked_keeps {w w' : World} {lo hi lo' hi' : Nat} {u t : Value} {k nx : Int} (h : QMarked w lo hi u t k nx) (kk : Keeps lo' hi' w w') (hd : hi ≤ lo' ∨ hi' ≤ lo) : QMarked w' lo hi u t k nx := by
  obtain ⟨n, rs, h1, h2, h3⟩ := h
  exact ⟨n, rs, iOwn_keeps h1 kk hd, lOwnR_keeps h2 kk hd, h3⟩
theorem qOwn_below {w w' : World} {lo hi : Nat} {u t : Value} {r : Rl} (h : QOwn w lo hi u t r) (hb : Below w.heap.size w w') : QOwn w' lo hi u t r := qOwn_keeps (lo' := hi) (hi' := hi) h (Keeps.of_below hb) (Or.inl (Nat.le_refl _))
theorem qMarked_below {w w' : World} {lo hi : Nat} {u t : Value} {k nx : Int} (h : QMarked w lo hi u t k nx) (hb : Below w.heap.size w w') : QMarked w' lo hi u t k nx := qMarked_keeps (lo' := hi) (hi' := hi) h (Keeps.of_below hb) (Or.inl (Nat.le_refl _))

theorem ownLs_touch {w w' : World} {base : Nat} {a b : Option Addr} {n cap : Nat} {rs : List LV} (h : OwnLs w base a n cap rs) (t : OnlyAt b w w') (h0 : Far b a) (hr : ∀ r ∈ rs, Far b r.a) : OwnLs w' base a n cap rs :=
  ⟨own_touch h.outer t (fun x y hx hy => h0.symm x y hx hy), fun r hr' => own_touch (h.inner r hr') t (fun x y hx hy => (hr r hr').symm x y hx hy), h.wf, h.apart, h.apart0⟩
theorem own_only_in {w w' : World} {base : Nat} {e : TypeId} {size : Nat} {a : Option Addr} {n cap : Nat} {xs : List Value} {rs : List LV} (h : w.ownsRow base e size (.slice a n cap) n xs) (t : OnlyIn rs w w') (hr : ∀ r ∈ rs, Far a r.a) : w'.ownsRow base e size (.slice a n cap) n xs := by
  have hlt := own_block h
  obtain ⟨h1, h2⟩ := h
  refine ⟨h1, ?_⟩
  rcases h2 with h2 | ⟨g, cap', cur, hv, hg, hh, r⟩
  · exact .inl h2
  · refine .inr ⟨g, cap', cur, hv, hg, ?_, r⟩
    simp only [Value.slice.injEq] at hv
    rw [t.block g (hlt _ hv.1).2 (fun r hr' x hx => hr r hr' _ x hv.1 hx)]
    exact hh
theorem keeps_trans {lo hi : Nat} {w w1 w2 : World} (h : Keeps lo hi w w1) (k : Keeps lo hi w1 w2) : Keeps lo hi w w2 :=
  ⟨k.os.trans h.os, k.tape.trans h.tape, k.output.trans h.output, Nat.le_trans h.size k.size, fun i hi' hne => (k.block i (Nat.lt_of_lt_of_le hi' h.size) hne).trans (h.block i hi' hne)⟩

theorem iOwn_wide {w : World} {lo hi lo' hi' : Nat} {v : Value} {zs : List Int} (h : IOwn w lo hi v zs) (h1 : lo' ≤ lo) (h2 : hi ≤ hi') : IOwn w lo' hi' v zs := by
  obtain ⟨a, n, cap, rfl, ho, hw, hn, hb⟩ := h
  exact ⟨a, n, cap, rfl, own_base ho h1, hw, hn, fun x hx => by have := hb x hx; omega⟩
theorem ownLs_base {w : World} {base base' : Nat} {a : Option Addr} {n cap : Nat} {rs : List LV} (h : OwnLs w base a n cap rs) (hb : base' ≤ base) : OwnLs w base' a n cap rs :=
  ⟨own_base h.outer hb, fun r hr => own_base (h.inner r hr) hb, h.wf, h.apart, h.apart0⟩
theorem lOwnR_wide {w : World} {lo hi lo' hi' : Nat} {v : Value} {rs : List LV} (h : LOwnR w lo hi v rs) (h1 : lo' ≤ lo) (h2 : hi ≤ hi') : LOwnR w lo' hi' v rs := by
  obtain ⟨a, n, cap, rfl, ho, ht, hb, hr⟩ := h
  exact ⟨a, n, cap, rfl, ownLs_base ho h1, ht, fun x hx => by have := hb x hx; omega, fun r hr' x hx => by have := hr r hr' x hx; omega⟩
theorem lOwn_r {w : World} {lo hi : Nat} {v : Value} {xs : Ll} (h : LOwn w lo hi v xs) : ∃ rs, LOwnR w lo hi v rs ∧ lplain rs = xs := by
  obtain ⟨a, n, cap, rs, rfl, ho, e, ht, hb, hr⟩ := h
  exact ⟨rs, ⟨a, n, cap, rfl, ho, ht, hb, hr⟩, e⟩
theorem keeps_set {lo hi : Nat} (w : World) {b : Nat} (o : Nat) (v : Value) (h : lo ≤ b ∧ b < hi) : Keeps lo hi w (w.setCell ⟨b, o, none⟩ v) :=
  Keeps.of_only (a := some ⟨b, 0, none⟩) ((OnlyAt.refl _ w).setCell (fun x hx => by cases hx; rfl) (by simp) v) (fun x hx => by cases hx; exact h)
theorem qOwn_wide {w : World} {lo hi lo' hi' : Nat} {u t : Value} {r : Rl} (h : QOwn w lo hi u t r) (h1 : lo' ≤ lo) (h2 : hi ≤ hi') : QOwn w lo' hi' u t r := by
  obtain ⟨rs, g1, g2, g3, g4⟩ := h
  exact ⟨rs, iOwn_wide g1 h1 h2, lOwnR_wide g2 h1 h2, g3, g4⟩
theorem qOwn_set {w : World} {lo hi : Nat} {u t : Value} {r : Rl} (h : QOwn w lo hi u t r) {b : Nat} (o : Nat) (v : Value) (hb : b < lo) : QOwn (w.setCell ⟨b, o, none⟩ v) lo hi u t r :=
  qOwn_keeps h (keeps_set (lo := b) (hi := b + 1) w o v (by omega)) (Or.inr (by omega))
/-- What lies in two places that do not meet. -/
theorem qOwn_of {w : World} {lo m hi : Nat} {u t : Value} {zs : List Int} {xs : Ll} (h1 : IOwn w lo m u zs) (h2 : LOwn w m hi t xs) (hm : m ≤ hi) (hl : lo ≤ m) : QOwn w lo hi u t (zs, xs) := by
  obtain ⟨rs, h3, e⟩ := lOwn_r h2
  refine ⟨rs, iOwn_wide h1 (Nat.le_refl _) hm, lOwnR_wide h3 hl (Nat.le_refl _), e, ?_⟩
  obtain ⟨a, n, cap, rfl, _, _, _, hb⟩ := h1
  obtain ⟨a', n', cap', rfl, _, _, hb', hr'⟩ := h3
  exact ⟨fun x y hx hy => by have := hb x hx; have := hb' y hy; omega, fun r hr x y hx hy => by have := hb x hx; have := hr' r hr y hy; omega⟩
theorem iIs_slice {w : World} {v : Value} {zs : List Int} (h : IIs w v zs) : ∃ a n c, v = .slice a n c := by
  obtain ⟨a, n, c, e, _⟩ := h
  exact ⟨a, n, c, e⟩
theorem lIs_slice {w : World} {v : Value} {xs : Ll} (h : LIs w v xs) : ∃ a n c, v = .slice a n c := by
  obtain ⟨a, n, c, _, e, _⟩ := h
  exact ⟨a, n, c, e⟩

theorem left_add (m : Int) (n : Nat) (rs : List LV) (h : 0 ≤ left m n) : left (left m n) (totalL rs) = left m ((n : Int) + totalL rs) := by
  have e : left m n = m - n := by
    unfold left at h ⊢
    split at h
    · omega
    · rw [if_neg (by omega)]
  rw [e] at h ⊢
  unfold left
  by_cases h2 : m - (n : Int) < totalL rs
  · rw [if_pos h2, if_pos (by omega)]
  · rw [if_neg h2, if_neg (by omega)]
    omega
theorem total_nonneg (rs : List LV) : 0 ≤ totalL rs := by have := sumL_nonneg rs; unfold totalL; omega
theorem left_neg (m : Int) (n : Nat) (rs : List LV) (h : left m n < 0) (_h0 : 0 ≤ m) : left m ((n : Int) + totalL rs) = -1 := by
  have := total_nonneg rs
  unfold left at *
  split at h
  · rw [if_pos (by omega)]
  · omega
theorem left_le (m : Int) (t : Int) (h0 : 0 ≤ t) (hm : m ≤ 1048576) : left m t ≤ 1048576 := by unfold left; split <;> omega
theorem left_two (m t : Int) : left m t < 0 → left m t = -1 ∨ m - t < 0 := by unfold left; split <;> omega

theorem rl_eq (x y : Rl) : decide (x = y) = (decide (x.1 = y.1) && decide (x.2 = y.2)) := by
  rw [Bool.eq_iff_iff, Bool.and_eq_true, decide_eq_true_eq, decide_eq_true_eq, decide_eq_true_eq]
  exact Prod.ext_iff


end Go.Proofs.Ytekheacbmbbpmaa.Krl
