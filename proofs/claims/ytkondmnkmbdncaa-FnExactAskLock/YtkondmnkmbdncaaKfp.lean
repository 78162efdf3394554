/-
  Fields of structs that hold lists, each in blocks of its own (told by a predicate on blocks): integers, slices of slices; marked and held.
-/
import Derived.Test.YtkondmnkmbdncaaKrl
namespace Go.Proofs.Ytkondmnkmbdncaa.Kfp
open Go.RowKit
open Go.Proofs.Ytkondmnkmbdncaa.Frame Go.Proofs.Ytkondmnkmbdncaa.Mem Go.Proofs.Ytkondmnkmbdncaa.Ints Go.Proofs.Ytkondmnkmbdncaa.Kep Go.Proofs.Ytkondmnkmbdncaa.Lls Go.Proofs.Ytkondmnkmbdncaa.Knl Go.Proofs.Ytkondmnkmbdncaa.Krl

/-- Nothing was turned but blocks of p, and what is new. -/
structure KeepsF (p : Nat → Prop) (w w' : World) : Prop where
  os : w'.os = w.os
  tape : w'.tape = w.tape
  output : w'.output = w.output
  size : w.heap.size ≤ w'.heap.size
  block : ∀ k, k < w.heap.size → ¬ p k → w'.heap[k]? = w.heap[k]?
theorem KeepsF.of_below {p : Nat → Prop} {w w' : World} (h : Below w.heap.size w w') : KeepsF p w w' := ⟨h.os, h.tape, h.output, h.size, fun k hk _ => h.block k hk⟩
theorem KeepsF.refl (p : Nat → Prop) (w : World) : KeepsF p w w := ⟨rfl, rfl, rfl, Nat.le_refl _, fun _ _ _ => rfl⟩
theorem KeepsF.keeps {p : Nat → Prop} {lo hi : Nat} {w w' : World} (t : KeepsF p w w') (h : ∀ k, p k → lo ≤ k ∧ k < hi) : Keeps lo hi w w' :=
  ⟨t.os, t.tape, t.output, t.size, fun k hk hne => t.block k hk (fun hp => by have := h k hp; omega)⟩
theorem KeepsF.cell {p : Nat → Prop} {w w' : World} (t : KeepsF p w w') {b o : Nat} {v : Value} (h : w.cell? ⟨b, o, none⟩ = some v) (hb : ¬ p b) : w'.cell? ⟨b, o, none⟩ = some v :=
  (World.cell?_of_block (w := w) (t.block b (Frame.cell_lt h) hb)).trans h
theorem KeepsF.of_only {p : Nat → Prop} {a : Option Addr} {w w' : World} (t : OnlyAt a w w') (h : ∀ x, a = some x → p x.block) : KeepsF p w w' :=
  ⟨t.os, t.tape, t.output, t.size, fun k hk hne => t.block k hk (fun x hx e => hne (e ▸ h x hx))⟩
theorem KeepsF.of_in {p : Nat → Prop} {rs : List LV} {w w' : World} (t : OnlyIn rs w w') (h : ∀ r ∈ rs, ∀ x, r.a = some x → p x.block) : KeepsF p w w' :=
  ⟨t.os, t.tape, t.output, t.size, fun k hk hne => t.block k hk (fun r hr x hx e => hne (e ▸ h r hr x hx))⟩
theorem own_keepsF {w w' : World} {base : Nat} {p q : Nat → Prop} {e : TypeId} {size : Nat} {a : Option Addr} {n cap : Nat} {xs : List Value} (h : w.ownsRow base e size (.slice a n cap) n xs) (hb : ∀ x, a = some x → p x.block) (t : KeepsF q w w') (hd : ∀ b, p b → ¬ q b) : w'.ownsRow base e size (.slice a n cap) n xs := by
  have hlt := own_block h
  obtain ⟨h1, h2⟩ := h
  refine ⟨h1, ?_⟩
  rcases h2 with h2 | ⟨g, cap', cur, hv, hg, hh, r⟩
  · exact .inl h2
  · refine .inr ⟨g, cap', cur, hv, hg, ?_, r⟩
    simp only [Value.slice.injEq] at hv
    rw [t.block g (hlt _ hv.1).2 (hd _ (hb _ hv.1))]
    exact hh
def cut (p : Nat → Prop) (lo hi s : Nat) : Nat → Prop := fun b => p b ∧ lo ≤ b ∧ b < hi ∧ b < s
def seg (lo hi : Nat) : Nat → Prop := fun b => lo ≤ b ∧ b < hi

/-! A list of integers. -/
def IF (w : World) (lo hi : Nat) (p : Nat → Prop) (v : Value) (zs : List Int) : Prop := IOwn w lo hi v zs ∧ ∀ x, addrOf v = some x → p x.block
def IM (w : World) (lo hi : Nat) (p : Nat → Prop) (v : Value) (k nx : Int) : Prop := ∃ n : Nat, IOwn w lo hi v (marks k n) ∧ nx = k + (n : Int) ∧ 0 ≤ k ∧ k ≤ 80000000 ∧ ∀ x, addrOf v = some x → p x.block
theorem iF_is {w : World} {lo hi : Nat} {p : Nat → Prop} {v : Value} {zs : List Int} (h : IF w lo hi p v zs) : IIs w v zs := iOwn_is h.1
theorem iOwn_keepsF {w w' : World} {lo hi : Nat} {p q : Nat → Prop} {v : Value} {zs : List Int} (h : IOwn w lo hi v zs) (hp : ∀ x, addrOf v = some x → p x.block) (t : KeepsF q w w') (hd : ∀ b, p b → ¬ q b) : IOwn w' lo hi v zs := by
  obtain ⟨a, n, cap, rfl, ho, hw, hn, hb⟩ := h
  exact ⟨a, n, cap, rfl, own_keepsF ho hp t hd, hw, hn, hb⟩
theorem iF_keepsF {w w' : World} {lo hi : Nat} {p q : Nat → Prop} {v : Value} {zs : List Int} (h : IF w lo hi p v zs) (t : KeepsF q w w') (hd : ∀ b, p b → ¬ q b) : IF w' lo hi p v zs := ⟨iOwn_keepsF h.1 h.2 t hd, h.2⟩
theorem iM_keepsF {w w' : World} {lo hi : Nat} {p q : Nat → Prop} {v : Value} {k nx : Int} (h : IM w lo hi p v k nx) (t : KeepsF q w w') (hd : ∀ b, p b → ¬ q b) : IM w' lo hi p v k nx := by
  obtain ⟨n, h1, h2, h3, h4, h5⟩ := h
  exact ⟨n, iOwn_keepsF h1 h5 t hd, h2, h3, h4, h5⟩
theorem iF_keeps {w w' : World} {lo hi lo' hi' : Nat} {p : Nat → Prop} {v : Value} {zs : List Int} (h : IF w lo hi p v zs) (t : Keeps lo' hi' w w') (hd : hi ≤ lo' ∨ hi' ≤ lo) : IF w' lo hi p v zs := ⟨iOwn_keeps h.1 t hd, h.2⟩
theorem iM_keeps {w w' : World} {lo hi lo' hi' : Nat} {p : Nat → Prop} {v : Value} {k nx : Int} (h : IM w lo hi p v k nx) (t : Keeps lo' hi' w w') (hd : hi ≤ lo' ∨ hi' ≤ lo) : IM w' lo hi p v k nx := by
  obtain ⟨n, h1, h2⟩ := h
  exact ⟨n, iOwn_keeps h1 t hd, h2⟩
theorem iF_seg {w : World} {lo hi : Nat} {v : Value} {zs : List Int} (h : IOwn w lo hi v zs) : IF w lo hi (seg lo hi) v zs := by
  refine ⟨h, ?_⟩
  obtain ⟨a, n, cap, rfl, _, _, _, hb⟩ := h
  exact hb
theorem iF_wide {w : World} {lo hi lo' hi' : Nat} {p : Nat → Prop} {v : Value} {zs : List Int} (h : IF w lo hi p v zs) (h1 : lo' ≤ lo) (h2 : hi ≤ hi') : IF w lo' hi' p v zs := ⟨iOwn_wide h.1 h1 h2, h.2⟩
theorem iF_below {w w' : World} {lo hi : Nat} {p : Nat → Prop} {v : Value} {zs : List Int} (h : IF w lo hi p v zs) (hb : Below w.heap.size w w') : IF w' lo hi p v zs := ⟨iOwn_below h.1 hb, h.2⟩
theorem iM_below {w w' : World} {lo hi : Nat} {p : Nat → Prop} {v : Value} {k nx : Int} (h : IM w lo hi p v k nx) (hb : Below w.heap.size w w') : IM w' lo hi p v k nx := by
  obtain ⟨n, h1, h2⟩ := h
  exact ⟨n, iOwn_below h1 hb, h2⟩
theorem iM_slice {w : World} {lo hi : Nat} {p : Nat → Prop} {v : Value} {k nx : Int} (h : IM w lo hi p v k nx) : ∃ a n c, v = .slice a n c := by
  obtain ⟨_, ⟨a, n, c, e, _⟩, _⟩ := h
  exact ⟨a, n, c, e⟩
theorem iM_k {w : World} {lo hi : Nat} {p : Nat → Prop} {v : Value} {k nx : Int} (h : IM w lo hi p v k nx) : 0 ≤ k := by
  obtain ⟨_, _, _, h0, _⟩ := h
  exact h0
theorem iF_cut {w : World} {lo hi : Nat} {p : Nat → Prop} {v : Value} {zs : List Int} (h : IF w lo hi p v zs) : IF w lo hi (cut p lo hi w.heap.size) v zs := by
  obtain ⟨⟨a, n, cap, rfl, ho, hw, hn, hb⟩, hp⟩ := h
  exact ⟨⟨a, n, cap, rfl, ho, hw, hn, hb⟩, fun x hx => ⟨hp x hx, (hb x hx).1, (hb x hx).2, (own_block ho x hx).2⟩⟩
theorem iF_mark (v : Value) (zs : List Int) (lo hi : Nat) (p : Nat → Prop) (k : Int) (w : World) (h : IF w lo hi p v zs) (hk0 : 0 ≤ k) (hk1 : k ≤ 80000000) :
    Calls Try.prog 58 #[v, .int .i64 k] w fun e w' => ∃ nx, e = .returned (.int .i64 nx) ∧ k ≤ nx ∧ nx ≤ k + 1048576 ∧ IM w' lo hi p v k nx ∧ KeepsF p w w' := by
  obtain ⟨⟨a, n, cap, rfl, ho, hw, hn, hb⟩, hp⟩ := h
  refine (Ints.markIntS a n cap zs k lo w ho hn hk0 (by omega)).mono ?_
  rintro e w' ⟨rfl, ho', ht⟩
  exact ⟨_, rfl, by omega, by omega, ⟨n, ⟨a, n, cap, rfl, ho', marks_wf k n hk0 (by omega), hn, hb⟩, rfl, hk0, hk1, hp⟩, KeepsF.of_only ht hp⟩
theorem iF_held (v : Value) (lo hi : Nat) (p : Nat → Prop) (k nx : Int) (w : World) (h : IM w lo hi p v k nx) :
    Calls Try.prog 59 #[v, .int .i64 k] w fun e w' => e = .returned (.int .i64 nx) ∧ w' = w := by
  obtain ⟨n, ⟨a, m, cap, rfl, ho, hw, hm, hb⟩, rfl, hk0, hk1, hp⟩ := h
  have hnm : n = m := by have := ho.1; rw [ints_length, marks_length] at this; omega
  subst hnm
  obtain ⟨a', c', e, hr⟩ := isRow_own ho hw
  cases e
  exact Ints.heldIntS _ _ _ k w hr hm hk0 (by omega)
theorem iM_nx {w : World} {lo hi : Nat} {p : Nat → Prop} {v : Value} {k nx : Int} (h : IM w lo hi p v k nx) : k ≤ nx := by
  obtain ⟨n, _, h2, _⟩ := h
  omega

/-! A list of lists of integers. -/
def InL (p : Nat → Prop) (v : Value) (rs : List LV) : Prop := (∀ x, addrOf v = some x → p x.block) ∧ ∀ r ∈ rs, ∀ x, r.a = some x → p x.block
def LF (w : World) (lo hi : Nat) (p : Nat → Prop) (v : Value) (xs : Ll) : Prop := ∃ rs, LOwnR w lo hi v rs ∧ lplain rs = xs ∧ InL p v rs
def LM (w : World) (lo hi : Nat) (p : Nat → Prop) (v : Value) (k nx : Int) : Prop := ∃ rs, LOwnR w lo hi v (lmarks k rs) ∧ totalL rs ≤ 1048576 ∧ nx = lnext k rs ∧ 0 ≤ k ∧ k ≤ 80000000 ∧ InL p v (lmarks k rs)
theorem lF_is {w : World} {lo hi : Nat} {p : Nat → Prop} {v : Value} {xs : Ll} (h : LF w lo hi p v xs) : LIs w v xs := by
  obtain ⟨rs, h1, h2, _⟩ := h
  exact h2 ▸ lOwn_is (lOwnR_own h1)
theorem lOwnR_keepsF {w w' : World} {lo hi : Nat} {p q : Nat → Prop} {v : Value} {rs : List LV} (h : LOwnR w lo hi v rs) (hp : InL p v rs) (t : KeepsF q w w') (hd : ∀ b, p b → ¬ q b) : LOwnR w' lo hi v rs := by
  obtain ⟨a, n, cap, rfl, ho, ht, hb, hr⟩ := h
  exact ⟨a, n, cap, rfl, ⟨own_keepsF ho.outer hp.1 t hd, fun r hr' => own_keepsF (ho.inner r hr') (hp.2 r hr') t hd, ho.wf, ho.apart, ho.apart0⟩, ht, hb, hr⟩
theorem lF_keepsF {w w' : World} {lo hi : Nat} {p q : Nat → Prop} {v : Value} {xs : Ll} (h : LF w lo hi p v xs) (t : KeepsF q w w') (hd : ∀ b, p b → ¬ q b) : LF w' lo hi p v xs := by
  obtain ⟨rs, h1, h2, h3⟩ := h
  exact ⟨rs, lOwnR_keepsF h1 h3 t hd, h2, h3⟩
theorem lM_keepsF {w w' : World} {lo hi : Nat} {p q : Nat → Prop} {v : Value} {k nx : Int} (h : LM w lo hi p v k nx) (t : KeepsF q w w') (hd : ∀ b, p b → ¬ q b) : LM w' lo hi p v k nx := by
  obtain ⟨rs, h1, h2, h3, h4, h5, h6⟩ := h
  exact ⟨rs, lOwnR_keepsF h1 h6 t hd, h2, h3, h4, h5, h6⟩
theorem lF_keeps {w w' : World} {lo hi lo' hi' : Nat} {p : Nat → Prop} {v : Value} {xs : Ll} (h : LF w lo hi p v xs) (t : Keeps lo' hi' w w') (hd : hi ≤ lo' ∨ hi' ≤ lo) : LF w' lo hi p v xs := by
  obtain ⟨rs, h1, h2⟩ := h
  exact ⟨rs, lOwnR_keeps h1 t hd, h2⟩
theorem lM_keeps {w w' : World} {lo hi lo' hi' : Nat} {p : Nat → Prop} {v : Value} {k nx : Int} (h : LM w lo hi p v k nx) (t : Keeps lo' hi' w w') (hd : hi ≤ lo' ∨ hi' ≤ lo) : LM w' lo hi p v k nx := by
  obtain ⟨rs, h1, h2⟩ := h
  exact ⟨rs, lOwnR_keeps h1 t hd, h2⟩
theorem lF_seg {w : World} {lo hi : Nat} {v : Value} {xs : Ll} (h : LOwn w lo hi v xs) : LF w lo hi (seg lo hi) v xs := by
  obtain ⟨rs, h1, h2⟩ := lOwn_r h
  refine ⟨rs, h1, h2, ?_⟩
  obtain ⟨a, n, cap, rfl, _, _, hb, hr⟩ := h1
  exact ⟨hb, hr⟩
theorem lF_wide {w : World} {lo hi lo' hi' : Nat} {p : Nat → Prop} {v : Value} {xs : Ll} (h : LF w lo hi p v xs) (h1 : lo' ≤ lo) (h2 : hi ≤ hi') : LF w lo' hi' p v xs := by
  obtain ⟨rs, g1, g2⟩ := h
  exact ⟨rs, lOwnR_wide g1 h1 h2, g2⟩
theorem lF_below {w w' : World} {lo hi : Nat} {p : Nat → Prop} {v : Value} {xs : Ll} (h : LF w lo hi p v xs) (hb : Below w.heap.size w w') : LF w' lo hi p v xs := lF_keeps (lo' := hi) (hi' := hi) h (Keeps.of_below hb) (Or.inl (Nat.le_refl _))
theorem lM_below {w w' : World} {lo hi : Nat} {p : Nat → Prop} {v : Value} {k nx : Int} (h : LM w lo hi p v k nx) (hb : Below w.heap.size w w') : LM w' lo hi p v k nx := lM_keeps (lo' := hi) (hi' := hi) h (Keeps.of_below hb) (Or.inl (Nat.le_refl _))
theorem lM_slice {w : World} {lo hi : Nat} {p : Nat → Prop} {v : Value} {k nx : Int} (h : LM w lo hi p v k nx) : ∃ a n c, v = .slice a n c := by
  obtain ⟨_, ⟨a, n, c, e, _⟩, _⟩ := h
  exact ⟨a, n, c, e⟩
theorem lM_k {w : World} {lo hi : Nat} {p : Nat → Prop} {v : Value} {k nx : Int} (h : LM w lo hi p v k nx) : 0 ≤ k := by
  obtain ⟨_, _, _, _, h0, _⟩ := h
  exact h0
theorem lF_cut {w : World} {lo hi : Nat} {p : Nat → Prop} {v : Value} {xs : Ll} (h : LF w lo hi p v xs) : LF w lo hi (cut p lo hi w.heap.size) v xs := by
  obtain ⟨rs, ⟨a, n, cap, rfl, ho, ht, hb, hr⟩, e, hp⟩ := h
  exact ⟨rs, ⟨a, n, cap, rfl, ho, ht, hb, hr⟩, e, fun x hx => ⟨hp.1 x hx, (hb x hx).1, (hb x hx).2, (own_block ho.outer x hx).2⟩, fun r h' x hx => ⟨hp.2 r h' x hx, (hr r h' x hx).1, (hr r h' x hx).2, (own_block (ho.inner r h') x hx).2⟩⟩
theorem sumL_lmarks (k : Int) (l : List LV) : sumL (lmarks k l) = sumL l := by
  induction l generalizing k with
  | nil => rfl
  | cons x l ih =>
    simp only [lmarks, sumL, List.map_cons, List.sum_cons] at *
    rw [ih]
theorem total_lmarks (k : Int) (l : List LV) : totalL (lmarks k l) = totalL l := by unfold totalL; rw [lmarks_length, sumL_lmarks]
theorem lF_mark (v : Value) (xs : Ll) (lo hi : Nat) (p : Nat → Prop) (k : Int) (w : World) (h : LF w lo hi p v xs) (hk0 : 0 ≤ k) (hk1 : k ≤ 80000000) :
    Calls Try.prog 57 #[v, .int .i64 k] w fun e w' => ∃ nx, e = .returned (.int .i64 nx) ∧ k ≤ nx ∧ nx ≤ k + 1048576 ∧ LM w' lo hi p v k nx ∧ KeepsF p w w' := by
  obtain ⟨rs, ⟨a, n, cap, rfl, ho, ht, hb, hr⟩, _, hp⟩ := h
  have hs := small_ls ht
  refine (Lls.markIntSS a n cap rs k lo w ho (by rw [← ho.len]; exact hs.1) hs.2 hk0 (by omega)).mono ?_
  rintro e w' ⟨rfl, ho', hk⟩
  have hn : k ≤ lnext k rs ∧ lnext k rs ≤ k + 1048576 := by
    have h1 := sumL_nonneg rs
    unfold lnext
    unfold totalL at ht
    omega
  have hin : ∀ r ∈ lmarks k rs, ∀ x, r.a = some x → (lo ≤ x.block ∧ x.block < hi) ∧ p x.block := fun r h' x hx => by
    obtain ⟨s, hs', e⟩ := lmarks_mem h'
    exact ⟨hr s hs' x (e.trans hx), hp.2 s hs' x (e.trans hx)⟩
  exact ⟨_, rfl, hn.1, hn.2, ⟨rs, ⟨a, n, cap, rfl, ho', by rw [total_lmarks]; exact ht, hb, fun r h' x hx => (hin r h' x hx).1⟩, ht, rfl, hk0, hk1, hp.1, fun r h' x hx => (hin r h' x hx).2⟩, KeepsF.of_in hk hp.2⟩
theorem lF_held (v : Value) (lo hi : Nat) (p : Nat → Prop) (k nx : Int) (w : World) (h : LM w lo hi p v k nx) :
    Calls Try.prog 60 #[v, .int .i64 k] w fun e w' => e = .returned (.int .i64 nx) ∧ w' = w := by
  obtain ⟨rs, ⟨a, n, cap, rfl, ho, _, hb, hr⟩, ht, rfl, h0, h1, hp⟩ := h
  have hs := small_ls ht
  have hl := ho.len
  rw [lmarks_length] at hl
  exact Lls.heldIntSS a n cap rs k w ho.isLs (by rw [← hl]; exact hs.1) hs.2 h0 (by omega)
theorem lM_nx {w : World} {lo hi : Nat} {p : Nat → Prop} {v : Value} {k nx : Int} (h : LM w lo hi p v k nx) : k ≤ nx := by
  obtain ⟨rs, _, _, h2, _⟩ := h
  have := sumL_nonneg rs
  unfold lnext at h2
  omega

/-! What is left of a size. -/
theorem left_more (m a b : Int) (h : 0 ≤ left m a) (_hb : 0 ≤ b) : left (left m a) b = left m (a + b) := by
  have e : left m a = m - a := by
    unfold left at h ⊢
    split at h
    · omega
    · rw [if_neg (by omega)]
  rw [e] at h ⊢
  unfold left
  by_cases h2 : m - a < b
  · rw [if_pos h2, if_pos (by omega)]
  · rw [if_neg h2, if_neg (by omega)]
    omega
theorem left_none (m a b : Int) (h : left m a < 0) (hb : 0 ≤ b) (_h0 : 0 ≤ m) : left m (a + b) = -1 := by
  unfold left at *
  split at h
  · rw [if_pos (by omega)]
  · omega
theorem left_m1 (m t : Int) (h : left m t < 0) : left m t = -1 := by
  unfold left at *
  split at h
  · rw [if_pos (by omega)]
  · omega


end Go.Proofs.Ytkondmnkmbdncaa.Kfp
