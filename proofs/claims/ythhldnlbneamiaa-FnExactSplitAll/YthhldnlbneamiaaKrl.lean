/-
  Relations in memory, by their place: the laws' helpers on them.
-/
import Derived.Test.YthhldnlbneamiaaKnl
import Derived.Test.YthhldnlbneamiaaRel
namespace Go.Proofs.Ythhldnlbneamiaa.Krl
open Go.RowKit
open Go.Proofs.Ythhldnlbneamiaa.Frame Go.Proofs.Ythhldnlbneamiaa.Mem Go.Proofs.Ythhldnlbneamiaa.Ints Go.Proofs.Ythhldnlbneamiaa.Kep Go.Proofs.Ythhldnlbneamiaa.Lls Go.Proofs.Ythhldnlbneamiaa.Knl
open Go.Proofs.Ythhldnlbneamiaa.Rel hiding Ll

def addrOf : Value → Option Addr
  | .slice a _ _ => a
  | _ => none
def LOwnR (w : World) (lo hi : Nat) (v : Value) (rs : List LV) : Prop := ∃ a n cap, v = .slice a n cap ∧ OwnLs w lo a n cap rs ∧ totalL rs ≤ 1048576 ∧ (∀ x, a = some x → lo ≤ x.block ∧ x.block < hi) ∧ ∀ r ∈ rs, ∀ x, r.a = some x → lo ≤ x.block ∧ x.block < hi
def Sep (u t : Value) (rs : List LV) : Prop := Far (addrOf u) (addrOf t) ∧ ∀ r ∈ rs, Far (addrOf u) r.a
def QIs (w : World) (u t : Value) (r : Rl) : Prop := IIs w u r.1 ∧ LIs w t r.2
def QOwn (w : World) (lo hi : Nat) (u t : Value) (r : Rl) : Prop := ∃ rs, IOwn w lo hi u r.1 ∧ LOwnR w lo hi t rs ∧ lplain rs = r.2 ∧ Sep u t rs
def QMarked (w : World) (lo hi : Nat) (u t : Value) (k nx : Int) : Prop := ∃ (n : Nat) (rs : List LV), IOwn w lo hi u (marks k n) ∧ LOwnR w lo hi t (lmarks (k + (n : Int)) rs) ∧ totalL rs ≤ 1048576 ∧ nx = lnext (k + (n : Int)) rs ∧ 0 ≤ k ∧ k ≤ 50000000 ∧ n ≤ 1048576 ∧ Sep u t (lmarks (k + (n : Int)) rs)

theorem lOwnR_own {w : World} {lo hi : Nat} {v : Value} {rs : List LV} (h : LOwnR w lo hi v rs) : LOwn w lo hi v (lplain rs) := by
  obtain ⟨a, n, cap, rfl, h1, h2, h3, h4⟩ := h
  exact ⟨a, n, cap, rs, rfl, h1, rfl, h2, h3, h4⟩
theorem lOwnR_keeps {w w' : World} {lo hi lo' hi' : Nat} {v : Value} {rs : List LV} (h : LOwnR w lo hi v rs) (t : Keeps lo' hi' w w') (hd : hi ≤ lo' ∨ hi' ≤ lo) : LOwnR w' lo hi v rs := by
  obtain ⟨a, n, cap, rfl, ho, ht, hb, hr⟩ := h
  exact ⟨a, n, cap, rfl, ownLs_keeps ho hb hr t hd, ht, hb, hr⟩
theorem qIs_below {w w' : World} {u t : Value} {r : Rl} (h : QIs w u t r) (hb : Below w.heap.size w w') : QIs w' u t r := ⟨iIs_below h.1 hb, lIs_below h.2 hb⟩
theorem qOwn_is {w : World} {lo hi : Nat} {u t : Value} {r : Rl} (h : QOwn w lo hi u t r) : QIs w u t r := by
  obtain ⟨rs, h1, h2, h3, _⟩ := h
  exact ⟨iOwn_is h1, h3 ▸ lOwn_is (lOwnR_own h2)⟩
theorem qOwn_keeps {w w' : World} {lo hi lo' hi' : Nat} {u t : Value} {r : Rl} (h : QOwn w lo hi u t r) (k : Keeps lo' hi' w w') (hd : hi ≤ lo' ∨ hi' ≤ lo) : QOwn w' lo hi u t r := by
  obtain ⟨rs, h1, h2, h3, h4⟩ := h
  exact ⟨rs, iOwn_keeps h1 k hd, lOwnR_keeps h2 k hd, h3, h4⟩
theorem qMarked_keeps {w w' : World} {lo hi lo' hi' : Nat} {u t : Value} {k nx : Int} (h : QMarked w lo hi u t k nx) (kk : Keeps lo' hi' w w') (hd : hi ≤ lo' ∨ hi' ≤ lo) : QMarked w' lo hi u t k nx := by
  obtain ⟨n, rs, h1, h2, h3⟩ := h
  exact ⟨n, rs, iOwn_keeps h1 kk hd, lOwnR_keeps h2 kk hd, h3⟩
theorem qOwn_below {w w' : World} {lo hi : Nat} {u t : Value} {r : Rl} (h : QOwn w lo hi u t r) (hb : Below w.heap.size w w') : QOwn w' lo hi u t r := qOwn_keeps (lo' := hi) (hi' := hi) h (Keeps.of_below hb) (Or.inl (Nat.le_refl _))
theorem qMarked_below {w w' : World} {lo hi : Nat} {u t : Value} {k nx : Int} (h : QMarked w lo hi u t k nx) (hb : Below w.heap.size w w') : QMarked w' lo hi u t k nx := qMarked_keeps (lo' := hi) (hi' := hi) h (Keeps.of_below hb) (Or.inl (Nat.le_refl _))

theorem ownLs_touch {w w' : World} {base : Nat} {a b : Option Addr} {n cap : Nat} {rs : List LV} (h : OwnLs w base a n cap rs) (t : OnlyAt b w w') (h0 : Far b a) (hr : ∀ r ∈ rs, Far b r.a) : OwnLs w' base a n cap rs :=
  ⟨own_touch h.outer t (fun x y hx hy => h0.symm x y hx hy), fun r hr' => own_touch (h.inner r hr') t (fun x y hx hy => (hr r hr').symm x y hx hy), h.wf, h.apart, h.apart0⟩
theorem own_only_in {w w' : World} {base : Nat} {e : TypeId} {size : Nat} {a : Option Addr} {n cap : Nat} {xs : List Value} {rs : List LV} (h : w.ownsRow base e size (.slice a n cap) n xs) (t : OnlyIn rs w w') (hr : ∀ r ∈ rs, Far a r.a) : w'.ownsRow base e size (.slice a n cap) n xs := by
  have hlt := own_block h
  obtain ⟨h1, h2⟩ := h
  refine ⟨h1, ?_⟩
  rcases h2 with h2 | ⟨g, cap', cur, hv, hg, hh, r⟩
  · exact .inl h2
  · refine .inr ⟨g, cap', cur, hv, hg, ?_, r⟩
    simp only [Value.slice.injEq] at hv
    rw [t.block g (hlt _ hv.1).2 (fun r hr' x hx => hr r hr' _ x hv.1 hx)]
    exact hh
theorem keeps_trans {lo hi : Nat} {w w1 w2 : World} (h : Keeps lo hi w w1) (k : Keeps lo hi w1 w2) : Keeps lo hi w w2 :=
  ⟨k.os.trans h.os, k.tape.trans h.tape, k.output.trans h.output, Nat.le_trans h.size k.size, fun i hi' hne => (k.block i (Nat.lt_of_lt_of_le hi' h.size) hne).trans (h.block i hi' hne)⟩

theorem iOwn_wide {w : World} {lo hi lo' hi' : Nat} {v : Value} {zs : List Int} (h : IOwn w lo hi v zs) (h1 : lo' ≤ lo) (h2 : hi ≤ hi') : IOwn w lo' hi' v zs := by
  obtain ⟨a, n, cap, rfl, ho, hw, hn, hb⟩ := h
  exact ⟨a, n, cap, rfl, own_base ho h1, hw, hn, fun x hx => by have := hb x hx; omega⟩
theorem ownLs_base {w : World} {base base' : Nat} {a : Option Addr} {n cap : Nat} {rs : List LV} (h : OwnLs w base a n cap rs) (hb : base' ≤ base) : OwnLs w base' a n cap rs :=
  ⟨own_base h.outer hb, fun r hr => own_base (h.inner r hr) hb, h.wf, h.apart, h.apart0⟩
theorem lOwnR_wide {w : World} {lo hi lo' hi' : Nat} {v : Value} {rs : List LV} (h : LOwnR w lo hi v rs) (h1 : lo' ≤ lo) (h2 : hi ≤ hi') : LOwnR w lo' hi' v rs := by
  obtain ⟨a, n, cap, rfl, ho, ht, hb, hr⟩ := h
  exact ⟨a, n, cap, rfl, ownLs_base ho h1, ht, fun x hx => by have := hb x hx; omega, fun r hr' x hx => by have := hr r hr' x hx; omega⟩
theorem lOwn_r {w : World} {lo hi : Nat} {v : Value} {xs : Ll} (h : LOwn w lo hi v xs) : ∃ rs, LOwnR w lo hi v rs ∧ lplain rs = xs := by
  obtain ⟨a, n, cap, rs, rfl, ho, e, ht, hb, hr⟩ := h
  exact ⟨rs, ⟨a, n, cap, rfl, ho, ht, hb, hr⟩, e⟩
theorem keeps_set {lo hi : Nat} (w : World) {b : Nat} (o : Nat) (v : Value) (h : lo ≤ b ∧ b < hi) : Keeps lo hi w (w.setCell ⟨b, o, none⟩ v) :=
  Keeps.of_only (a := some ⟨b, 0, none⟩) ((OnlyAt.refl _ w).setCell (fun x hx => by cases hx; rfl) (by simp) v) (fun x hx => by cases hx; exact h)
theorem qOwn_wide {w : World} {lo hi lo' hi' : Nat} {u t : Value} {r : Rl} (h : QOwn w lo hi u t r) (h1 : lo' ≤ lo) (h2 : hi ≤ hi') : QOwn w lo' hi' u t r := by
  obtain ⟨rs, g1, g2, g3, g4⟩ := h
  exact ⟨rs, iOwn_wide g1 h1 h2, lOwnR_wide g2 h1 h2, g3, g4⟩
theorem qOwn_set {w : World} {lo hi : Nat} {u t : Value} {r : Rl} (h : QOwn w lo hi u t r) {b : Nat} (o : Nat) (v : Value) (hb : b < lo) : QOwn (w.setCell ⟨b, o, none⟩ v) lo hi u t r :=
  qOwn_keeps h (keeps_set (lo := b) (hi := b + 1) w o v (by omega)) (Or.inr (by omega))
/-- What lies in two places that do not meet. -/
theorem qOwn_of {w : World} {lo m hi : Nat} {u t : Value} {zs : List Int} {xs : Ll} (h1 : IOwn w lo m u zs) (h2 : LOwn w m hi t xs) (hm : m ≤ hi) (hl : lo ≤ m) : QOwn w lo hi u t (zs, xs) := by
  obtain ⟨rs, h3, e⟩ := lOwn_r h2
  refine ⟨rs, iOwn_wide h1 (Nat.le_refl _) hm, lOwnR_wide h3 hl (Nat.le_refl _), e, ?_⟩
  obtain ⟨a, n, cap, rfl, _, _, _, hb⟩ := h1
  obtain ⟨a', n', cap', rfl, _, _, hb', hr'⟩ := h3
  exact ⟨fun x y hx hy => by have := hb x hx; have := hb' y hy; omega, fun r hr x y hx hy => by have := hb x hx; have := hr' r hr y hy; omega⟩
theorem iIs_slice {w : World} {v : Value} {zs : List Int} (h : IIs w v zs) : ∃ a n c, v = .slice a n c := by
  obtain ⟨a, n, c, e, _⟩ := h
  exact ⟨a, n, c, e⟩
theorem lIs_slice {w : World} {v : Value} {xs : Ll} (h : LIs w v xs) : ∃ a n c, v = .slice a n c := by
  obtain ⟨a, n, c, _, e, _⟩ := h
  exact ⟨a, n, c, e⟩

set_option maxRecDepth 4000 in
set_option maxHeartbeats 800000 in
theorem q_to (u t : Value) (r : Rl) (w : World) (h : QIs w u t r) :
    Calls Try.prog 60 #[.agg #[u, t]] w fun e w' => ∃ u' t', e = .returned (.agg #[u', t']) ∧ QOwn w' w.heap.size w'.heap.size u' t' r ∧ Below w.heap.size w w' := by
  obtain ⟨hu, ht⟩ := h
  have HU : Hid (IIs w u r.1) := hu
  have HT : Hid (LIs w t r.2) := ht
  obtain ⟨ua, un, uc, rfl⟩ := iIs_slice hu
  obtain ⟨ta, tn, tc, rfl⟩ := lIs_slice ht
  clear hu ht
  have hsz : (((w.alloc (.cells #[.slice ua un uc, .slice ta tn tc] 80)).alloc (.cells #[.slice none 0 0, .slice none 0 0] 33)).alloc (.cells #[.slice none 0 0, .slice none 0 0] 33)).heap.size = w.heap.size + 3 := by simp
  have B3 : Hid (Below w.heap.size w (((w.alloc (.cells #[.slice ua un uc, .slice ta tn tc] 80)).alloc (.cells #[.slice none 0 0, .slice none 0 0] 33)).alloc (.cells #[.slice none 0 0, .slice none 0 0] 33))) := (((Below.refl _ _).alloc (Nat.le_refl _) _).alloc (by simp) _).alloc (by simp; omega) _
  go_enter Try.func60, Try.ntmps60
  go_wp2_with fail
  refine (i_to _ r.1 _ (iIs_below HU.out B3.out)).mono ?_
  rintro e w1 ⟨u1, rfl, ho1, hb1⟩
  have O1 : Hid (IOwn w1 (w.heap.size + 3) w1.heap.size u1 r.1) := by rw [hsz] at ho1; exact ho1
  obtain ⟨a1, n1, c1, rfl⟩ := iIs_slice (iOwn_is ho1)
  have bc := Frame.bcell hb1
  rw [hsz] at bc
  have p0 : w1.cell? ⟨w.heap.size, 1, none⟩ = some (.slice ta tn tc) := by rw [bc.1 _ _ (by omega)]; go_simp
  have c0 : w1.cell? ⟨w.heap.size + 1, 0, none⟩ = some (.slice none 0 0) := by rw [bc.1 _ _ (by omega)]; go_simp
  have c1' : w1.cell? ⟨w.heap.size + 1, 1, none⟩ = some (.slice none 0 0) := by rw [bc.1 _ _ (by omega)]; go_simp
  have d0 : w1.cell? ⟨w.heap.size + 1 + 1, 0, none⟩ = some (.slice none 0 0) := by rw [bc.1 _ _ (by omega)]; go_simp
  have d1 : w1.cell? ⟨w.heap.size + 1 + 1, 1, none⟩ = some (.slice none 0 0) := by rw [bc.1 _ _ (by omega)]; go_simp
  have f0 : w1.frozen? ⟨w.heap.size + 1, 0, none⟩ = false := by rw [bc.2.1 _ _ (by omega)]; go_simp
  have f1 : w1.frozen? ⟨w.heap.size + 1, 1, none⟩ = false := by rw [bc.2.1 _ _ (by omega)]; go_simp
  have g0 : w1.frozen? ⟨w.heap.size + 1 + 1, 0, none⟩ = false := by rw [bc.2.1 _ _ (by omega)]; go_simp
  have g1 : w1.frozen? ⟨w.heap.size + 1 + 1, 1, none⟩ = false := by rw [bc.2.1 _ _ (by omega)]; go_simp
  have B1 : Hid (Below w.heap.size w w1) := Frame.next B3.out hb1 (by rw [hsz]; omega)
  have hs1 : w.heap.size + 3 ≤ w1.heap.size := by have := hb1.size; rw [hsz] at this; exact this
  clear bc ho1 hb1 hsz B3
  have B1s : Hid (Below w.heap.size w (w1.setCell ⟨w.heap.size + 1 + 1, 0, none⟩ (.slice a1 n1 c1))) := B1.out.setCell (by show w.heap.size ≤ w.heap.size + 1 + 1; omega) _
  have F : Hid (w1.cell? ⟨w.heap.size + 1, 0, none⟩ = some (.slice none 0 0) ∧ w1.cell? ⟨w.heap.size + 1, 1, none⟩ = some (.slice none 0 0) ∧ w1.cell? ⟨w.heap.size + 1 + 1, 0, none⟩ = some (.slice none 0 0) ∧ w1.cell? ⟨w.heap.size + 1 + 1, 1, none⟩ = some (.slice none 0 0) ∧ w1.frozen? ⟨w.heap.size + 1, 0, none⟩ = false ∧ w1.frozen? ⟨w.heap.size + 1, 1, none⟩ = false ∧ w1.frozen? ⟨w.heap.size + 1 + 1, 1, none⟩ = false) := ⟨c0, c1', d0, d1, f0, f1, g1⟩
  clear c0 c1' d1 f0 f1 g1
  go_wp2_with fail
  refine (l_to _ r.2 _ (lIs_below HT.out B1s.out)).mono ?_
  rintro e w2 ⟨t1, rfl, ho2, hb2⟩
  obtain ⟨a2, n2, c2, rfl⟩ := lIs_slice (lOwn_is ho2)
  clear p0 d0 g0
  obtain ⟨c0, c1', d0, d1, f0, f1, g1⟩ := F.out
  have bc := Frame.bcell hb2
  have hs : (w1.setCell ⟨w.heap.size + 1 + 1, 0, none⟩ (.slice a1 n1 c1)).heap.size = w1.heap.size := by simp
  rw [hs] at bc ho2
  have c0b : w2.cell? ⟨w.heap.size + 1, 0, none⟩ = some (.slice none 0 0) := by rw [bc.1 _ _ (by omega), World.cell?_setCell_other _ _ _ _ (by simp)]; exact c0
  have c1b : w2.cell? ⟨w.heap.size + 1, 1, none⟩ = some (.slice none 0 0) := by rw [bc.1 _ _ (by omega), World.cell?_setCell_other _ _ _ _ (by simp)]; exact c1'
  have d0b : w2.cell? ⟨w.heap.size + 1 + 1, 0, none⟩ = some (.slice a1 n1 c1) := by rw [bc.1 _ _ (by omega)]; exact World.cell?_setCell_same _ _ _ d0
  have d1b : w2.cell? ⟨w.heap.size + 1 + 1, 1, none⟩ = some (.slice none 0 0) := by rw [bc.1 _ _ (by omega), World.cell?_setCell_other _ _ _ _ (by simp)]; exact d1
  have f0b : w2.frozen? ⟨w.heap.size + 1, 0, none⟩ = false := by rw [bc.2.1 _ _ (by omega), World.frozen?_setCell]; exact f0
  have f1b : w2.frozen? ⟨w.heap.size + 1, 1, none⟩ = false := by rw [bc.2.1 _ _ (by omega), World.frozen?_setCell]; exact f1
  have g1b : w2.frozen? ⟨w.heap.size + 1 + 1, 1, none⟩ = false := by rw [bc.2.1 _ _ (by omega), World.frozen?_setCell]; exact g1
  have B2 : Hid (Below w.heap.size w w2) := Frame.next B1s.out hb2 (by rw [hs]; omega)
  have hs2 : w1.heap.size ≤ w2.heap.size := by have := hb2.size; rw [hs] at this; exact this
  have O1b : IOwn w2 (w.heap.size + 3) w1.heap.size (.slice a1 n1 c1) r.1 := iOwn_below (iOwn_keeps O1.out (keeps_set (lo := w.heap.size + 2) (hi := w.heap.size + 3) w1 0 _ (by omega)) (Or.inr (Nat.le_refl _))) hb2
  have Q : Hid (QOwn w2 (w.heap.size + 3) w2.heap.size (.slice a1 n1 c1) (.slice a2 n2 c2) r) := qOwn_of O1b ho2 hs2 hs1
  clear bc hs ho2 hb2 O1b c0 c1' d0 d1 f0 f1 g1 F
  go_wp2
  refine bodyPost_ret (v := .agg #[.slice a1 n1 c1, .slice a2 n2 c2]) (by simp [results, Try.results60, go_sem, c0b, c1b]) rfl ?_
  exact ⟨_, _, rfl, qOwn_wide (qOwn_set (qOwn_set (qOwn_set Q.out _ _ (by omega)) _ _ (by omega)) _ _ (by omega)) (by omega) (by simp), ((B2.out.setCell (by show w.heap.size ≤ w.heap.size + 1 + 1; omega) _).setCell (by show w.heap.size ≤ w.heap.size + 1; omega) _).setCell (by show w.heap.size ≤ w.heap.size + 1; omega) _⟩

theorem left_add (m : Int) (n : Nat) (rs : List LV) (h : 0 ≤ left m n) : left (left m n) (totalL rs) = left m ((n : Int) + totalL rs) := by
  have e : left m n = m - n := by
    unfold left at h ⊢
    split at h
    · omega
    · rw [if_neg (by omega)]
  rw [e] at h ⊢
  unfold left
  by_cases h2 : m - (n : Int) < totalL rs
  · rw [if_pos h2, if_pos (by omega)]
  · rw [if_neg h2, if_neg (by omega)]
    omega
theorem total_nonneg (rs : List LV) : 0 ≤ totalL rs := by have := sumL_nonneg rs; unfold totalL; omega
theorem left_neg (m : Int) (n : Nat) (rs : List LV) (h : left m n < 0) (_h0 : 0 ≤ m) : left m ((n : Int) + totalL rs) = -1 := by
  have := total_nonneg rs
  unfold left at *
  split at h
  · rw [if_pos (by omega)]
  · omega
theorem left_le (m : Int) (t : Int) (h0 : 0 ≤ t) (hm : m ≤ 1048576) : left m t ≤ 1048576 := by unfold left; split <;> omega
theorem left_two (m t : Int) : left m t < 0 → left m t = -1 ∨ m - t < 0 := by unfold left; split <;> omega

set_option maxHeartbeats 800000 in
theorem q_sz (ua ta : Option Addr) (un uc tn tc : Nat) (rs : List LV) (m : Int) (w : World) (hn : un ≤ maxLen) (h : IsLs w ta tn tc rs) (h0 : 0 ≤ m) (h1 : m ≤ 1048576) :
    Calls Try.prog 57 #[.agg #[.slice ua un uc, .slice ta tn tc], .int .i64 m] w fun e w' => e = .returned (.int .i64 (left m ((un : Int) + totalL rs))) ∧ Below w.heap.size w w' := by
  have b0 : Below w.heap.size w (w.alloc (.cells #[.slice ua un uc, .slice ta tn tc] 80)) := (Below.refl w.heap.size w).alloc (Nat.le_refl _) _
  have HL : Hid (IsLs (w.alloc (.cells #[.slice ua un uc, .slice ta tn tc] 80)) ta tn tc rs) := h.below b0
  have B0 : Hid (Below w.heap.size w (w.alloc (.cells #[.slice ua un uc, .slice ta tn tc] 80))) := b0
  clear h b0
  have hle := left_le m un (by omega) h1
  by_cases hl : left m un < 0
  · have HE : Hid (left m ((un : Int) + totalL rs) = -1) := left_neg m un rs hl h0
    go_enter Try.func57, Try.ntmps57
    go_wp2_with fail
    refine (szIntS _ _ _ _ _ hn h0 h1).mono ?_
    rintro e w' ⟨rfl, rfl⟩
    generalize left m un = L at *
    go_wp2
    go_ret
    exact ⟨Ints.ret_int HE.out.symm, B0.out⟩
  · have HE : Hid (left (left m un) (totalL rs) = left m ((un : Int) + totalL rs)) := left_add m un rs (by omega)
    go_enter Try.func57, Try.ntmps57
    go_wp2_with fail
    refine (szIntS _ _ _ _ _ hn h0 h1).mono ?_
    rintro e w' ⟨rfl, rfl⟩
    generalize left m un = L at *
    go_wp2_with fail
    refine (szIntSS _ _ _ rs _ _ HL.out (by omega) (by omega)).mono ?_
    rintro e w' ⟨rfl, rfl⟩
    rw [HE.out]
    have hq := left_two m ((un : Int) + totalL rs)
    have HQ : Hid (left m ((un : Int) + totalL rs) < 0 → left m ((un : Int) + totalL rs) = -1) := fun hh => by
      have : left m ((un : Int) + totalL rs) = -1 ∨ ¬ left m ((un : Int) + totalL rs) < 0 := by unfold left; split <;> omega
      omega
    clear hq HE HL
    generalize hK : left m ((un : Int) + totalL rs) = K at HQ
    have HK : Hid (left m ((un : Int) + totalL rs) = K) := hK
    clear hK
    by_cases hk : K < 0
    · have HM : Hid (K = -1) := HQ.out hk
      go_wp2
      go_ret
      exact ⟨Ints.ret_int (HK.out.trans HM.out).symm, B0.out⟩
    · go_wp2
      go_ret
      exact ⟨Ints.ret_int HK.out.symm, B0.out⟩

theorem rl_eq (x y : Rl) : decide (x = y) = (decide (x.1 = y.1) && decide (x.2 = y.2)) := by
  rw [Bool.eq_iff_iff, Bool.and_eq_true, decide_eq_true_eq, decide_eq_true_eq, decide_eq_true_eq]
  exact Prod.ext_iff

set_option maxHeartbeats 800000 in
theorem q_eq (u t u' t' : Value) (x y : Rl) (w : World) (h1 : QIs w u t x) (h2 : QIs w u' t' y) :
    Calls Try.prog 64 #[.agg #[u, t], .agg #[u', t']] w fun e w' => e = .returned (.bool (decide (x = y))) ∧ Below w.heap.size w w' := by
  obtain ⟨ua, un, uc, rfl⟩ := iIs_slice h1.1
  obtain ⟨ta, tn, tc, rfl⟩ := lIs_slice h1.2
  obtain ⟨va, vn, vc, rfl⟩ := iIs_slice h2.1
  obtain ⟨sa, sn, sc, rfl⟩ := lIs_slice h2.2
  have b2 : Below w.heap.size w ((w.alloc (.cells #[.slice ua un uc, .slice ta tn tc] 33)).alloc (.cells #[.slice va vn vc, .slice sa sn sc] 33)) := ((Below.refl _ _).alloc (Nat.le_refl _) _).alloc (by simp) _
  have HX : Hid (QIs ((w.alloc (.cells #[.slice ua un uc, .slice ta tn tc] 33)).alloc (.cells #[.slice va vn vc, .slice sa sn sc] 33)) (.slice ua un uc) (.slice ta tn tc) x) := qIs_below h1 b2
  have HY : Hid (QIs ((w.alloc (.cells #[.slice ua un uc, .slice ta tn tc] 33)).alloc (.cells #[.slice va vn vc, .slice sa sn sc] 33)) (.slice va vn vc) (.slice sa sn sc) y) := qIs_below h2 b2
  have hsz : ((w.alloc (.cells #[.slice ua un uc, .slice ta tn tc] 33)).alloc (.cells #[.slice va vn vc, .slice sa sn sc] 33)).heap.size = w.heap.size + 2 := by simp
  have B2 : Hid _ := b2
  clear h1 h2 b2
  rw [rl_eq]
  cases hd : decide (x.1 = y.1)
  · have HD : Hid (decide (x.1 = y.1) = false) := hd
    clear hd
    go_enter Try.func64, Try.ntmps64
    go_wp2_with fail
    refine (i_eq _ _ _ _ _ HX.out.1 HY.out.1).mono ?_
    rintro e w1 ⟨rfl, hb1⟩
    rw [HD.out]
    have B1 : Hid (Below w.heap.size w w1) := Frame.next B2.out hb1 (by rw [hsz]; omega)
    clear hb1
    go_wp2
    go_ret
    exact ⟨rfl, B1.out⟩
  · have HD : Hid (decide (x.1 = y.1) = true) := hd
    clear hd
    cases he : decide (x.2 = y.2)
    all_goals
      have HE : Hid (decide (x.2 = y.2) = _) := he
      clear he
      go_enter Try.func64, Try.ntmps64
      go_wp2_with fail
      refine (i_eq _ _ _ _ _ HX.out.1 HY.out.1).mono ?_
      rintro e w1 ⟨rfl, hb1⟩
      rw [HD.out]
      have B1 : Hid (Below w.heap.size w w1) := Frame.next B2.out hb1 (by rw [hsz]; omega)
      have bc := Frame.bcell hb1
      rw [hsz] at bc
      have p0 : w1.cell? ⟨w.heap.size, 1, none⟩ = some (.slice ta tn tc) := by rw [bc.1 _ _ (by omega)]; go_simp
      have p1 : w1.cell? ⟨w.heap.size + 1, 1, none⟩ = some (.slice sa sn sc) := by rw [bc.1 _ _ (by omega)]; go_simp
      have HT : Hid (LIs w1 (.slice ta tn tc) x.2) := lIs_below HX.out.2 hb1
      have HS : Hid (LIs w1 (.slice sa sn sc) y.2) := lIs_below HY.out.2 hb1
      have HW : Hid (w.heap.size ≤ w1.heap.size) := by have := hb1.size; rw [hsz] at this; show _ ≤ _; omega
      clear hb1 bc
      go_wp2_with fail
      refine (l_eq _ _ _ _ _ HT.out HS.out).mono ?_
      rintro e w2 ⟨rfl, hb2⟩
      rw [HE.out]
      have B3 : Hid (Below w.heap.size w w2) := Frame.next B1.out hb2 HW.out
      clear hb2 p0 p1
      go_wp2
      go_ret
      exact ⟨rfl, B3.out⟩

set_option maxHeartbeats 800000 in
theorem q_mark (u t : Value) (r : Rl) (lo hi : Nat) (k : Int) (w : World) (h : QOwn w lo hi u t r) (hk0 : 0 ≤ k) (hk1 : k ≤ 50000000) :
    Calls Try.prog 65 #[.agg #[u, t], .int .i64 k] w fun e w' => ∃ nx, e = .returned (.int .i64 nx) ∧ 0 ≤ nx ∧ nx ≤ k + 8000000 ∧ QMarked w' lo hi u t k nx ∧ Keeps lo hi w w' := by
  obtain ⟨rs, h1, h2, _, hs⟩ := h
  obtain ⟨ua, un, uc, rfl, uo, uw, ub, ur⟩ := h1
  obtain ⟨ta, tn, tc, rfl, to, tt, tr, trr⟩ := h2
  obtain ⟨hs0, hsr⟩ := hs
  have b0 : Below w.heap.size w (w.alloc (.cells #[.slice ua un uc, .slice ta tn tc] 33)) := (Below.refl w.heap.size w).alloc (Nat.le_refl _) _
  have hlt : ∀ x, ua = some x → w.heap.size ≠ x.block := fun x hx => by have := own_block uo x hx; omega
  have HLT : Hid (∀ x, ua = some x → w.heap.size ≠ x.block) := hlt
  have UO : Hid ((w.alloc (.cells #[.slice ua un uc, .slice ta tn tc] 33)).ownsRow lo 3 1 (.slice ua un uc) un (ints .i64 r.1)) := own_below uo b0
  have TO : Hid (OwnLs (w.alloc (.cells #[.slice ua un uc, .slice ta tn tc] 33)) lo ta tn tc rs) := to.below b0
  have B0 : Hid (Below w.heap.size w (w.alloc (.cells #[.slice ua un uc, .slice ta tn tc] 33))) := b0
  have UR : Hid (∀ x, ua = some x → lo ≤ x.block ∧ x.block < hi) := ur
  have TR : Hid (∀ x, ta = some x → lo ≤ x.block ∧ x.block < hi) := tr
  have TRR : Hid (∀ r ∈ rs, ∀ x, r.a = some x → lo ≤ x.block ∧ x.block < hi) := trr
  have S0 : Hid (Far ua ta) := hs0
  have SR : Hid (∀ r ∈ rs, Far ua r.a) := hsr
  have TT : Hid (totalL rs ≤ 1048576) := tt
  have TL : Hid (rs.length = tn) := to.len
  clear b0 hlt uo to ur tr trr hs0 hsr tt uw
  go_enter Try.func65, Try.ntmps65
  go_wp2_with fail
  refine (Ints.markIntS ua un uc r.1 k lo _ UO.out ub hk0 (by omega)).mono ?_
  rintro e w1 ⟨rfl, ho1, ht1⟩
  have p1 : w1.cell? ⟨w.heap.size, 1, none⟩ = some (.slice ta tn tc) := by rw [ht1.cell (by simp) HLT.out]; go_simp
  have UM : Hid (w1.ownsRow lo 3 1 (.slice ua un uc) un (ints .i64 (marks k un))) := ho1
  have TM : Hid (OwnLs w1 lo ta tn tc rs) := ownLs_touch TO.out ht1 S0.out SR.out
  have K1 : Hid (Keeps lo hi w w1) := keeps_trans (Keeps.of_below B0.out) (Keeps.of_only ht1 UR.out)
  clear ho1 ht1
  go_wp2_with fail
  refine (markIntSS ta tn tc rs (k + (un : Int)) lo _ TM.out (by have := (small_ls TT.out).1; rw [TL.out] at this; exact this) (small_ls TT.out).2 (by omega) (by have := TT.out; omega)).mono ?_
  rintro e w2 ⟨rfl, ho2, ht2⟩
  have U2 : Hid (w2.ownsRow lo 3 1 (.slice ua un uc) un (ints .i64 (marks k un))) := own_only_in UM.out ht2 SR.out
  have T2 : Hid (OwnLs w2 lo ta tn tc (lmarks (k + (un : Int)) rs)) := ho2
  have K2 : Hid (Keeps lo hi w w2) := keeps_trans K1.out ⟨ht2.os, ht2.tape, ht2.output, ht2.size, fun i hi' hne => ht2.block i hi' (fun r h' x hx => by have := TRR.out r h' x hx; omega)⟩
  have HN : Hid (0 ≤ lnext (k + (un : Int)) rs ∧ lnext (k + (un : Int)) rs ≤ k + 8000000) := by
    have h1 := sumL_nonneg rs
    have h2 := TT.out
    show _ ∧ _
    unfold lnext
    unfold totalL at h2
    omega
  have HM : Hid (totalL (lmarks (k + (un : Int)) rs) = totalL rs) := by
    have hq : ∀ (k : Int) (l : List LV), sumL (lmarks k l) = sumL l := by
      intro k l
      induction l generalizing k with
      | nil => rfl
      | cons x l ih =>
        simp only [lmarks, sumL, List.map_cons, List.sum_cons] at *
        rw [ih]
    show _ = _
    unfold totalL
    rw [lmarks_length, hq]
  clear ho2 ht2 p1
  go_wp2
  go_ret
  refine ⟨_, rfl, HN.out.1, HN.out.2, ⟨un, rs, ⟨ua, un, uc, rfl, U2.out, marks_wf k un hk0 (by omega), ub, UR.out⟩, ⟨ta, tn, tc, rfl, T2.out, by rw [HM.out]; exact TT.out, TR.out, fun r' h' x hx => ?_⟩, TT.out, rfl, hk0, hk1, ub, S0.out, fun r' h' => ?_⟩, K2.out⟩
  · obtain ⟨s, hs', e⟩ := lmarks_mem h'
    exact TRR.out s hs' x (e.trans hx)
  · obtain ⟨s, hs', e⟩ := lmarks_mem h'
    have := SR.out s hs'
    rw [e] at this
    exact this

set_option maxHeartbeats 800000 in
theorem q_held (u t : Value) (lo hi : Nat) (k nx : Int) (w : World) (h : QMarked w lo hi u t k nx) :
    Calls Try.prog 72 #[.agg #[u, t], .int .i64 k] w fun e w' => e = .returned (.int .i64 nx) ∧ Below w.heap.size w w' := by
  obtain ⟨n, rs, h1, h2, tt, rfl, hk0, hk1, hn, _⟩ := h
  obtain ⟨ua, un, uc, rfl, uo, uw, ub, ur⟩ := h1
  obtain ⟨ta, tn, tc, rfl, to, _, tr, trr⟩ := h2
  have hnm : n = un := by have := uo.1; rw [ints_length, marks_length] at this; omega
  subst hnm
  obtain ⟨a', c', e, hr⟩ := isRow_own uo uw
  cases e
  have b0 : Below w.heap.size w (w.alloc (.cells #[.slice ua n uc, .slice ta tn tc] 33)) := (Below.refl w.heap.size w).alloc (Nat.le_refl _) _
  have HR : Hid (IsRow .i64 (w.alloc (.cells #[.slice ua n uc, .slice ta tn tc] 33)) ua n uc (marks k n)) := IsRow.below hr b0
  have HT : Hid (IsLs (w.alloc (.cells #[.slice ua n uc, .slice ta tn tc] 33)) ta tn tc (lmarks (k + (n : Int)) rs)) := to.isLs.below b0
  have B0 : Hid (Below w.heap.size w (w.alloc (.cells #[.slice ua n uc, .slice ta tn tc] 33))) := b0
  have TT : Hid (totalL rs ≤ 1048576) := tt
  have TL : Hid (rs.length = tn) := by have := to.len; rwa [lmarks_length] at this
  have hz1 : ¬ k + (n : Int) < 0 := by omega
  have hz2 : ¬ lnext (k + (n : Int)) rs < 0 := by have h1 := sumL_nonneg rs; unfold lnext; omega
  clear b0 uo to ur tr trr tt uw hr
  go_enter Try.func72, Try.ntmps72
  go_wp2_with fail
  refine (Ints.heldIntS _ _ _ k _ HR.out ub hk0 (by omega)).mono ?_
  rintro e w1 ⟨rfl, rfl⟩
  go_wp2_with fail
  refine (heldIntSS ta tn tc rs (k + (n : Int)) _ HT.out (by have := (small_ls TT.out).1; rw [TL.out] at this; exact this) (small_ls TT.out).2 (by omega) (by have := TT.out; omega)).mono ?_
  rintro e w1 ⟨rfl, rfl⟩
  generalize hK : lnext (k + (n : Int)) rs = K at hz2
  have HK : Hid (lnext (k + (n : Int)) rs = K) := hK
  clear hK
  go_wp2
  go_ret
  exact ⟨Ints.ret_int HK.out.symm, B0.out⟩

theorem q_to6 (u t : Value) (r : Rl) (w : World) (h : QIs w u t r) :
    Calls Try.prog 60 #[.agg #[u, t]] w fun e w' => ∃ ua un uc ta tn tc, e = .returned (.agg #[.slice ua un uc, .slice ta tn tc]) ∧ QOwn w' w.heap.size w'.heap.size (.slice ua un uc) (.slice ta tn tc) r ∧ Below w.heap.size w w' := by
  refine (q_to u t r w h).mono ?_
  rintro e w' ⟨u', t', rfl, ho, hb⟩
  obtain ⟨ua, un, uc, rfl⟩ := iIs_slice (qOwn_is ho).1
  obtain ⟨ta, tn, tc, rfl⟩ := lIs_slice (qOwn_is ho).2
  exact ⟨ua, un, uc, ta, tn, tc, rfl, ho, hb⟩


end Go.Proofs.Ythhldnlbneamiaa.Krl
