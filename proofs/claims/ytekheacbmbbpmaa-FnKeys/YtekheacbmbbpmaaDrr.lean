/-
  What chapter 3's drawn relations may be: a relation, or one whose first tuple stands there twice; which ones nothing asks.
-/
import Derived.Test.YtekheacbmbbpmaaDdp
import Derived.Test.YtekheacbmbbpmaaSd
import Derived.Deep.AppendLies
namespace Go.Proofs.Ytekheacbmbbpmaa.Drr
open Go.RowKit
open Go.Proofs.Ytekheacbmbbpmaa.Frame Go.Proofs.Ytekheacbmbbpmaa.Mem Go.Proofs.Ytekheacbmbbpmaa.Ints Go.Proofs.Ytekheacbmbbpmaa.Kep Go.Proofs.Ytekheacbmbbpmaa.Lls Go.Proofs.Ytekheacbmbbpmaa.Mis Go.Proofs.Ytekheacbmbbpmaa.Krl Go.Proofs.Ytekheacbmbbpmaa.Cur Go.Proofs.Ytekheacbmbbpmaa.Draw1 Go.Proofs.Ytekheacbmbbpmaa.Ddp
open Go.Proofs.Ytekheacbmbbpmaa.Sc (own_kept own_far)
open Go.Proofs.Ytekheacbmbbpmaa.Told
open Go.Proofs.Ytekheacbmbbpmaa.Knl hiding Ll
open Go.Proofs.Ytekheacbmbbpmaa.Rel

theorem intNe : (3 : TypeId) ≠ 34 := by decide
theorem infoS : (Try.prog.info? 34).map (fun i => (i.zero, i.size, i.bytes)) = some (some (.slice none 0 0), 1, 24) := by kernel_rfl
theorem ls_push {W W' : World} {base m c c' : Nat} {a a' : Option Addr} {rs : List LV} {r : LV} (h : OwnLs W base a m c rs) (hr : W.ownsRow base 3 1 (.slice r.a r.n r.c) r.n (ints .i64 r.zs)) (hw : ∀ z ∈ r.zs, (Lit.int .i64 z).wf = true) (hf : ∀ s ∈ rs, Far s.a r.a)
    (hg : W.grownBy W' (Value.slice a m c).ownBlock) (ho : W'.ownsRow base 34 1 (.slice a' (m + 1) c') (m + 1) (lcells (rs ++ [r]))) : OwnLs W' base a' (m + 1) c' (rs ++ [r]) := by
  have kept : ∀ s ∈ rs ++ [r], W'.ownsRow base 3 1 (.slice s.a s.n s.c) s.n (ints .i64 s.zs) := fun s hs => by
    rcases List.mem_append.1 hs with hs | hs
    · exact own_kept (h.inner s hs) h.outer intNe hg
    · rw [List.mem_singleton.1 hs]; exact own_kept hr h.outer intNe hg
  refine ⟨ho, kept, fun s hs => ?_, ?_, fun s hs => Far.symm (own_far (kept s hs) ho intNe)⟩
  · rcases List.mem_append.1 hs with hs | hs
    · exact h.wf s hs
    · rw [List.mem_singleton.1 hs]; exact hw
  · rw [List.pairwise_append]
    refine ⟨h.apart, List.pairwise_singleton _ _, fun s hs t ht => ?_⟩
    rw [List.mem_singleton.1 ht]
    exact hf s hs
theorem ls_moved {b : Nat} {t : Int} {w w' : World} {base : Nat} {a : Option Addr} {n c : Nat} {rs : List LV} (h : OwnLs w base a n c rs) (hb : b < base) (m : Moved b t w w') : OwnLs w' base a n c rs :=
  Krl.ownLs_touch h m.2 (fun x y hx hy => by cases hx; have := (own_block h.outer y hy).1; show b ≠ y.block; omega) (fun r hr x y hx hy => by cases hx; have := (own_block (h.inner r hr) y hy).1; show b ≠ y.block; omega)

/-- A relation all of whose memory lies in [lo, hi); its tuples may share it. -/
def QIn (w : World) (lo hi : Nat) (u t : Value) (r : Rl) : Prop :=
  ∃ (a : Option Addr) (n c : Nat) (a' : Option Addr) (n' c' : Nat) (rs : List LV), u = .slice a n c ∧ t = .slice a' n' c' ∧ IsRow .i64 w a n c r.1 ∧ n ≤ 1048576 ∧ IsLs w a' n' c' rs ∧ lplain rs = r.2 ∧ totalL rs ≤ 1048576 ∧
    (∀ x, a = some x → lo ≤ x.block ∧ x.block < hi) ∧ (∀ x, a' = some x → lo ≤ x.block ∧ x.block < hi) ∧ ∀ s ∈ rs, ∀ x, s.a = some x → lo ≤ x.block ∧ x.block < hi
theorem qIn_is {w : World} {lo hi : Nat} {u t : Value} {r : Rl} (h : QIn w lo hi u t r) : QIs w u t r := by
  obtain ⟨a, n, c, a', n', c', rs, rfl, rfl, h1, h2, h3, h4, h5, _⟩ := h
  exact ⟨⟨a, n, c, rfl, h1, h2⟩, ⟨a', n', c', rs, rfl, h3, h4, h5⟩⟩
theorem qIn_touch {w w' : World} {lo hi b : Nat} {u t : Value} {r : Rl} (h : QIn w lo hi u t r) (m : OnlyAt (some ⟨b, 0, none⟩) w w') (hb : b < lo ∨ hi ≤ b) : QIn w' lo hi u t r := by
  obtain ⟨a, n, c, a', n', c', rs, hu, ht, h1, h2, h3, h4, h5, k1, k2, k3⟩ := h
  refine ⟨a, n, c, a', n', c', rs, hu, ht, isRow_touch h1 m (fun x y hx hy => by cases hy; have := k1 x hx; show x.block ≠ b; omega), h2, ⟨h3.len, h3.fits, h3.max, fun s hs => isRow_touch (h3.rows s hs) m (fun x y hx hy => by cases hy; have := k3 s hs x hx; show x.block ≠ b; omega), fun h0 => ?_⟩, h4, h5, k1, k2, k3⟩
  obtain ⟨g, off, ha, hlt, hc⟩ := h3.cells h0
  have := k2 _ ha
  refine ⟨g, off, ha, Nat.lt_of_lt_of_le hlt m.size, fun i hi' => ?_⟩
  have hk : w'.heap[g]? = w.heap[g]? := m.block g hlt (fun y hy => by cases hy; show g ≠ b; simp only at this; omega)
  rw [World.cell?_of_block hk]
  exact hc i hi'
theorem qIn_own {w : World} {lo hi : Nat} {u t : Value} {r : Rl} (h : QOwn w lo hi u t r) : QIn w lo hi u t r := by
  obtain ⟨rs, ⟨a, n, c, rfl, h1, hw, hn, hx⟩, ⟨a', n', c', rfl, ho, ht, hx', hr⟩, hp, _⟩ := h
  obtain ⟨_, _, e, hv⟩ := isRow_own h1 hw
  cases e
  exact ⟨a, n, c, a', n', c', rs, rfl, rfl, hv, hn, ho.isLs, hp, ht, hx, hx', hr⟩
theorem qIn_wide {w : World} {lo hi lo' hi' : Nat} {u t : Value} {r : Rl} (h : QIn w lo hi u t r) (h1 : lo' ≤ lo) (h2 : hi ≤ hi') : QIn w lo' hi' u t r := by
  obtain ⟨a, n, c, a', n', c', rs, hu, ht, k1, k2, k3, k4, k5, k6, k7, k8⟩ := h
  exact ⟨a, n, c, a', n', c', rs, hu, ht, k1, k2, k3, k4, k5, fun x hx => by have := k6 x hx; omega, fun x hx => by have := k7 x hx; omega, fun s hs x hx => by have := k8 s hs x hx; omega⟩
theorem few_total {nn : Nat} {rs : List LV} (hl : rs.length ≤ 7) (hn : nn ≤ 10) (_h : ∀ r ∈ rs, r.zs.length = nn) : rs.length * (nn + 1) ≤ 1048576 := by
  have : rs.length * (nn + 1) ≤ 7 * 11 := Nat.mul_le_mul hl (by omega)
  omega

theorem shape_of {w : World} {base : Nat} {e : TypeId} {a : Option Addr} {n c : Nat} {xs : List Value} (h : w.ownsRow base e 1 (.slice a n c) n xs) : (n = 0 ∧ a = none ∧ c = 0) ∨ ∃ g, a = some ⟨g, 0, none⟩ := by
  rcases h.2 with ⟨hv, _⟩ | ⟨g, cap, cur, hv, _⟩
  · simp only [Value.slice.injEq] at hv
    exact .inl ⟨hv.2.1, hv.1, hv.2.2⟩
  · simp only [Value.slice.injEq] at hv
    exact .inr ⟨g, hv.1⟩

theorem few_tell {ns : List Int} {ts : Rel.Ll} : ltotal (tellV ns ts).2 ≤ 1000 ∧ ∀ z ∈ (tellV ns ts).2, z.length ≤ 6 := by
  unfold tellV
  by_cases h : goodR ns (Rpu.tellL ts) = true
  · rw [if_pos h]
    have g := good_iff.1 h
    have hw : ∀ z ∈ Rpu.tellL ts, z.length ≤ 6 := fun z hz => by rw [g.wide z hz]; exact g.few
    refine ⟨?_, hw⟩
    have : ∀ (l : Rel.Ll), (∀ z ∈ l, z.length ≤ 6) → (l.map fun x => (x.length : Int)).sum ≤ (l.length : Int) * 6 := by
      intro l
      induction l with
      | nil => intro _; simp
      | cons g l ih =>
        intro h
        have h1 := ih (fun g hg => h g (by simp [hg]))
        have h2 := h g (by simp)
        simp only [List.map_cons, List.sum_cons, List.length_cons] at *
        omega
    have h1 := this _ hw
    have h2 := g.most
    show ltotal (Rpu.tellL ts) ≤ 1000
    unfold ltotal
    omega
  · rw [if_neg h]
    exact ⟨by decide, fun z hz => by cases hz⟩

theorem sum_nonneg (l : Rel.Ll) : 0 ≤ (l.map fun x => (x.length : Int)).sum := by
  induction l with
  | nil => simp
  | cons x l ih => simp only [List.map_cons, List.sum_cons]; omega

/-- A list of tuples grows by one that it has already. -/
theorem dup {A w9 : World} {lo hi k8 g tn tc g9 c9 : Nat} {u : Value} {ns : List Int} {s0 : LV} {rest : List LV} {x : Value} (hI : IOwn A lo hi u ns) (hO : OwnLs A lo (some ⟨g, 0, none⟩) tn tc (s0 :: rest)) (hg : lo ≤ g ∧ g < hi) (hf : Far (addrOf u) (some ⟨g, 0, none⟩))
    (hr : ∀ s ∈ s0 :: rest, ∀ x, s.a = some x → lo ≤ x.block ∧ x.block < hi) (hk : hi ≤ k8) (hkA : k8 < A.heap.size) (ht : ltotal (lplain (s0 :: rest)) ≤ 1000) (h6 : s0.zs.length ≤ 6)
    (hgr : A.grownBy w9 (Value.slice (some ⟨g, 0, none⟩) tn tc).ownBlock) (ho : w9.ownsRow lo 34 1 (.slice (some ⟨g9, 0, none⟩) (tn + 1) c9) (tn + 1) (lcells ((s0 :: rest) ++ [s0]))) (hat : (Value.slice (some ⟨g, 0, none⟩) tn tc).ownBlock = some g9 ∨ g9 = A.heap.size) :
    QIn (w9.setCell ⟨k8, 1, none⟩ x) lo (w9.setCell ⟨k8, 1, none⟩ x).heap.size u (.slice (some ⟨g9, 0, none⟩) (tn + 1) c9) (ns, lplain ((s0 :: rest) ++ [s0])) := by
  obtain ⟨a, n, c, rfl, hown, hw, hn, hx⟩ := hI
  have og := Sc.only_grown hgr
  have hne9 : g9 ≠ k8 := by
    rcases hat with h | h
    · simp [Value.ownBlock] at h; omega
    · omega
  have hg9 : lo ≤ g9 ∧ g9 < w9.heap.size := by have := own_block ho _ rfl; exact this
  have hsz := hgr.size
  have K : OnlyAt (some ⟨k8, 0, none⟩) w9 (w9.setCell ⟨k8, 1, none⟩ x) := (OnlyAt.refl _ w9).setCell (fun y hy => by cases hy; rfl) (by simp) _
  have hs : (w9.setCell ⟨k8, 1, none⟩ x).heap.size = w9.heap.size := by simp [World.setCell]
  have i1 : w9.ownsRow lo 3 1 (.slice a n c) n (ints .i64 ns) := own_touch hown og (fun y z hy hz => by cases hz; exact hf y _ hy rfl)
  have i2 : (w9.setCell ⟨k8, 1, none⟩ x).ownsRow lo 3 1 (.slice a n c) n (ints .i64 ns) := own_touch i1 K (fun y z hy hz => by cases hz; have := hx y hy; show y.block ≠ k8; omega)
  have mem : ∀ s ∈ (s0 :: rest) ++ [s0], s ∈ s0 :: rest := fun s hs => by
    rcases List.mem_append.1 hs with h | h
    · exact h
    · rw [List.mem_singleton.1 h]; simp
  have t1 : ∀ s ∈ (s0 :: rest) ++ [s0], (w9.setCell ⟨k8, 1, none⟩ x).ownsRow lo 3 1 (.slice s.a s.n s.c) s.n (ints .i64 s.zs) := fun s hs => by
    have hm := mem s hs
    refine own_touch (own_kept (hO.inner s hm) hO.outer intNe hgr) K (fun y z hy hz => by cases hz; have := hr s hm y hy; show y.block ≠ k8; omega)
  have o2 : (w9.setCell ⟨k8, 1, none⟩ x).ownsRow lo 34 1 (.slice (some ⟨g9, 0, none⟩) (tn + 1) c9) (tn + 1) (lcells ((s0 :: rest) ++ [s0])) := own_touch ho K (fun y z hy hz => by cases hy; cases hz; exact hne9)
  have rows : ∀ s ∈ (s0 :: rest) ++ [s0], IsRow .i64 (w9.setCell ⟨k8, 1, none⟩ x) s.a s.n s.c s.zs := fun s hs => by
    obtain ⟨_, _, e, hv⟩ := isRow_own (t1 s hs) (hO.wf s (mem s hs))
    cases e
    exact hv
  obtain ⟨_, _, e, hv⟩ := isRow_own i2 hw
  cases e
  refine ⟨_, _, _, _, _, _, (s0 :: rest) ++ [s0], rfl, rfl, hv, hn, isLs_outer o2 rows, rfl, ?_, fun y hy => own_block i2 y hy, fun y hy => own_block o2 y hy, fun s hs y hy => own_block (t1 s hs) y hy⟩
  have hl : ∀ s ∈ (s0 :: rest) ++ [s0], s.zs.length = s.n := fun s hs => by
    have := (t1 s hs).1
    rw [ints_length] at this
    omega
  rw [total_lplain hl]
  have e : ltotal (lplain ((s0 :: rest) ++ [s0])) = ltotal (lplain (s0 :: rest)) + 1 + (s0.zs.length : Int) := by
    unfold ltotal lplain
    simp
    omega
  rw [e]
  omega

/-- What is known of the result's box, as long as only the reader moves. -/
theorem box4 {w X : World} {b : Nat} {t : Int} (hb : b < w.heap.size) (m : Moved b t (w.alloc (.cells #[.slice none 0 0, .slice none 0 0] 42)) X) : (X.cell? ⟨w.heap.size, 0, none⟩ = some (.slice none 0 0) ∧ X.cell? ⟨w.heap.size, 1, none⟩ = some (.slice none 0 0)) ∧ X.frozen? ⟨w.heap.size, 0, none⟩ = false ∧ X.frozen? ⟨w.heap.size, 1, none⟩ = false := by
  have hk : X.heap[w.heap.size]? = (w.alloc (.cells #[.slice none 0 0, .slice none 0 0] 42)).heap[w.heap.size]? := m.2.block w.heap.size (by simp) (fun y hy => by cases hy; show w.heap.size ≠ b; omega)
  refine ⟨⟨(World.cell?_of_block hk).trans ?_, (World.cell?_of_block hk).trans ?_⟩, (World.frozen?_of_block hk).trans ?_, (World.frozen?_of_block hk).trans ?_⟩
  · rw [World.cell?_alloc_at _ _ _ _ rfl]; rfl
  · rw [World.cell?_alloc_at _ _ _ _ rfl]; rfl
  · exact World.frozen?_alloc_at _ _ _ _ rfl
  · exact World.frozen?_alloc_at _ _ _ _ rfl
/-- The relation is stored as the result. -/
theorem fin {w X : World} {b lo hi : Nat} {t : Int} {u v : Value} {r : Rl} (hb : b < w.heap.size) (m : Moved b t (w.alloc (.cells #[.slice none 0 0, .slice none 0 0] 42)) X) (q : QIn X lo hi u v r) (hlo : w.heap.size < lo) (hhi : hi ≤ X.heap.size) :
    QIn ((X.setCell ⟨w.heap.size, 0, none⟩ u).setCell ⟨w.heap.size, 1, none⟩ v) w.heap.size ((X.setCell ⟨w.heap.size, 0, none⟩ u).setCell ⟨w.heap.size, 1, none⟩ v).heap.size u v r ∧ Moved b t w ((X.setCell ⟨w.heap.size, 0, none⟩ u).setCell ⟨w.heap.size, 1, none⟩ v) ∧
      ((X.setCell ⟨w.heap.size, 0, none⟩ u).setCell ⟨w.heap.size, 1, none⟩ v).cell? ⟨w.heap.size, 0, none⟩ = some u ∧ ((X.setCell ⟨w.heap.size, 0, none⟩ u).setCell ⟨w.heap.size, 1, none⟩ v).cell? ⟨w.heap.size, 1, none⟩ = some v := by
  have k := box4 hb m
  have K : ∀ (W : World) (o : Nat) (x : Value), OnlyAt (some ⟨w.heap.size, 0, none⟩) W (W.setCell ⟨w.heap.size, o, none⟩ x) := fun W o x => (OnlyAt.refl _ W).setCell (fun y hy => by cases hy; rfl) (by simp) _
  have hs : ((X.setCell ⟨w.heap.size, 0, none⟩ u).setCell ⟨w.heap.size, 1, none⟩ v).heap.size = X.heap.size := by simp [World.setCell]
  have M : Moved b t w X := ⟨m.1, (OnlyAt.of_below (below_alloc _ _)).trans m.2⟩
  refine ⟨qIn_wide (qIn_touch (qIn_touch q (K _ 0 _) (Or.inl hlo)) (K _ 1 _) (Or.inl hlo)) (by omega) (by rw [hs]; exact hhi), Moved.upon M hb (((Below.refl _ _).setCell (p := ⟨w.heap.size, 0, none⟩) (Nat.le_refl _) _).setCell (p := ⟨w.heap.size, 1, none⟩) (Nat.le_refl _) _), ?_, ?_⟩
  · rw [World.cell?_setCell_other _ _ _ _ (by simp)]; exact World.cell?_setCell_same _ _ _ k.1.1
  · exact World.cell?_setCell_same _ _ _ ((World.cell?_setCell_other _ _ _ _ (by simp)).trans k.1.2)

/-- A drawn relation. -/
def RelD (b : Nat) (t : Int) (w : World) (e : Ending) (w' : World) : Prop := ∃ (ua : Option Addr) (un uc : Nat) (ta : Option Addr) (tn tc : Nat) (r : Rl), e = .returned (.agg #[.slice ua un uc, .slice ta tn tc]) ∧ QIn w' w.heap.size w'.heap.size (.slice ua un uc) (.slice ta tn tc) r ∧ Moved b (t + 250) w w'

set_option maxRecDepth 100000 in
set_option maxHeartbeats 6400000 in
theorem relation (b : Nat) (t : Int) (na : Option Addr) (nn nc : Nat) (ns : List Int) (w : World) (h : Is b t w) (ht : t ≤ 600000) (hN : IsRow .i64 w na nn nc ns) (hnn : nn ≤ 10) (hne : ∀ x, na = some x → x.block ≠ b) :
    Calls Try.prog 34 #[.pointer (some ⟨b, 0, none⟩), .slice na nn nc] w (RelD b t w) := by
  obtain ⟨i1, hi1, hy0, hy1, hy2⟩ := info_parts Ints.info
  obtain ⟨i0, hi, hz0, hz1, hz2⟩ := info_parts infoS
  have hbl := h.lt
  have hV : (w.alloc (.cells #[.slice none 0 0, .slice none 0 0] 42)).heap.size = w.heap.size + 1 := by simp
  have hbV : b < (w.alloc (.cells #[.slice none 0 0, .slice none 0 0] 42)).heap.size := by omega
  have BV : Hid (Below w.heap.size w (w.alloc (.cells #[.slice none 0 0, .slice none 0 0] 42))) := (Below.refl _ _).alloc (Nat.le_refl _) _
  have M0 : Hid (Moved b t (w.alloc (.cells #[.slice none 0 0, .slice none 0 0] 42)) (w.alloc (.cells #[.slice none 0 0, .slice none 0 0] 42))) := ⟨h.below BV.out, OnlyAt.refl _ _⟩
  have NV : Hid (IsRow .i64 (w.alloc (.cells #[.slice none 0 0, .slice none 0 0] 42)) na nn nc ns) := IsRow.below hN BV.out
  have HNE : Hid (∀ x, na = some x → x.block ≠ b) := hne
  have NAT : ∀ (tt : Int) (wr : World), Moved b tt (w.alloc (.cells #[.slice none 0 0, .slice none 0 0] 42)) wr → IsRow .i64 wr na nn nc ns := fun tt wr m => isRow_touch NV.out m.2 (fun x y hx hy => by cases hy; exact HNE.out x hx)
  have NAT' : Hid (∀ (tt : Int) (wr : World), Moved b tt (w.alloc (.cells #[.slice none 0 0, .slice none 0 0] 42)) wr → IsRow .i64 wr na nn nc ns) := NAT
  have CV : Hid (((w.alloc (.cells #[.slice none 0 0, .slice none 0 0] 42)).cell? ⟨w.heap.size, 0, none⟩ = some (.slice none 0 0) ∧ (w.alloc (.cells #[.slice none 0 0, .slice none 0 0] 42)).cell? ⟨w.heap.size, 1, none⟩ = some (.slice none 0 0)) ∧ (w.alloc (.cells #[.slice none 0 0, .slice none 0 0] 42)).frozen? ⟨w.heap.size, 0, none⟩ = false ∧ (w.alloc (.cells #[.slice none 0 0, .slice none 0 0] 42)).frozen? ⟨w.heap.size, 1, none⟩ = false) := ⟨⟨by rw [World.cell?_alloc_at _ _ _ _ rfl]; rfl, by rw [World.cell?_alloc_at _ _ _ _ rfl]; rfl⟩, World.frozen?_alloc_at _ _ _ _ rfl, World.frozen?_alloc_at _ _ _ _ rfl⟩
  clear h hN hne NAT
  go_enter Try.func34, Try.ntmps34
  go_wp2_with fail
  refine (Cur.pick b t 8 _ M0.out.1 (by omega) (by omega) (by omega)).mono ?_
  rintro e w1 ⟨n0, rfl, hn0, hn1, hl1⟩
  have M1 : Hid (Moved b (t + 2) (w.alloc (.cells #[.slice none 0 0, .slice none 0 0] 42)) w1) := hl1
  obtain ⟨N, rfl⟩ : ∃ N : Nat, n0 = (N : Int) := ⟨n0.toNat, by omega⟩
  have hN7 : N ≤ 7 := by omega
  clear hl1 hn0 hn1 M0
  go_wp2_with fail
  have O1 : Hid (OwnLs w1 (w.alloc (.cells #[.slice none 0 0, .slice none 0 0] 42)).heap.size none 0 0 []) := ⟨World.ownsRow_nil _ _ _ _, fun r hr => (by cases hr), fun r hr => (by cases hr), List.Pairwise.nil, fun r hr => (by cases hr)⟩
  go_loopw [5, 6] (fun vl vq wr => ∃ (q k : Nat) (ga : Option Addr) (gc : Nat) (xs : List LV), q + k ≤ 7 ∧ vq = .int .i64 q ∧ vl = .slice ga k gc ∧ OwnLs wr (w.alloc (.cells #[.slice none 0 0, .slice none 0 0] 42)).heap.size ga k gc xs ∧ (∀ r ∈ xs, r.zs.length = nn) ∧ Moved b (t + 10 + 20 * k) (w.alloc (.cells #[.slice none 0 0, .slice none 0 0] 42)) wr) (fun _ vq _ => (intOf vq).toNat)
  case atStart => exact ⟨N, 0, none, 0, [], by omega, rfl, rfl, O1.out, fun r hr => (by cases hr), Moved.mono M1.out (by omega)⟩
  case round =>
    obtain ⟨q, k, ga, gc, xs, hqk, rfl, rfl, ho, hs, hm⟩ := hrel
    rename World => wk
    have HO : Hid (OwnLs wk (w.alloc (.cells #[.slice none 0 0, .slice none 0 0] 42)).heap.size ga k gc xs) := ho
    have HS : Hid (∀ r ∈ xs, r.zs.length = nn) := hs
    have HM : Hid (Moved b (t + 10 + 20 * k) (w.alloc (.cells #[.slice none 0 0, .slice none 0 0] 42)) wk) := hm
    clear ho hs hm O1
    by_cases hq0 : 0 < q
    · obtain ⟨p, rfl⟩ : ∃ p, q = p + 1 := ⟨q - 1, by omega⟩
      have hsk : (w.alloc (.cells #[.slice none 0 0, .slice none 0 0] 42)).heap.size ≤ wk.heap.size := HM.out.2.size
      have R4 : Hid (wk.ownsRow wk.heap.size 3 1 (.slice none 0 0) 0 (ints .i64 [])) := World.ownsRow_nil _ _ _ _
      have FAR4 : Hid (∀ s ∈ xs, ∀ x, s.a = some x → x.block < wk.heap.size) := fun s hs x hx => (own_block (HO.out.inner s hs) x hx).2
      go_wp2_with fail
      go_loopw [7, 18] (fun vr vi wr => ∃ (i rc : Nat) (ra : Option Addr) (zs : List Int), i ≤ nn ∧ vi = .int .i64 i ∧ vr = .slice ra i rc ∧ wr.ownsRow wk.heap.size 3 1 (.slice ra i rc) i (ints .i64 zs) ∧ (∀ z ∈ zs, (Lit.int .i64 z).wf = true) ∧ OwnLs wr (w.alloc (.cells #[.slice none 0 0, .slice none 0 0] 42)).heap.size ga k gc xs ∧ wk.heap.size ≤ wr.heap.size ∧ Moved b (t + 10 + 20 * k + 2 * i) (w.alloc (.cells #[.slice none 0 0, .slice none 0 0] 42)) wr) (fun _ vi _ => nn - (intOf vi).toNat)
      case atStart => exact ⟨0, 0, none, [], Nat.zero_le _, rfl, rfl, R4.out, fun z hz => (by cases hz), HO.out, Nat.le_refl _, Moved.mono HM.out (by omega)⟩
      case round =>
        obtain ⟨i, rc, ra, zs, hin, rfl, rfl, hr, hw, ho, hsz0, hm⟩ := hrel
        rename World => wq
        have RR : Hid (wq.ownsRow wk.heap.size 3 1 (.slice ra i rc) i (ints .i64 zs)) := hr
        have WF : Hid (∀ z ∈ zs, (Lit.int .i64 z).wf = true) := hw
        have OQ : Hid (OwnLs wq (w.alloc (.cells #[.slice none 0 0, .slice none 0 0] 42)).heap.size ga k gc xs) := ho
        have SZ : Hid (wk.heap.size ≤ wq.heap.size) := hsz0
        have MQ : Hid (Moved b (t + 10 + 20 * k + 2 * i) (w.alloc (.cells #[.slice none 0 0, .slice none 0 0] 42)) wq) := hm
        clear hr hw ho hm hsz0 R4
        by_cases hlt : i < nn
        · go_wp2_with fail
          refine (Cur.pick b _ 3 _ MQ.out.1 (by omega) (by omega) (by omega)).mono ?_
          rintro e w5 ⟨x, rfl, hx0, hx1, hl5⟩
          have M5 : Hid (Moved b (t + 10 + 20 * k + 2 * ((i + 1 : Nat) : Int)) (w.alloc (.cells #[.slice none 0 0, .slice none 0 0] 42)) w5) := Moved.mono (MQ.out.next hl5) (by omega)
          have R5 : Hid (w5.ownsRow wk.heap.size 3 1 (.slice ra i rc) i (ints .i64 zs)) := own_moved RR.out (by omega) hl5
          have O5 : Hid (OwnLs w5 (w.alloc (.cells #[.slice none 0 0, .slice none 0 0] 42)).heap.size ga k gc xs) := ls_moved OQ.out hbV hl5
          have XW : Hid ((Lit.int .i64 x).wf = true) := int_wf _ (by omega) (by omega)
          have Z5 : Hid (wk.heap.size ≤ w5.heap.size) := Nat.le_trans SZ.out hl5.2.size
          clear hl5 RR OQ MQ SZ
          have M6 : Hid (Moved b (t + 10 + 20 * k + 2 * ((i + 1 : Nat) : Int)) (w.alloc (.cells #[.slice none 0 0, .slice none 0 0] 42)) (w5.alloc (.cells #[.int .i64 x] 3))) := Moved.upon M5.out hbV ((Below.refl _ _).alloc M5.out.2.size _)
          have R6 : Hid ((w5.alloc (.cells #[.int .i64 x] 3)).ownsRow wk.heap.size 3 1 (.slice ra i rc) i (ints .i64 zs)) := own_below R5.out ((Below.refl _ _).alloc (Nat.le_refl _) _)
          have O6 : Hid (OwnLs (w5.alloc (.cells #[.int .i64 x] 3)) (w.alloc (.cells #[.slice none 0 0, .slice none 0 0] 42)).heap.size ga k gc xs) := O5.out.below ((Below.refl _ _).alloc (Nat.le_refl _) _)
          have HS6 : Hid (wk.heap.size ≤ (w5.alloc (.cells #[.int .i64 x] 3)).heap.size) := Nat.le_trans Z5.out (by simp)
          have NEW6 : Hid (0 < 1 → ∃ ad, (some ⟨w5.heap.size, 0, none⟩ : Option Addr) = some ad ∧ ∀ j u, ([.int .i64 x] : List Value)[j]? = some u → (w5.alloc (.cells #[.int .i64 x] 3)).cell? (ad.add j) = some u) := news_one w5 _ _
          clear M5 R5 O5 Z5
          go_wp2_with (at_builtin; refine App.wpList_append_all _ rfl _ _ 34 rfl wk.heap.size 3 i1 (.int .i64 0) 1 8 Try.underlying34 hi1 hy0 hy1 hy2 rfl (by decide) _ i _ rfl R6.out _ 1 _ [.int .i64 x] rfl rfl NEW6.out (by simp [Value.oneCell']) (by unfold maxLen; omega) (by omega) HS6.out ?_)
          intro a7 c7 w7 hown7 hgrow7
          have B7 : Below wk.heap.size (w5.alloc (.cells #[.int .i64 x] 3)) w7 := below_app (Below.refl _ _) R6.out hgrow7 HS6.out (Nat.le_refl _)
          have M7 : Hid (Moved b (t + 10 + 20 * k + 2 * ((i + 1 : Nat) : Int)) (w.alloc (.cells #[.slice none 0 0, .slice none 0 0] 42)) w7) := Moved.upon M6.out hbV (B7.mono hsk)
          have R7 : Hid (w7.ownsRow wk.heap.size 3 1 (.slice a7 (i + 1) c7) (i + 1) (ints .i64 (zs ++ [x]))) := by rw [show ints .i64 (zs ++ [x]) = ints .i64 zs ++ [.int .i64 x] by simp [ints]]; exact hown7
          have O7 : Hid (OwnLs w7 (w.alloc (.cells #[.slice none 0 0, .slice none 0 0] 42)).heap.size ga k gc xs) := ⟨own_kept O6.out.outer R6.out intNe.symm hgrow7, fun s hs => ?inner7, O6.out.wf, O6.out.apart, O6.out.apart0⟩
          case inner7 =>
            refine own_touch (O6.out.inner s hs) (Sc.only_grown hgrow7) (fun x y hx hy => ?_)
            have h1 := FAR4.out s hs x hx
            have h2 := (own_block R6.out y hy).1
            omega
          have Z7 : Hid (wk.heap.size ≤ w7.heap.size) := Nat.le_trans HS6.out B7.size
          have WF7 : Hid (∀ z ∈ zs ++ [x], (Lit.int .i64 z).wf = true) := fun z hz => by
            rcases List.mem_append.1 hz with hz | hz
            · exact WF.out z hz
            · rw [List.mem_singleton.1 hz]; exact XW.out
          clear hown7 hgrow7 B7 M6 R6 O6 HS6 NEW6
          go_wp2
          go_roundw
          case rel => exact ⟨_, _, _, _, _, _, _, _, _, ⟨i + 1, c7, a7, _, by omega, by go_num, rfl, R7.out, WF7.out, O7.out, Z7.out, M7.out⟩, rfl⟩
          case measure => simp [intOf]; omega
        · obtain rfl : i = nn := by omega
          have M7 : Hid (Moved b (t + 10 + 20 * ((k + 1 : Nat) : Int)) (w.alloc (.cells #[.slice none 0 0, .slice none 0 0] 42)) (wq.alloc (.cells #[.slice ra i rc] 34))) := Moved.upon (Moved.mono MQ.out (by omega)) hbV ((Below.refl _ _).alloc MQ.out.2.size _)
          have O7 : Hid (OwnLs (wq.alloc (.cells #[.slice ra i rc] 34)) (w.alloc (.cells #[.slice none 0 0, .slice none 0 0] 42)).heap.size ga k gc xs) := OQ.out.below ((Below.refl _ _).alloc (Nat.le_refl _) _)
          have R7 : Hid ((wq.alloc (.cells #[.slice ra i rc] 34)).ownsRow wk.heap.size 3 1 (.slice ra i rc) i (ints .i64 zs)) := own_below RR.out ((Below.refl _ _).alloc (Nat.le_refl _) _)
          have NEW7 : Hid (0 < 1 → ∃ ad, (some ⟨wq.heap.size, 0, none⟩ : Option Addr) = some ad ∧ ∀ j u, ([.slice ra i rc] : List Value)[j]? = some u → (wq.alloc (.cells #[.slice ra i rc] 34)).cell? (ad.add j) = some u) := news_one wq _ _
          have FAR7 : Hid (∀ s ∈ xs, Far s.a ra) := fun s hs x y hx hy => by
            have h1 := FAR4.out s hs x hx
            have h2 := (own_block R7.out y hy).1
            omega
          have HS7 : Hid ((w.alloc (.cells #[.slice none 0 0, .slice none 0 0] 42)).heap.size ≤ (wq.alloc (.cells #[.slice ra i rc] 34)).heap.size) := M7.out.2.size
          have HZL : Hid (zs.length = i) := by have h := RR.out.1; rw [ints_length] at h; show zs.length = i; omega
          go_wp2_with (at_builtin; refine App.wpList_append_all _ rfl _ _ 26 rfl (w.alloc (.cells #[.slice none 0 0, .slice none 0 0] 42)).heap.size 34 i0 (.slice none 0 0) 1 24 Try.underlying26 hi hz0 hz1 hz2 rfl (by decide) _ k _ rfl O7.out.outer _ 1 _ [.slice ra i rc] rfl rfl NEW7.out (by simp [Value.oneCell']) (by unfold maxLen; omega) (by omega) HS7.out ?_)
          intro a9 c9 w9 hown9 hgrow9
          have O9 : Hid (OwnLs w9 (w.alloc (.cells #[.slice none 0 0, .slice none 0 0] 42)).heap.size a9 (k + 1) c9 (xs ++ [⟨ra, i, rc, zs⟩])) := ls_push (r := ⟨ra, i, rc, zs⟩) O7.out (own_base R7.out hsk) WF.out FAR7.out hgrow9 (by rw [lcells_append, hV]; exact hown9)
          have B9 : Below (w.alloc (.cells #[.slice none 0 0, .slice none 0 0] 42)).heap.size (wq.alloc (.cells #[.slice ra i rc] 34)) w9 := below_app (Below.refl _ _) O7.out.outer hgrow9 HS7.out (Nat.le_refl _)
          have M9 : Hid (Moved b (t + 10 + 20 * ((k + 1 : Nat) : Int)) (w.alloc (.cells #[.slice none 0 0, .slice none 0 0] 42)) w9) := Moved.upon M7.out hbV B9
          have S9 : Hid (∀ r ∈ xs ++ [⟨ra, i, rc, zs⟩], r.zs.length = i) := fun r hr => by
            rcases List.mem_append.1 hr with hr | hr
            · exact HS.out r hr
            · rw [List.mem_singleton.1 hr]; exact HZL.out
          clear hown9 hgrow9 B9
          go_wp2
          go_roundw
          case rel => exact ⟨p, k + 1, a9, c9, _, by omega, by go_num, rfl, O9.out, S9.out, M9.out⟩
          case measure => simp [intOf]
    · obtain rfl : q = 0 := by omega
      have hmI : ¬ ((0 : Nat) : Int) > 0 := by omega
      have HXL : Hid (xs.length = k) := HO.out.len
      have TOT : Hid (k * (nn + 1) ≤ 1048576) := by have := few_total (rs := xs) (by rw [HXL.out]; omega) hnn HS.out; rw [HXL.out] at this; exact this
      go_wp2_with fail
      refine (Sd.spec_l3Tell na ga nn nc k gc nn ns xs _ (NAT'.out _ _ HM.out) HO.out.isLs (by omega) (by omega) (by omega) HS.out TOT.out).mono ?_
      rintro e w3 ⟨ua, un, uc, ta, tn, tc, rfl, hq3, hb3⟩
      obtain ⟨r, hr⟩ : ∃ r, r = Rel.tellV ns (lplain xs) := ⟨_, rfl⟩
      have GQ0 : Hid (Knl.ltotal r.2 ≤ 1000 ∧ ∀ z ∈ r.2, z.length ≤ 6) := by rw [hr]; exact few_tell
      rw [← hr] at hq3
      generalize Rel.tellG ns (lplain xs) = gg
      clear hr TOT
      have M3 : Hid (Moved b (t + 170) (w.alloc (.cells #[.slice none 0 0, .slice none 0 0] 42)) w3) := Moved.upon (Moved.mono HM.out (by omega)) hbV (hb3.mono HM.out.2.size)
      have Q3 : Hid (QOwn w3 wk.heap.size w3.heap.size (.slice ua un uc) (.slice ta tn tc) r) := hq3
      have Z3 : Hid ((w.alloc (.cells #[.slice none 0 0, .slice none 0 0] 42)).heap.size ≤ wk.heap.size ∧ wk.heap.size ≤ w3.heap.size) := ⟨HM.out.2.size, hb3.size⟩
      clear hq3 hb3 HO HS HM
      have M4 : Hid (Moved b (t + 170) (w.alloc (.cells #[.slice none 0 0, .slice none 0 0] 42)) (w3.alloc (.cells #[.slice ua un uc, .slice ta tn tc] 42))) := Moved.upon M3.out hbV ((Below.refl _ _).alloc M3.out.2.size _)
      have Q4 : Hid (QOwn (w3.alloc (.cells #[.slice ua un uc, .slice ta tn tc] 42)) wk.heap.size w3.heap.size (.slice ua un uc) (.slice ta tn tc) r) := Krl.qOwn_below Q3.out ((Below.refl _ _).alloc (Nat.le_refl _) _)
      have K4 : Hid (((w3.alloc (.cells #[.slice ua un uc, .slice ta tn tc] 42)).cell? ⟨w3.heap.size, 0, none⟩ = some (.slice ua un uc) ∧ (w3.alloc (.cells #[.slice ua un uc, .slice ta tn tc] 42)).cell? ⟨w3.heap.size, 1, none⟩ = some (.slice ta tn tc)) ∧ (w3.alloc (.cells #[.slice ua un uc, .slice ta tn tc] 42)).frozen? ⟨w3.heap.size, 0, none⟩ = false ∧ (w3.alloc (.cells #[.slice ua un uc, .slice ta tn tc] 42)).frozen? ⟨w3.heap.size, 1, none⟩ = false) := ⟨⟨by rw [World.cell?_alloc_at _ _ _ _ rfl]; rfl, by rw [World.cell?_alloc_at _ _ _ _ rfl]; rfl⟩, World.frozen?_alloc_at _ _ _ _ rfl, World.frozen?_alloc_at _ _ _ _ rfl⟩
      have k0 := K4.out.1.1
      have k1 := K4.out.1.2
      by_cases htn : 0 < tn
      · go_wp2_with fail
        refine (Cur.one b _ 30 _ M4.out.1 (by omega) (by omega) (by omega)).mono ?_
        rintro e w5 ⟨o5, rfl, hl5⟩
        have M5 : Hid (Moved b (t + 172) (w.alloc (.cells #[.slice none 0 0, .slice none 0 0] 42)) w5) := Moved.mono (M4.out.next hl5) (by omega)
        have Q5 : Hid (QOwn w5 wk.heap.size w3.heap.size (.slice ua un uc) (.slice ta tn tc) r) := Krl.qOwn_keeps Q4.out (Keeps.of_only (lo := b) (hi := b + 1) hl5.2 (fun x hx => by cases hx; exact ⟨Nat.le_refl _, Nat.lt_succ_self _⟩)) (Or.inr (by have := Z3.out; omega))
        have hblk : w5.heap[w3.heap.size]? = (w3.alloc (.cells #[.slice ua un uc, .slice ta tn tc] 42)).heap[w3.heap.size]? := hl5.2.block w3.heap.size (by simp) (fun y hy => by cases hy; show w3.heap.size ≠ b; have := Z3.out; omega)
        have K5 : Hid ((w5.cell? ⟨w3.heap.size, 0, none⟩ = some (.slice ua un uc) ∧ w5.cell? ⟨w3.heap.size, 1, none⟩ = some (.slice ta tn tc)) ∧ w5.frozen? ⟨w3.heap.size, 1, none⟩ = false) := ⟨⟨(World.cell?_of_block hblk).trans K4.out.1.1, (World.cell?_of_block hblk).trans K4.out.1.2⟩, (World.frozen?_of_block hblk).trans K4.out.2.2⟩
        have Z5 : Hid (w3.heap.size ≤ w5.heap.size) := Nat.le_trans (by simp) hl5.2.size
        clear hl5 hblk k0 k1 M4 Q4 K4 M3 Q3
        cases o5
        · have QX : Hid (QIn w5 wk.heap.size w5.heap.size (.slice ua un uc) (.slice ta tn tc) r) := qIn_wide (qIn_own Q5.out) (Nat.le_refl _) Z5.out
          have MX : Hid (Moved b (t + 172) (w.alloc (.cells #[.slice none 0 0, .slice none 0 0] 42)) w5) := M5.out
          have LX : Hid (w.heap.size < wk.heap.size) := by have := Z3.out.1; rw [hV] at this; show _ < _; omega
          have d0 := K5.out.1.1
          have d1 := K5.out.1.2
          have FN := fin (w := w) (b := b) hbl MX.out QX.out LX.out (Nat.le_refl _)
          have BX := box4 (w := w) hbl MX.out
          have e0 := BX.1.1
          have e1 := BX.1.2
          have g0 := BX.2.1
          have g1 := BX.2.2
          have c0 := FN.2.2.1
          have c1 := FN.2.2.2
          have QF := FN.1
          have MF := FN.2.1
          have HF : Hid (_ ∧ _) := ⟨QF, MF⟩
          clear FN BX QF MF MX QX
          go_wp2
          refine bodyPost_ret (v := .agg #[.slice ua un uc, (.slice ta tn tc)]) (by simp [results, Try.results34, go_sem, c0, c1]) rfl ?_
          exact ⟨_, _, _, _, _, _, _, rfl, HF.out.1, Moved.mono HF.out.2 (by omega)⟩
        · obtain ⟨rs, hI, ⟨a', n', c', e, hO, _, hxx, hrr⟩, hp, hsep⟩ := Q5.out
          cases e
          obtain ⟨g, hga⟩ : ∃ g, ta = some ⟨g, 0, none⟩ := by
            rcases shape_of hO.outer with ⟨h, _⟩ | h
            · omega
            · exact h
          subst hga
          cases rs with
          | nil => have := hO.len; simp at this; omega
          | cons s0 rest =>
            have GQ : Hid (Knl.ltotal (Lls.lplain (s0 :: rest)) ≤ 1000 ∧ s0.zs.length ≤ 6) := ⟨by rw [hp]; exact GQ0.out.1, GQ0.out.2 s0.zs (by rw [← hp]; simp [Lls.lplain])⟩
            have GB : Hid ((wk.heap.size ≤ g ∧ g < w3.heap.size) ∧ Far (Krl.addrOf (.slice ua un uc)) (some ⟨g, 0, none⟩) ∧ g < w3.heap.size) := ⟨hxx _ rfl, hsep.1, (hxx _ rfl).2⟩
            have RB : Hid (∀ s ∈ s0 :: rest, ∀ x, s.a = some x → wk.heap.size ≤ x.block ∧ x.block < w3.heap.size) := hrr
            have BD : Hid (Below w5.heap.size w5 w5.drew) := (Below.refl _ _).drew
            have BA : Hid (Below w5.heap.size w5 (w5.drew.alloc (.cells #[.slice s0.a s0.n s0.c] 34))) := BD.out.alloc BD.out.size _
            have IA : Hid (IOwn (w5.drew.alloc (.cells #[.slice s0.a s0.n s0.c] 34)) wk.heap.size w3.heap.size (.slice ua un uc) r.1) := iOwn_below hI BA.out
            have OA : Hid (OwnLs (w5.drew.alloc (.cells #[.slice s0.a s0.n s0.c] 34)) wk.heap.size (some ⟨g, 0, none⟩) tn tc (s0 :: rest)) := hO.below BA.out
            have E5 : Hid (w5.drew.heap.size = w5.heap.size) := rfl
            have KA : Hid (((w5.drew.alloc (.cells #[.slice s0.a s0.n s0.c] 34)).cell? ⟨w3.heap.size, 0, none⟩ = some (.slice ua un uc) ∧ (w5.drew.alloc (.cells #[.slice s0.a s0.n s0.c] 34)).cell? ⟨w3.heap.size, 1, none⟩ = some (.slice (some ⟨g, 0, none⟩) tn tc)) ∧ (w5.drew.alloc (.cells #[.slice s0.a s0.n s0.c] 34)).frozen? ⟨w3.heap.size, 1, none⟩ = false ∧ w3.heap.size < (w5.drew.alloc (.cells #[.slice s0.a s0.n s0.c] 34)).heap.size) := ⟨⟨(BA.out.cell (p := ⟨w3.heap.size, 0, none⟩) (Frame.cell_lt K5.out.1.1)).trans K5.out.1.1, (BA.out.cell (p := ⟨w3.heap.size, 1, none⟩) (Frame.cell_lt K5.out.1.2)).trans K5.out.1.2⟩, (BA.out.frozen (p := ⟨w3.heap.size, 1, none⟩) (Frame.cell_lt K5.out.1.2)).trans K5.out.2, Nat.lt_of_lt_of_le (Frame.cell_lt K5.out.1.2) BA.out.size⟩
            have NEW : Hid (∀ j u, ([.slice s0.a s0.n s0.c] : List Value)[j]? = some u → (w5.drew.alloc (.cells #[.slice s0.a s0.n s0.c] 34)).cell? ((⟨w5.heap.size, 0, none⟩ : Addr).add j) = some u) := by
              obtain ⟨ad, h1, h2⟩ := news_one w5.drew (.slice s0.a s0.n s0.c) 34 (by omega)
              cases h1
              exact h2
            have HSA : Hid (wk.heap.size ≤ (w5.drew.alloc (.cells #[.slice s0.a s0.n s0.c] 34)).heap.size) := Nat.le_trans (Nat.le_trans Z3.out.2 Z5.out) BA.out.size
            have MA : Hid (Moved b (t + 172) (w.alloc (.cells #[.slice none 0 0, .slice none 0 0] 42)) (w5.drew.alloc (.cells #[.slice s0.a s0.n s0.c] 34))) := Moved.upon M5.out hbV (BA.out.mono M5.out.2.size)
            have cg : w5.cell? ⟨g, 0, none⟩ = some (.slice s0.a s0.n s0.c) := by have := hO.outer.cellAt 0 (by omega); rw [this]; rfl
            have f0 : w5.drew.cell? ⟨w3.heap.size, 1, none⟩ = some (.slice (some ⟨g, 0, none⟩) tn tc) := (BD.out.cell (p := ⟨w3.heap.size, 1, none⟩) (Frame.cell_lt K5.out.1.2)).trans K5.out.1.2
            have f1 : w5.drew.cell? ⟨g, 0, none⟩ = some (.slice s0.a s0.n s0.c) := (BD.out.cell (p := ⟨g, 0, none⟩) (Frame.cell_lt cg)).trans cg
            have hlt35 : w3.heap.size < w5.heap.size := Frame.cell_lt K5.out.1.1
            have hne35 : ¬ w3.heap.size = w5.heap.size := by omega
            have f3 : w5.cell? ⟨w3.heap.size, 1, none⟩ = some (.slice (some ⟨g, 0, none⟩) tn tc) := K5.out.1.2
            have f2 : (w5.drew.alloc (.cells #[.slice s0.a s0.n s0.c] 34)).cell? ⟨w3.heap.size, 1, none⟩ = some (.slice (some ⟨g, 0, none⟩) tn tc) := KA.out.1.2
            have hmax : tn < 100000 := by have h1 := GQ.out.1; have h2 := hO.len; unfold Knl.ltotal at h1; have h3 : (Lls.lplain (s0 :: rest)).length = (s0 :: rest).length := by simp [Lls.lplain]
                                          have h4 : 0 ≤ ((Lls.lplain (s0 :: rest)).map fun x => (x.length : Int)).sum := sum_nonneg _
                                          omega
            clear hI hO hxx hrr hp hsep cg Q5 K5
            go_wp2_with fail
            refine wp_region_held_drew (S := fun w' => True) (by kernel_rfl) ?_ (fun hHeld => ?_)
            · exact True.intro
            refine wpAnyH_take (i := 0) (v := (.pointer (some ⟨w3.heap.size, 1, none⟩))) rfl (by kernel_rfl) (by kernel_rfl) (by kernel_rfl) (fun _ _ _ h => h) (Or.inl ⟨by rfl, ?_⟩) (by assumption) ?_
            · intro w hSw; (try dsimp only at hSw); go_simp
            (try show wpAnyH _ _ _ _ _ _ _ (Act.put _ (some 44) _) _); (try simp only [Act.put, List.setIfInBounds_toArray, List.set_cons_zero, List.set_cons_succ])
            refine wpAnyH_take (i := 2) (v := (.pointer (some ⟨w3.heap.size, 1, none⟩))) rfl (by kernel_rfl) (by kernel_rfl) (by kernel_rfl) (fun _ _ _ h => h) (Or.inl ⟨by rfl, ?_⟩) (by assumption) ?_
            · intro w hSw; (try dsimp only at hSw); go_simp
            (try show wpAnyH _ _ _ _ _ _ _ (Act.put _ (some 46) _) _); (try simp only [Act.put, List.setIfInBounds_toArray, List.set_cons_zero, List.set_cons_succ])
            refine wpAnyH_ready (rs := [1, 3]) (by kernel_rfl) (by simp) ?_
            refine (AllReadyH.cons rfl (fun K hK => ?_) (AllReadyH.cons rfl (fun K hK => ?_) AllReadyH.nil))
            · go_simp
              refine hK.out _ _ ?_ (fun hHeld => ?_)
              · exact True.intro
              clear hK K
              (try show wpAnyH _ _ _ _ _ _ _ (Act.put _ (some 45) _) _); (try simp only [Act.put, List.setIfInBounds_toArray, List.set_cons_zero, List.set_cons_succ])
              refine wpAnyH_ready (rs := [3]) (by kernel_rfl) (by simp) ?_
              refine AllReadyH.cons rfl (fun K hK => ?_) AllReadyH.nil
              go_simp
              refine hK.out _ _ ?_ (fun hHeld => ?_)
              · exact True.intro
              clear hK K
              (try show wpAnyH _ _ _ _ _ _ _ (Act.put _ (some 47) _) _); (try simp only [Act.put, List.setIfInBounds_toArray, List.set_cons_zero, List.set_cons_succ])
              refine wpAnyH_take (i := 4) (v := (.pointer (some ⟨g, 0, none⟩))) rfl (by kernel_rfl) (by kernel_rfl) (by kernel_rfl) (fun _ _ _ h => h) (Or.inl ⟨by rfl, ?_⟩) (by assumption) ?_
              · intro w hSw; (try dsimp only at hSw); go_simp
              (try show wpAnyH _ _ _ _ _ _ _ (Act.put _ (some 48) _) _); (try simp only [Act.put, List.setIfInBounds_toArray, List.set_cons_zero, List.set_cons_succ])
              refine wpAnyH_ready (rs := [5]) (by kernel_rfl) (by simp) ?_
              refine AllReadyH.cons rfl (fun K hK => ?_) AllReadyH.nil
              go_simp
              refine hK.out _ _ ?_ (fun hHeld => ?_)
              · exact True.intro
              clear hK K
              (try show wpAnyH _ _ _ _ _ _ _ (Act.put _ (some 49) _) _); (try simp only [Act.put, List.setIfInBounds_toArray, List.set_cons_zero, List.set_cons_succ])
              refine wpAnyH_ready (rs := [6]) (by kernel_rfl) (by simp) ?_
              refine AllReadyH.cons rfl (fun K hK => ?_) AllReadyH.nil
              go_simp
              refine hK.out _ _ ?_ (fun hHeld => ?_)
              · exact True.intro
              clear hK K
              (try show wpAnyH _ _ _ _ _ _ _ (Act.put _ (some 50) _) _); (try simp only [Act.put, List.setIfInBounds_toArray, List.set_cons_zero, List.set_cons_succ])
              refine wpAnyH_ready (rs := [7]) (by kernel_rfl) (by simp) ?_
              refine AllReadyH.cons rfl (fun K hK => ?_) AllReadyH.nil
              refine step_append_lies _ (by rfl) _ _ 26 (by rfl) wk.heap.size 34 i0 (.slice none 0 0) 1 24 Try.underlying26 hi hz0 hz1 hz2 rfl (by decide) (.slice (some ⟨g, 0, none⟩) tn tc) tn (lcells (s0 :: rest)) (by rfl) OA.out.outer ⟨w5.heap.size, 0, none⟩ 1 1 [.slice s0.a s0.n s0.c] (by rfl) rfl NEW.out (by simp [Value.oneCell']) (by omega) (by unfold maxLen; omega) (by omega) HSA.out _ rfl ?_; intro g9 c9 w9 hown9 hgrow9 hat9 hlt9; have og := Sc.only_grown hgrow9; have s0_ : w9.cell? ⟨w3.heap.size, 0, none⟩ = some (.slice ua un uc) := (og.cell (b := w3.heap.size) (o := 0) KA.out.2.2 (fun y hy => by cases hy; show w3.heap.size ≠ g; have := GB.out; omega)).trans KA.out.1.1; have s1_ : w9.cell? ⟨w3.heap.size, 1, none⟩ = some (.slice (some ⟨g, 0, none⟩) tn tc) := (og.cell (b := w3.heap.size) (o := 1) KA.out.2.2 (fun y hy => by cases hy; show w3.heap.size ≠ g; have := GB.out; omega)).trans KA.out.1.2; have sf_ : w9.frozen? ⟨w3.heap.size, 1, none⟩ = false := (World.frozen?_of_block (og.block w3.heap.size KA.out.2.2 (fun y hy => by cases hy; show w3.heap.size ≠ g; have := GB.out; omega))).trans KA.out.2.1; have HG9 : Hid (_ ∧ _ ∧ _) := ⟨hown9, hgrow9, hat9⟩; clear hown9 hgrow9 hat9 og
              refine hK.out _ _ ?_ (fun hHeld => ?_)
              · exact True.intro
              clear hK K
              (try show wpAnyH _ _ _ _ _ _ _ (Act.put _ (some 51) _) _); (try simp only [Act.put, List.setIfInBounds_toArray, List.set_cons_zero, List.set_cons_succ])
              refine wpAnyH_take (i := 8) (v := (.pointer (some ⟨w3.heap.size, 1, none⟩))) rfl (by kernel_rfl) (by kernel_rfl) (by kernel_rfl) (fun _ _ _ h => h) (Or.inl ⟨by rfl, ?_⟩) (by assumption) ?_
              · intro w hSw; (try dsimp only at hSw); go_simp
              (try show wpAnyH _ _ _ _ _ _ _ (Act.put _ (some 52) _) _); (try simp only [Act.put, List.setIfInBounds_toArray, List.set_cons_zero, List.set_cons_succ])
              refine wpAnyH_ready (rs := [9]) (by kernel_rfl) (by simp) ?_
              refine AllReadyH.cons rfl (fun K hK => ?_) AllReadyH.nil
              go_simp
              refine hK.out _ _ ?_ (fun hHeld => ?_)
              · exact True.intro
              clear hK K
              (try simp only [Act.put, List.setIfInBounds_toArray, List.set_cons_zero, List.set_cons_succ])
              refine wpAnyH_done (by kernel_rfl) ?_ _
              have QX : Hid (QIn (w9.setCell ⟨w3.heap.size, 1, none⟩ (.slice (some ⟨g9, 0, none⟩) (tn + 1) c9)) wk.heap.size (w9.setCell ⟨w3.heap.size, 1, none⟩ (.slice (some ⟨g9, 0, none⟩) (tn + 1) c9)).heap.size (.slice ua un uc) (.slice (some ⟨g9, 0, none⟩) (tn + 1) c9) (r.1, Lls.lplain ((s0 :: rest) ++ [s0]))) := dup IA.out OA.out GB.out.1 GB.out.2.1 RB.out (Nat.le_refl _) KA.out.2.2 GQ.out.1 GQ.out.2 HG9.out.2.1 (by rw [lcells_append]; exact HG9.out.1) HG9.out.2.2
              have MX : Hid (Moved b (t + 172) (w.alloc (.cells #[.slice none 0 0, .slice none 0 0] 42)) (w9.setCell ⟨w3.heap.size, 1, none⟩ (.slice (some ⟨g9, 0, none⟩) (tn + 1) c9))) := Moved.upon MA.out hbV (((below_app (Below.refl wk.heap.size _) OA.out.outer HG9.out.2.1 HSA.out (Nat.le_refl _)).mono Z3.out.1).setCell (p := ⟨w3.heap.size, 1, none⟩) (by have := Z3.out; show (w.alloc (.cells #[.slice none 0 0, .slice none 0 0] 42)).heap.size ≤ w3.heap.size; omega) _)
              have LX : Hid (w.heap.size < wk.heap.size) := by have := Z3.out.1; rw [hV] at this; show _ < _; omega
              have d0 : (w9.setCell ⟨w3.heap.size, 1, none⟩ (.slice (some ⟨g9, 0, none⟩) (tn + 1) c9)).cell? ⟨w3.heap.size, 0, none⟩ = some (.slice ua un uc) := by rw [World.cell?_setCell_other _ _ _ _ (by simp)]; exact s0_
              have d1 : (w9.setCell ⟨w3.heap.size, 1, none⟩ (.slice (some ⟨g9, 0, none⟩) (tn + 1) c9)).cell? ⟨w3.heap.size, 1, none⟩ = some (.slice (some ⟨g9, 0, none⟩) (tn + 1) c9) := World.cell?_setCell_same _ _ _ s1_
              clear s0_ s1_ sf_ HG9
              generalize hXX : (w9.setCell ⟨w3.heap.size, 1, none⟩ (.slice (some ⟨g9, 0, none⟩) (tn + 1) c9)) = XX at *
              clear hXX
              have FN := fin (w := w) (b := b) hbl MX.out QX.out LX.out (Nat.le_refl _)
              have BX := box4 (w := w) hbl MX.out
              have e0 := BX.1.1
              have e1 := BX.1.2
              have g0 := BX.2.1
              have g1 := BX.2.2
              have c0 := FN.2.2.1
              have c1 := FN.2.2.2
              have QF := FN.1
              have MF := FN.2.1
              have HF : Hid (_ ∧ _) := ⟨QF, MF⟩
              clear FN BX QF MF MX QX
              go_wp2
              refine bodyPost_ret (v := .agg #[.slice ua un uc, (.slice (some ⟨g9, 0, none⟩) (tn + 1) c9)]) (by simp [results, Try.results34, go_sem, c0, c1]) rfl ?_
              exact ⟨_, _, _, _, _, _, _, rfl, HF.out.1, Moved.mono HF.out.2 (by omega)⟩
            · go_simp
              refine hK.out _ _ ?_ (fun hHeld => ?_)
              · exact True.intro
              clear hK K
              (try show wpAnyH _ _ _ _ _ _ _ (Act.put _ (some 47) _) _); (try simp only [Act.put, List.setIfInBounds_toArray, List.set_cons_zero, List.set_cons_succ])
              refine wpAnyH_take (i := 4) (v := (.pointer (some ⟨g, 0, none⟩))) rfl (by kernel_rfl) (by kernel_rfl) (by kernel_rfl) (fun _ _ _ h => h) (Or.inl ⟨by rfl, ?_⟩) (by assumption) ?_
              · intro w hSw; (try dsimp only at hSw); go_simp
              (try show wpAnyH _ _ _ _ _ _ _ (Act.put _ (some 48) _) _); (try simp only [Act.put, List.setIfInBounds_toArray, List.set_cons_zero, List.set_cons_succ])
              refine wpAnyH_ready (rs := [1, 5]) (by kernel_rfl) (by simp) ?_
              refine (AllReadyH.cons rfl (fun K hK => ?_) (AllReadyH.cons rfl (fun K hK => ?_) AllReadyH.nil))
              · go_simp
                refine hK.out _ _ ?_ (fun hHeld => ?_)
                · exact True.intro
                clear hK K
                (try show wpAnyH _ _ _ _ _ _ _ (Act.put _ (some 45) _) _); (try simp only [Act.put, List.setIfInBounds_toArray, List.set_cons_zero, List.set_cons_succ])
                refine wpAnyH_ready (rs := [5]) (by kernel_rfl) (by simp) ?_
                refine AllReadyH.cons rfl (fun K hK => ?_) AllReadyH.nil
                go_simp
                refine hK.out _ _ ?_ (fun hHeld => ?_)
                · exact True.intro
                clear hK K
                (try show wpAnyH _ _ _ _ _ _ _ (Act.put _ (some 49) _) _); (try simp only [Act.put, List.setIfInBounds_toArray, List.set_cons_zero, List.set_cons_succ])
                refine wpAnyH_ready (rs := [6]) (by kernel_rfl) (by simp) ?_
                refine AllReadyH.cons rfl (fun K hK => ?_) AllReadyH.nil
                go_simp
                refine hK.out _ _ ?_ (fun hHeld => ?_)
                · exact True.intro
                clear hK K
                (try show wpAnyH _ _ _ _ _ _ _ (Act.put _ (some 50) _) _); (try simp only [Act.put, List.setIfInBounds_toArray, List.set_cons_zero, List.set_cons_succ])
                refine wpAnyH_ready (rs := [7]) (by kernel_rfl) (by simp) ?_
                refine AllReadyH.cons rfl (fun K hK => ?_) AllReadyH.nil
                refine step_append_lies _ (by rfl) _ _ 26 (by rfl) wk.heap.size 34 i0 (.slice none 0 0) 1 24 Try.underlying26 hi hz0 hz1 hz2 rfl (by decide) (.slice (some ⟨g, 0, none⟩) tn tc) tn (lcells (s0 :: rest)) (by rfl) OA.out.outer ⟨w5.heap.size, 0, none⟩ 1 1 [.slice s0.a s0.n s0.c] (by rfl) rfl NEW.out (by simp [Value.oneCell']) (by omega) (by unfold maxLen; omega) (by omega) HSA.out _ rfl ?_; intro g9 c9 w9 hown9 hgrow9 hat9 hlt9; have og := Sc.only_grown hgrow9; have s0_ : w9.cell? ⟨w3.heap.size, 0, none⟩ = some (.slice ua un uc) := (og.cell (b := w3.heap.size) (o := 0) KA.out.2.2 (fun y hy => by cases hy; show w3.heap.size ≠ g; have := GB.out; omega)).trans KA.out.1.1; have s1_ : w9.cell? ⟨w3.heap.size, 1, none⟩ = some (.slice (some ⟨g, 0, none⟩) tn tc) := (og.cell (b := w3.heap.size) (o := 1) KA.out.2.2 (fun y hy => by cases hy; show w3.heap.size ≠ g; have := GB.out; omega)).trans KA.out.1.2; have sf_ : w9.frozen? ⟨w3.heap.size, 1, none⟩ = false := (World.frozen?_of_block (og.block w3.heap.size KA.out.2.2 (fun y hy => by cases hy; show w3.heap.size ≠ g; have := GB.out; omega))).trans KA.out.2.1; have HG9 : Hid (_ ∧ _ ∧ _) := ⟨hown9, hgrow9, hat9⟩; clear hown9 hgrow9 hat9 og
                refine hK.out _ _ ?_ (fun hHeld => ?_)
                · exact True.intro
                clear hK K
                (try show wpAnyH _ _ _ _ _ _ _ (Act.put _ (some 51) _) _); (try simp only [Act.put, List.setIfInBounds_toArray, List.set_cons_zero, List.set_cons_succ])
                refine wpAnyH_take (i := 8) (v := (.pointer (some ⟨w3.heap.size, 1, none⟩))) rfl (by kernel_rfl) (by kernel_rfl) (by kernel_rfl) (fun _ _ _ h => h) (Or.inl ⟨by rfl, ?_⟩) (by assumption) ?_
                · intro w hSw; (try dsimp only at hSw); go_simp
                (try show wpAnyH _ _ _ _ _ _ _ (Act.put _ (some 52) _) _); (try simp only [Act.put, List.setIfInBounds_toArray, List.set_cons_zero, List.set_cons_succ])
                refine wpAnyH_ready (rs := [9]) (by kernel_rfl) (by simp) ?_
                refine AllReadyH.cons rfl (fun K hK => ?_) AllReadyH.nil
                go_simp
                refine hK.out _ _ ?_ (fun hHeld => ?_)
                · exact True.intro
                clear hK K
                (try simp only [Act.put, List.setIfInBounds_toArray, List.set_cons_zero, List.set_cons_succ])
                refine wpAnyH_done (by kernel_rfl) ?_ _
                have QX : Hid (QIn (w9.setCell ⟨w3.heap.size, 1, none⟩ (.slice (some ⟨g9, 0, none⟩) (tn + 1) c9)) wk.heap.size (w9.setCell ⟨w3.heap.size, 1, none⟩ (.slice (some ⟨g9, 0, none⟩) (tn + 1) c9)).heap.size (.slice ua un uc) (.slice (some ⟨g9, 0, none⟩) (tn + 1) c9) (r.1, Lls.lplain ((s0 :: rest) ++ [s0]))) := dup IA.out OA.out GB.out.1 GB.out.2.1 RB.out (Nat.le_refl _) KA.out.2.2 GQ.out.1 GQ.out.2 HG9.out.2.1 (by rw [lcells_append]; exact HG9.out.1) HG9.out.2.2
                have MX : Hid (Moved b (t + 172) (w.alloc (.cells #[.slice none 0 0, .slice none 0 0] 42)) (w9.setCell ⟨w3.heap.size, 1, none⟩ (.slice (some ⟨g9, 0, none⟩) (tn + 1) c9))) := Moved.upon MA.out hbV (((below_app (Below.refl wk.heap.size _) OA.out.outer HG9.out.2.1 HSA.out (Nat.le_refl _)).mono Z3.out.1).setCell (p := ⟨w3.heap.size, 1, none⟩) (by have := Z3.out; show (w.alloc (.cells #[.slice none 0 0, .slice none 0 0] 42)).heap.size ≤ w3.heap.size; omega) _)
                have LX : Hid (w.heap.size < wk.heap.size) := by have := Z3.out.1; rw [hV] at this; show _ < _; omega
                have d0 : (w9.setCell ⟨w3.heap.size, 1, none⟩ (.slice (some ⟨g9, 0, none⟩) (tn + 1) c9)).cell? ⟨w3.heap.size, 0, none⟩ = some (.slice ua un uc) := by rw [World.cell?_setCell_other _ _ _ _ (by simp)]; exact s0_
                have d1 : (w9.setCell ⟨w3.heap.size, 1, none⟩ (.slice (some ⟨g9, 0, none⟩) (tn + 1) c9)).cell? ⟨w3.heap.size, 1, none⟩ = some (.slice (some ⟨g9, 0, none⟩) (tn + 1) c9) := World.cell?_setCell_same _ _ _ s1_
                clear s0_ s1_ sf_ HG9
                generalize hXX : (w9.setCell ⟨w3.heap.size, 1, none⟩ (.slice (some ⟨g9, 0, none⟩) (tn + 1) c9)) = XX at *
                clear hXX
                have FN := fin (w := w) (b := b) hbl MX.out QX.out LX.out (Nat.le_refl _)
                have BX := box4 (w := w) hbl MX.out
                have e0 := BX.1.1
                have e1 := BX.1.2
                have g0 := BX.2.1
                have g1 := BX.2.2
                have c0 := FN.2.2.1
                have c1 := FN.2.2.2
                have QF := FN.1
                have MF := FN.2.1
                have HF : Hid (_ ∧ _) := ⟨QF, MF⟩
                clear FN BX QF MF MX QX
                go_wp2
                refine bodyPost_ret (v := .agg #[.slice ua un uc, (.slice (some ⟨g9, 0, none⟩) (tn + 1) c9)]) (by simp [results, Try.results34, go_sem, c0, c1]) rfl ?_
                exact ⟨_, _, _, _, _, _, _, rfl, HF.out.1, Moved.mono HF.out.2 (by omega)⟩
              · go_simp
                refine hK.out _ _ ?_ (fun hHeld => ?_)
                · exact True.intro
                clear hK K
                (try show wpAnyH _ _ _ _ _ _ _ (Act.put _ (some 49) _) _); (try simp only [Act.put, List.setIfInBounds_toArray, List.set_cons_zero, List.set_cons_succ])
                refine wpAnyH_ready (rs := [1, 6]) (by kernel_rfl) (by simp) ?_
                refine (AllReadyH.cons rfl (fun K hK => ?_) (AllReadyH.cons rfl (fun K hK => ?_) AllReadyH.nil))
                · go_simp
                  refine hK.out _ _ ?_ (fun hHeld => ?_)
                  · exact True.intro
                  clear hK K
                  (try show wpAnyH _ _ _ _ _ _ _ (Act.put _ (some 45) _) _); (try simp only [Act.put, List.setIfInBounds_toArray, List.set_cons_zero, List.set_cons_succ])
                  refine wpAnyH_ready (rs := [6]) (by kernel_rfl) (by simp) ?_
                  refine AllReadyH.cons rfl (fun K hK => ?_) AllReadyH.nil
                  go_simp
                  refine hK.out _ _ ?_ (fun hHeld => ?_)
                  · exact True.intro
                  clear hK K
                  (try show wpAnyH _ _ _ _ _ _ _ (Act.put _ (some 50) _) _); (try simp only [Act.put, List.setIfInBounds_toArray, List.set_cons_zero, List.set_cons_succ])
                  refine wpAnyH_ready (rs := [7]) (by kernel_rfl) (by simp) ?_
                  refine AllReadyH.cons rfl (fun K hK => ?_) AllReadyH.nil
                  refine step_append_lies _ (by rfl) _ _ 26 (by rfl) wk.heap.size 34 i0 (.slice none 0 0) 1 24 Try.underlying26 hi hz0 hz1 hz2 rfl (by decide) (.slice (some ⟨g, 0, none⟩) tn tc) tn (lcells (s0 :: rest)) (by rfl) OA.out.outer ⟨w5.heap.size, 0, none⟩ 1 1 [.slice s0.a s0.n s0.c] (by rfl) rfl NEW.out (by simp [Value.oneCell']) (by omega) (by unfold maxLen; omega) (by omega) HSA.out _ rfl ?_; intro g9 c9 w9 hown9 hgrow9 hat9 hlt9; have og := Sc.only_grown hgrow9; have s0_ : w9.cell? ⟨w3.heap.size, 0, none⟩ = some (.slice ua un uc) := (og.cell (b := w3.heap.size) (o := 0) KA.out.2.2 (fun y hy => by cases hy; show w3.heap.size ≠ g; have := GB.out; omega)).trans KA.out.1.1; have s1_ : w9.cell? ⟨w3.heap.size, 1, none⟩ = some (.slice (some ⟨g, 0, none⟩) tn tc) := (og.cell (b := w3.heap.size) (o := 1) KA.out.2.2 (fun y hy => by cases hy; show w3.heap.size ≠ g; have := GB.out; omega)).trans KA.out.1.2; have sf_ : w9.frozen? ⟨w3.heap.size, 1, none⟩ = false := (World.frozen?_of_block (og.block w3.heap.size KA.out.2.2 (fun y hy => by cases hy; show w3.heap.size ≠ g; have := GB.out; omega))).trans KA.out.2.1; have HG9 : Hid (_ ∧ _ ∧ _) := ⟨hown9, hgrow9, hat9⟩; clear hown9 hgrow9 hat9 og
                  refine hK.out _ _ ?_ (fun hHeld => ?_)
                  · exact True.intro
                  clear hK K
                  (try show wpAnyH _ _ _ _ _ _ _ (Act.put _ (some 51) _) _); (try simp only [Act.put, List.setIfInBounds_toArray, List.set_cons_zero, List.set_cons_succ])
                  refine wpAnyH_take (i := 8) (v := (.pointer (some ⟨w3.heap.size, 1, none⟩))) rfl (by kernel_rfl) (by kernel_rfl) (by kernel_rfl) (fun _ _ _ h => h) (Or.inl ⟨by rfl, ?_⟩) (by assumption) ?_
                  · intro w hSw; (try dsimp only at hSw); go_simp
                  (try show wpAnyH _ _ _ _ _ _ _ (Act.put _ (some 52) _) _); (try simp only [Act.put, List.setIfInBounds_toArray, List.set_cons_zero, List.set_cons_succ])
                  refine wpAnyH_ready (rs := [9]) (by kernel_rfl) (by simp) ?_
                  refine AllReadyH.cons rfl (fun K hK => ?_) AllReadyH.nil
                  go_simp
                  refine hK.out _ _ ?_ (fun hHeld => ?_)
                  · exact True.intro
                  clear hK K
                  (try simp only [Act.put, List.setIfInBounds_toArray, List.set_cons_zero, List.set_cons_succ])
                  refine wpAnyH_done (by kernel_rfl) ?_ _
                  have QX : Hid (QIn (w9.setCell ⟨w3.heap.size, 1, none⟩ (.slice (some ⟨g9, 0, none⟩) (tn + 1) c9)) wk.heap.size (w9.setCell ⟨w3.heap.size, 1, none⟩ (.slice (some ⟨g9, 0, none⟩) (tn + 1) c9)).heap.size (.slice ua un uc) (.slice (some ⟨g9, 0, none⟩) (tn + 1) c9) (r.1, Lls.lplain ((s0 :: rest) ++ [s0]))) := dup IA.out OA.out GB.out.1 GB.out.2.1 RB.out (Nat.le_refl _) KA.out.2.2 GQ.out.1 GQ.out.2 HG9.out.2.1 (by rw [lcells_append]; exact HG9.out.1) HG9.out.2.2
                  have MX : Hid (Moved b (t + 172) (w.alloc (.cells #[.slice none 0 0, .slice none 0 0] 42)) (w9.setCell ⟨w3.heap.size, 1, none⟩ (.slice (some ⟨g9, 0, none⟩) (tn + 1) c9))) := Moved.upon MA.out hbV (((below_app (Below.refl wk.heap.size _) OA.out.outer HG9.out.2.1 HSA.out (Nat.le_refl _)).mono Z3.out.1).setCell (p := ⟨w3.heap.size, 1, none⟩) (by have := Z3.out; show (w.alloc (.cells #[.slice none 0 0, .slice none 0 0] 42)).heap.size ≤ w3.heap.size; omega) _)
                  have LX : Hid (w.heap.size < wk.heap.size) := by have := Z3.out.1; rw [hV] at this; show _ < _; omega
                  have d0 : (w9.setCell ⟨w3.heap.size, 1, none⟩ (.slice (some ⟨g9, 0, none⟩) (tn + 1) c9)).cell? ⟨w3.heap.size, 0, none⟩ = some (.slice ua un uc) := by rw [World.cell?_setCell_other _ _ _ _ (by simp)]; exact s0_
                  have d1 : (w9.setCell ⟨w3.heap.size, 1, none⟩ (.slice (some ⟨g9, 0, none⟩) (tn + 1) c9)).cell? ⟨w3.heap.size, 1, none⟩ = some (.slice (some ⟨g9, 0, none⟩) (tn + 1) c9) := World.cell?_setCell_same _ _ _ s1_
                  clear s0_ s1_ sf_ HG9
                  generalize hXX : (w9.setCell ⟨w3.heap.size, 1, none⟩ (.slice (some ⟨g9, 0, none⟩) (tn + 1) c9)) = XX at *
                  clear hXX
                  have FN := fin (w := w) (b := b) hbl MX.out QX.out LX.out (Nat.le_refl _)
                  have BX := box4 (w := w) hbl MX.out
                  have e0 := BX.1.1
                  have e1 := BX.1.2
                  have g0 := BX.2.1
                  have g1 := BX.2.2
                  have c0 := FN.2.2.1
                  have c1 := FN.2.2.2
                  have QF := FN.1
                  have MF := FN.2.1
                  have HF : Hid (_ ∧ _) := ⟨QF, MF⟩
                  clear FN BX QF MF MX QX
                  go_wp2
                  refine bodyPost_ret (v := .agg #[.slice ua un uc, (.slice (some ⟨g9, 0, none⟩) (tn + 1) c9)]) (by simp [results, Try.results34, go_sem, c0, c1]) rfl ?_
                  exact ⟨_, _, _, _, _, _, _, rfl, HF.out.1, Moved.mono HF.out.2 (by omega)⟩
                · go_simp
                  refine hK.out _ _ ?_ (fun hHeld => ?_)
                  · exact True.intro
                  clear hK K
                  (try show wpAnyH _ _ _ _ _ _ _ (Act.put _ (some 50) _) _); (try simp only [Act.put, List.setIfInBounds_toArray, List.set_cons_zero, List.set_cons_succ])
                  refine wpAnyH_ready (rs := [1]) (by kernel_rfl) (by simp) ?_
                  refine AllReadyH.cons rfl (fun K hK => ?_) AllReadyH.nil
                  go_simp
                  refine hK.out _ _ ?_ (fun hHeld => ?_)
                  · exact True.intro
                  clear hK K
                  (try show wpAnyH _ _ _ _ _ _ _ (Act.put _ (some 45) _) _); (try simp only [Act.put, List.setIfInBounds_toArray, List.set_cons_zero, List.set_cons_succ])
                  refine wpAnyH_ready (rs := [7]) (by kernel_rfl) (by simp) ?_
                  refine AllReadyH.cons rfl (fun K hK => ?_) AllReadyH.nil
                  refine step_append_lies _ (by rfl) _ _ 26 (by rfl) wk.heap.size 34 i0 (.slice none 0 0) 1 24 Try.underlying26 hi hz0 hz1 hz2 rfl (by decide) (.slice (some ⟨g, 0, none⟩) tn tc) tn (lcells (s0 :: rest)) (by rfl) OA.out.outer ⟨w5.heap.size, 0, none⟩ 1 1 [.slice s0.a s0.n s0.c] (by rfl) rfl NEW.out (by simp [Value.oneCell']) (by omega) (by unfold maxLen; omega) (by omega) HSA.out _ rfl ?_; intro g9 c9 w9 hown9 hgrow9 hat9 hlt9; have og := Sc.only_grown hgrow9; have s0_ : w9.cell? ⟨w3.heap.size, 0, none⟩ = some (.slice ua un uc) := (og.cell (b := w3.heap.size) (o := 0) KA.out.2.2 (fun y hy => by cases hy; show w3.heap.size ≠ g; have := GB.out; omega)).trans KA.out.1.1; have s1_ : w9.cell? ⟨w3.heap.size, 1, none⟩ = some (.slice (some ⟨g, 0, none⟩) tn tc) := (og.cell (b := w3.heap.size) (o := 1) KA.out.2.2 (fun y hy => by cases hy; show w3.heap.size ≠ g; have := GB.out; omega)).trans KA.out.1.2; have sf_ : w9.frozen? ⟨w3.heap.size, 1, none⟩ = false := (World.frozen?_of_block (og.block w3.heap.size KA.out.2.2 (fun y hy => by cases hy; show w3.heap.size ≠ g; have := GB.out; omega))).trans KA.out.2.1; have HG9 : Hid (_ ∧ _ ∧ _) := ⟨hown9, hgrow9, hat9⟩; clear hown9 hgrow9 hat9 og
                  refine hK.out _ _ ?_ (fun hHeld => ?_)
                  · exact True.intro
                  clear hK K
                  (try show wpAnyH _ _ _ _ _ _ _ (Act.put _ (some 51) _) _); (try simp only [Act.put, List.setIfInBounds_toArray, List.set_cons_zero, List.set_cons_succ])
                  refine wpAnyH_take (i := 8) (v := (.pointer (some ⟨w3.heap.size, 1, none⟩))) rfl (by kernel_rfl) (by kernel_rfl) (by kernel_rfl) (fun _ _ _ h => h) (Or.inl ⟨by rfl, ?_⟩) (by assumption) ?_
                  · intro w hSw; (try dsimp only at hSw); go_simp
                  (try show wpAnyH _ _ _ _ _ _ _ (Act.put _ (some 52) _) _); (try simp only [Act.put, List.setIfInBounds_toArray, List.set_cons_zero, List.set_cons_succ])
                  refine wpAnyH_ready (rs := [9]) (by kernel_rfl) (by simp) ?_
                  refine AllReadyH.cons rfl (fun K hK => ?_) AllReadyH.nil
                  go_simp
                  refine hK.out _ _ ?_ (fun hHeld => ?_)
                  · exact True.intro
                  clear hK K
                  (try simp only [Act.put, List.setIfInBounds_toArray, List.set_cons_zero, List.set_cons_succ])
                  refine wpAnyH_done (by kernel_rfl) ?_ _
                  have QX : Hid (QIn (w9.setCell ⟨w3.heap.size, 1, none⟩ (.slice (some ⟨g9, 0, none⟩) (tn + 1) c9)) wk.heap.size (w9.setCell ⟨w3.heap.size, 1, none⟩ (.slice (some ⟨g9, 0, none⟩) (tn + 1) c9)).heap.size (.slice ua un uc) (.slice (some ⟨g9, 0, none⟩) (tn + 1) c9) (r.1, Lls.lplain ((s0 :: rest) ++ [s0]))) := dup IA.out OA.out GB.out.1 GB.out.2.1 RB.out (Nat.le_refl _) KA.out.2.2 GQ.out.1 GQ.out.2 HG9.out.2.1 (by rw [lcells_append]; exact HG9.out.1) HG9.out.2.2
                  have MX : Hid (Moved b (t + 172) (w.alloc (.cells #[.slice none 0 0, .slice none 0 0] 42)) (w9.setCell ⟨w3.heap.size, 1, none⟩ (.slice (some ⟨g9, 0, none⟩) (tn + 1) c9))) := Moved.upon MA.out hbV (((below_app (Below.refl wk.heap.size _) OA.out.outer HG9.out.2.1 HSA.out (Nat.le_refl _)).mono Z3.out.1).setCell (p := ⟨w3.heap.size, 1, none⟩) (by have := Z3.out; show (w.alloc (.cells #[.slice none 0 0, .slice none 0 0] 42)).heap.size ≤ w3.heap.size; omega) _)
                  have LX : Hid (w.heap.size < wk.heap.size) := by have := Z3.out.1; rw [hV] at this; show _ < _; omega
                  have d0 : (w9.setCell ⟨w3.heap.size, 1, none⟩ (.slice (some ⟨g9, 0, none⟩) (tn + 1) c9)).cell? ⟨w3.heap.size, 0, none⟩ = some (.slice ua un uc) := by rw [World.cell?_setCell_other _ _ _ _ (by simp)]; exact s0_
                  have d1 : (w9.setCell ⟨w3.heap.size, 1, none⟩ (.slice (some ⟨g9, 0, none⟩) (tn + 1) c9)).cell? ⟨w3.heap.size, 1, none⟩ = some (.slice (some ⟨g9, 0, none⟩) (tn + 1) c9) := World.cell?_setCell_same _ _ _ s1_
                  clear s0_ s1_ sf_ HG9
                  generalize hXX : (w9.setCell ⟨w3.heap.size, 1, none⟩ (.slice (some ⟨g9, 0, none⟩) (tn + 1) c9)) = XX at *
                  clear hXX
                  have FN := fin (w := w) (b := b) hbl MX.out QX.out LX.out (Nat.le_refl _)
                  have BX := box4 (w := w) hbl MX.out
                  have e0 := BX.1.1
                  have e1 := BX.1.2
                  have g0 := BX.2.1
                  have g1 := BX.2.2
                  have c0 := FN.2.2.1
                  have c1 := FN.2.2.2
                  have QF := FN.1
                  have MF := FN.2.1
                  have HF : Hid (_ ∧ _) := ⟨QF, MF⟩
                  clear FN BX QF MF MX QX
                  go_wp2
                  refine bodyPost_ret (v := .agg #[.slice ua un uc, (.slice (some ⟨g9, 0, none⟩) (tn + 1) c9)]) (by simp [results, Try.results34, go_sem, c0, c1]) rfl ?_
                  exact ⟨_, _, _, _, _, _, _, rfl, HF.out.1, Moved.mono HF.out.2 (by omega)⟩
      · have QX : Hid (QIn w3 wk.heap.size w3.heap.size (.slice ua un uc) (.slice ta tn tc) r) := qIn_own Q3.out
        have MX : Hid (Moved b (t + 170) (w.alloc (.cells #[.slice none 0 0, .slice none 0 0] 42)) w3) := M3.out
        have LX : Hid (w.heap.size < wk.heap.size) := by have := Z3.out.1; rw [hV] at this; show _ < _; omega
        have B3 := box4 (w := w) hbl M3.out
        have z0 := B3.1.1
        have z1 := B3.1.2
        have y0 := B3.2.1
        have y1 := B3.2.2
        have hlt3 : w.heap.size < w3.heap.size := Frame.cell_lt z0
        have hne3 : ¬ w.heap.size = w3.heap.size := by omega
        have hne3' : ¬ w3.heap.size = w.heap.size := by omega
        have FN := fin (w := w) (b := b) hbl MX.out QX.out LX.out (Nat.le_refl _)
        have c0 : (((w3.setCell ⟨w.heap.size, 0, none⟩ (.slice ua un uc)).setCell ⟨w.heap.size, 1, none⟩ (.slice ta tn tc)).alloc (.cells #[.slice ua un uc, .slice ta tn tc] 42)).cell? ⟨w.heap.size, 0, none⟩ = some (.slice ua un uc) := ((below_alloc ((w3.setCell ⟨w.heap.size, 0, none⟩ (.slice ua un uc)).setCell ⟨w.heap.size, 1, none⟩ (.slice ta tn tc)) _).cell (p := ⟨w.heap.size, 0, none⟩) (Frame.cell_lt FN.2.2.1)).trans FN.2.2.1
        have c1 : (((w3.setCell ⟨w.heap.size, 0, none⟩ (.slice ua un uc)).setCell ⟨w.heap.size, 1, none⟩ (.slice ta tn tc)).alloc (.cells #[.slice ua un uc, .slice ta tn tc] 42)).cell? ⟨w.heap.size, 1, none⟩ = some (.slice ta tn tc) := ((below_alloc ((w3.setCell ⟨w.heap.size, 0, none⟩ (.slice ua un uc)).setCell ⟨w.heap.size, 1, none⟩ (.slice ta tn tc)) _).cell (p := ⟨w.heap.size, 1, none⟩) (Frame.cell_lt FN.2.2.2)).trans FN.2.2.2
        have HF : Hid (QIn (((w3.setCell ⟨w.heap.size, 0, none⟩ (.slice ua un uc)).setCell ⟨w.heap.size, 1, none⟩ (.slice ta tn tc)).alloc (.cells #[.slice ua un uc, .slice ta tn tc] 42)) w.heap.size (((w3.setCell ⟨w.heap.size, 0, none⟩ (.slice ua un uc)).setCell ⟨w.heap.size, 1, none⟩ (.slice ta tn tc)).alloc (.cells #[.slice ua un uc, .slice ta tn tc] 42)).heap.size (.slice ua un uc) (.slice ta tn tc) r ∧ Moved b (t + 170) w (((w3.setCell ⟨w.heap.size, 0, none⟩ (.slice ua un uc)).setCell ⟨w.heap.size, 1, none⟩ (.slice ta tn tc)).alloc (.cells #[.slice ua un uc, .slice ta tn tc] 42))) := ⟨qIn_wide (qIn_touch FN.1 (OnlyAt.of_below (below_alloc ((w3.setCell ⟨w.heap.size, 0, none⟩ (.slice ua un uc)).setCell ⟨w.heap.size, 1, none⟩ (.slice ta tn tc)) _)) (Or.inl hbl)) (Nat.le_refl _) (below_alloc ((w3.setCell ⟨w.heap.size, 0, none⟩ (.slice ua un uc)).setCell ⟨w.heap.size, 1, none⟩ (.slice ta tn tc)) _).size, Moved.upon FN.2.1 hbl ((Below.refl _ _).alloc FN.2.1.2.size _)⟩
        have e0 := FN.2.2.1
        have e1 := FN.2.2.2
        clear FN B3 QX MX M4 Q4 K4 M3 Q3
        go_wp2
        refine bodyPost_ret (v := .agg #[.slice ua un uc, .slice ta tn tc]) (by simp [results, Try.results34, go_sem, c0, c1]) rfl ?_
        exact ⟨_, _, _, _, _, _, _, rfl, HF.out.1, Moved.mono HF.out.2 (by omega)⟩


end Go.Proofs.Ytekheacbmbbpmaa.Drr
