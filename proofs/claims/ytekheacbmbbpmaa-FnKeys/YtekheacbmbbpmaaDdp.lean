/-
  What chapter 5's drawn sentences may be: some lists of columns, some lists of sentences; which ones nothing asks.
-/
import Derived.Test.YtekheacbmbbpmaaDraw1
import Derived.Test.YtekheacbmbbpmaaSc
import Derived.Test.YtekheacbmbbpmaaLsa
import Derived.Test.YtekheacbmbbpmaaDlk
import Derived.Test.YtekheacbmbbpmaaApp
import Derived.Test.YtekheacbmbbpmaaMis
namespace Go.Proofs.Ytekheacbmbbpmaa.Ddp
open Go.RowKit
open Go.Proofs.Ytekheacbmbbpmaa.Frame Go.Proofs.Ytekheacbmbbpmaa.Mem Go.Proofs.Ytekheacbmbbpmaa.Ints Go.Proofs.Ytekheacbmbbpmaa.Kep Go.Proofs.Ytekheacbmbbpmaa.Lls Go.Proofs.Ytekheacbmbbpmaa.Mis Go.Proofs.Ytekheacbmbbpmaa.Dls Go.Proofs.Ytekheacbmbbpmaa.Dlt Go.Proofs.Ytekheacbmbbpmaa.Dlk Go.Proofs.Ytekheacbmbbpmaa.Cur Go.Proofs.Ytekheacbmbbpmaa.Draw1

theorem is_upto {b : Nat} {t : Int} {w w' : World} (h : Is b t w) (hs : w.heap.size ≤ w'.heap.size) (hb : ∀ k, k ≤ b → w'.heap[k]? = w.heap[k]?) : Is b t w' := by
  obtain ⟨a, len, cap, zs, at_, seed, hr, hne, c0, c1, c2, ha0, hat, hsd, f1, f2⟩ := h
  have hc : ∀ o, w'.cell? ⟨b, o, none⟩ = w.cell? ⟨b, o, none⟩ := fun o => World.cell?_of_block (w := w) (hb b (Nat.le_refl _))
  have hf : ∀ o, w'.frozen? ⟨b, o, none⟩ = w.frozen? ⟨b, o, none⟩ := fun o => by have := hb b (Nat.le_refl _); simp [World.frozen?, this]
  refine ⟨a, len, cap, zs, at_, seed, ⟨hr.len, hr.fits, hr.max, hr.wf, fun h0 => ?_⟩, hne, by rw [hc]; exact c0, by rw [hc]; exact c1, by rw [hc]; exact c2, ha0, hat, hsd, by rw [hf]; exact f1, by rw [hf]; exact f2⟩
  obtain ⟨c, off, rfl, hlt, hcc⟩ := hr.cells h0
  have hcb : c < b := hne _ rfl h0
  exact ⟨c, off, rfl, by omega, fun i hi => by rw [World.cell?_of_block (w := w) (hb c (by omega))]; exact hcc i hi⟩
theorem Moved.upon {b : Nat} {t : Int} {w w1 w2 : World} (m : Moved b t w w1) (hb : b < w.heap.size) (h : Below w.heap.size w1 w2) : Moved b t w w2 :=
  ⟨is_upto m.1 h.size (fun k hk => h.block k (by omega)), ⟨h.os.trans m.2.os, h.tape.trans m.2.tape, h.output.trans m.2.output, Nat.le_trans m.2.size h.size, fun k hk hne => (h.block k hk).trans (m.2.block k hk hne)⟩⟩
theorem Moved.mono {b : Nat} {t t' : Int} {w w' : World} (m : Moved b t w w') (ht : t ≤ t') : Moved b t' w w' := ⟨Is.mono m.1 ht, m.2⟩
theorem own_moved {b : Nat} {t : Int} {w w' : World} {base : Nat} {e : TypeId} {a : Option Addr} {n c : Nat} {xs : List Value} (h : w.ownsRow base e 1 (.slice a n c) n xs) (hb : b < base) (m : Moved b t w w') : w'.ownsRow base e 1 (.slice a n c) n xs :=
  own_touch h m.2 (fun x y hx hy => by cases hy; have := (own_block h x hx).1; show x.block ≠ b; omega)
theorem g_touch {w w' : World} {base : Nat} {a b : Option Addr} {n c : Nat} {rs : List LV} (h : OwnG w base a n c rs) (t : OnlyAt b w w') (h0 : ∀ x, a = some x → ∀ y, b = some y → y.block ≠ x.block) (hr : ∀ r ∈ rs, ∀ x, r.a = some x → ∀ y, b = some y → y.block ≠ x.block) : OwnG w' base a n c rs :=
  ⟨own_touch h.outer t (fun x y hx hy => fun e => h0 x hx y hy e.symm), fun r hr' => own_touch (h.inner r hr') t (fun x y hx hy => fun e => hr r hr' x hx y hy e.symm), h.wf, h.apart, h.apart0⟩
theorem g_moved {b : Nat} {t : Int} {w w' : World} {base : Nat} {a : Option Addr} {n c : Nat} {rs : List LV} (h : OwnG w base a n c rs) (hb : b < base) (m : Moved b t w w') : OwnG w' base a n c rs :=
  g_touch h m.2 (fun x hx y hy => by cases hy; have := (own_block h.outer x hx).1; show b ≠ x.block; omega) (fun r hr x hx y hy => by cases hy; have := (own_block (h.inner r hr) x hx).1; show b ≠ x.block; omega)
theorem i_moved {b lo hi : Nat} {t : Int} {w w' : World} {v : Value} {zs : List Int} (h : IOwn w lo hi v zs) (hb : b < lo) (m : Moved b t w w') : IOwn w' lo hi v zs :=
  iOwn_keeps h (Keeps.of_only (lo := b) (hi := b + 1) m.2 (fun x hx => by cases hx; exact ⟨Nat.le_refl _, Nat.lt_succ_self _⟩)) (Or.inr hb)
theorem d_moved {b lo hi : Nat} {t : Int} {w w' : World} {v : Value} {ds : List Dp} (h : DOwn w lo hi v ds) (hb : b < lo) (m : Moved b t w w') : DOwn w' lo hi v ds :=
  dOwn_keeps h (Keeps.of_only (lo := b) (hi := b + 1) m.2 (fun x hx => by cases hx; exact ⟨Nat.le_refl _, Nat.lt_succ_self _⟩)) (Or.inr hb)
theorem dOwn_wide {w : World} {lo hi lo' hi' : Nat} {v : Value} {ds : List Dp} (h : DOwn w lo hi v ds) (h1 : lo' ≤ lo) (h2 : hi ≤ hi') : DOwn w lo' hi' v ds := by
  obtain ⟨a, n, cap, rs, hv, ho, hp, hs, ha, hr⟩ := h
  exact ⟨a, n, cap, rs, hv, ⟨own_base ho.outer h1, fun r hr' => own_base (ho.inner r hr') h1, ho.wf, ho.apart, ho.apart0⟩, hp, hs, fun x hx => ⟨Nat.le_trans h1 (ha x hx).1, Nat.lt_of_lt_of_le (ha x hx).2 h2⟩, fun r hr' x hx => ⟨Nat.le_trans h1 (hr r hr' x hx).1, Nat.lt_of_lt_of_le (hr r hr' x hx).2 h2⟩⟩
theorem d_of {w : World} {base : Nat} {a : Option Addr} {n c : Nat} {rs : List LV} (h : OwnG w base a n c rs) (hn : n ≤ 100) (hr : ∀ r ∈ rs, r.zs.length ≤ 8) : DOwn w base w.heap.size (.slice a n c) (dpl rs) := by
  refine ⟨a, n, c, rs, rfl, h, rfl, ?_, fun x hx => own_block h.outer x hx, fun r hr x hx => h.lt r hr x hx⟩
  have hl := h.len
  have : ∀ (l : List LV), (∀ r ∈ l, r.zs.length ≤ 8) → (∀ r ∈ l, r.zs.length = r.n) → sumL l ≤ (l.length : Int) * 8 := by
    intro l
    induction l with
    | nil => intro _ _; simp [sumL]
    | cons g l ih =>
      intro h1 h2
      have k1 := ih (fun g hg => h1 g (by simp [hg])) (fun g hg => h2 g (by simp [hg]))
      have k2 := h1 g (by simp)
      have k3 := h2 g (by simp)
      simp only [sumL, List.map_cons, List.sum_cons, List.length_cons] at *
      omega
  have := this rs hr h.vlen
  omega
theorem intNeD : (3 : TypeId) ≠ 36 := by decide
theorem g_push {W W' : World} {base m c c' : Nat} {a a' : Option Addr} {rs : List LV} {r q : LV} (h : OwnG W base a m c rs) (hr : W.ownsRow base 3 1 (.slice r.a r.n r.c) r.n (ints .i64 r.zs)) (hq : W.ownsRow base 3 1 (.slice q.a q.n q.c) q.n (ints .i64 q.zs)) (hw : ∀ z ∈ r.zs, (Lit.int .i64 z).wf = true) (hw2 : ∀ z ∈ q.zs, (Lit.int .i64 z).wf = true) (hf : ∀ s ∈ rs, Far s.a r.a ∧ Far s.a q.a) (hrq : Far r.a q.a)
    (hg : W.grownBy W' (Value.slice a m c).ownBlock) (ho : W'.ownsRow base 36 2 (.slice a' (m + 1) c') (m + 1) (lcells (rs ++ [r, q]))) : OwnG W' base a' (m + 1) c' (rs ++ [r, q]) := by
  have kept : ∀ s ∈ rs ++ [r, q], W'.ownsRow base 3 1 (.slice s.a s.n s.c) s.n (ints .i64 s.zs) := fun s hs => by
    rcases List.mem_append.1 hs with hs | hs
    · exact Sc.own_kept (h.inner s hs) h.outer intNeD hg
    · rcases List.mem_cons.1 hs with rfl | hs
      · exact Sc.own_kept hr h.outer intNeD hg
      · rw [List.mem_singleton.1 hs]; exact Sc.own_kept hq h.outer intNeD hg
  refine ⟨ho, kept, fun s hs => ?_, ?_, fun s hs => Far.symm (Sc.own_far (kept s hs) ho intNeD)⟩
  · rcases List.mem_append.1 hs with hs | hs
    · exact h.wf s hs
    · rcases List.mem_cons.1 hs with rfl | hs
      · exact hw
      · rw [List.mem_singleton.1 hs]; exact hw2
  · rw [List.pairwise_append]
    refine ⟨h.apart, ?_, fun s hs t ht => ?_⟩
    · exact List.pairwise_cons.2 ⟨fun t ht => by rw [List.mem_singleton.1 ht]; exact hrq, List.pairwise_singleton _ _⟩
    · rcases List.mem_cons.1 ht with rfl | ht
      · exact (hf s hs).1
      · rw [List.mem_singleton.1 ht]; exact (hf s hs).2
theorem news_two (w : World) (u v : Value) (t : TypeId) : 0 < 1 → ∃ ad, (some ⟨w.heap.size, 0, none⟩ : Option Addr) = some ad ∧ ∀ j x, ([u, v] : List Value)[j]? = some x → (w.alloc (.cells #[u, v] t)).cell? (ad.add j) = some x := fun _ => ⟨_, rfl, fun j x hx => by
  rcases j with _ | _ | j
  · simp at hx
    subst hx
    exact (Lsa.cells_one w u v t).1
  · simp at hx
    subst hx
    exact (Lsa.cells_one w u v t).2
  · simp at hx⟩

/-- How many columns. -/
theorem cols (b : Nat) (t : Int) (w : World) (h : Is b t w) (ht : t ≤ 900000) :
    Calls Try.prog 43 #[.pointer (some ⟨b, 0, none⟩)] w fun e w' => ∃ x : Int, e = .returned (.int .i64 x) ∧ 0 ≤ x ∧ x ≤ 7 ∧ Moved b (t + 2) w w' := by
  have H : Hid (Is b t w) := h
  have hbl := h.lt
  clear h
  go_enter Try.func43, Try.ntmps43
  go_wp2_with fail
  refine (among b t _ 8 8 [0, 1, 3, 4, 4, 5, 6, 7] _ (H.out.below (below_alloc _ _)) (isRow_lit w 3 [0, 1, 3, 4, 4, 5, 6, 7] (by decide) (lit_wf (by decide))) (fun x hx => by cases hx; show w.heap.size ≠ b; omega) (by omega) (by omega) (by omega)).mono ?_
  rintro e w1 ⟨x, rfl, hx, hl⟩
  have HL : Hid _ := hl
  have HX : Hid (0 ≤ x ∧ x ≤ 7) := by
    simp only [List.mem_cons, List.not_mem_nil, or_false] at hx
    show _ ∧ _
    omega
  clear hl hx
  go_wp2
  go_ret
  exact ⟨x, rfl, HX.out.1, HX.out.2, HL.out.1, (OnlyAt.of_below (below_alloc _ _)).trans HL.out.2⟩

/-- A drawn list of columns. -/
def ColsD (b : Nat) (t : Int) (w : World) (e : Ending) (w' : World) : Prop := ∃ (a : Option Addr) (n c : Nat) (zs : List Int), e = .returned (.slice a n c) ∧ w'.ownsRow w.heap.size 3 1 (.slice a n c) n (ints .i64 zs) ∧ (∀ z ∈ zs, (Lit.int .i64 z).wf = true) ∧ n ≤ 8 ∧ Moved b (t + 20) w w'

set_option maxRecDepth 10000 in
set_option maxHeartbeats 3200000 in
theorem someCols (b : Nat) (t : Int) (cols : Int) (w : World) (h : Is b t w) (ht : t ≤ 600000) (hc0 : 0 ≤ cols) (hc7 : cols ≤ 7) :
    Calls Try.prog 35 #[.pointer (some ⟨b, 0, none⟩), .int .i64 cols] w (ColsD b t w) := by
  obtain ⟨i0, hi, hz0, hz1, hz2⟩ := info_parts Ints.info
  have hbl := h.lt
  have H : Hid (Is b t w) := h
  clear h
  obtain ⟨C, rfl⟩ : ∃ C : Nat, cols = (C : Int) := ⟨cols.toNat, by omega⟩
  have hC : C ≤ 7 := by omega
  clear hc0 hc7
  have R0 : Hid (w.ownsRow w.heap.size 3 1 (.slice none 0 0) 0 (ints .i64 [])) := World.ownsRow_nil _ _ _ _
  have M0 : Hid (Moved b t w w) := ⟨H.out, OnlyAt.refl _ _⟩
  go_enter Try.func35, Try.ntmps35
  go_wp2_with fail
  go_loopw [5, 6] (fun vl vk wr => ∃ (k n c : Nat) (a : Option Addr) (zs : List Int), k ≤ C ∧ n ≤ k ∧ vk = .int .i64 k ∧ vl = .slice a n c ∧ wr.ownsRow w.heap.size 3 1 (.slice a n c) n (ints .i64 zs) ∧ (∀ z ∈ zs, (Lit.int .i64 z).wf = true) ∧ Moved b (t + 2 * k) w wr) (fun _ vk _ => C - (intOf vk).toNat)
  case atStart => exact ⟨0, 0, 0, none, [], Nat.zero_le _, Nat.le_refl _, rfl, rfl, R0.out, fun z hz => (by cases hz), Moved.mono M0.out (by omega)⟩
  case round =>
    obtain ⟨k, n, c, a, zs, hk, hn, rfl, rfl, hr, hw, hm⟩ := hrel
    rename World => wk
    have RR : Hid (wk.ownsRow w.heap.size 3 1 (.slice a n c) n (ints .i64 zs)) := hr
    have WF : Hid (∀ z ∈ zs, (Lit.int .i64 z).wf = true) := hw
    have HM : Hid (Moved b (t + 2 * k) w wk) := hm
    clear hr hw hm R0 M0
    by_cases hlt : k < C
    · go_wp2_with fail
      refine (Cur.one b _ 3 _ HM.out.1 (by omega) (by omega) (by omega)).mono ?_
      rintro e w2 ⟨o2, rfl, hl2⟩
      have M2 : Hid (Moved b (t + 2 * ((k + 1 : Nat) : Int)) w w2) := Moved.mono (HM.out.next hl2) (by omega)
      have R2 : Hid (w2.ownsRow w.heap.size 3 1 (.slice a n c) n (ints .i64 zs)) := own_moved RR.out hbl hl2
      clear hl2 RR HM
      cases o2
      · go_wp2
        go_roundw
        case rel => exact ⟨k + 1, n, c, a, zs, by omega, by omega, by go_num, rfl, R2.out, WF.out, M2.out⟩
        case measure => simp [intOf]; omega
      · have R3 : Hid ((w2.alloc (.cells #[.int .i64 (k : Int)] 3)).ownsRow w.heap.size 3 1 (.slice a n c) n (ints .i64 zs)) := own_below R2.out ((Below.refl _ _).alloc (Nat.le_refl _) _)
        have M3 : Hid (Moved b (t + 2 * ((k + 1 : Nat) : Int)) w (w2.alloc (.cells #[.int .i64 (k : Int)] 3))) := Moved.upon M2.out hbl ((Below.refl _ _).alloc M2.out.2.size _)
        have HS3 : Hid (w.heap.size ≤ (w2.alloc (.cells #[.int .i64 (k : Int)] 3)).heap.size) := M3.out.2.size
        have NEW3 : Hid (0 < 1 → ∃ ad, (some ⟨w2.heap.size, 0, none⟩ : Option Addr) = some ad ∧ ∀ j u, ([.int .i64 (k : Int)] : List Value)[j]? = some u → (w2.alloc (.cells #[.int .i64 (k : Int)] 3)).cell? (ad.add j) = some u) := news_one w2 _ _
        go_wp2_with (at_builtin; refine App.wpList_append_all _ rfl _ _ 34 rfl w.heap.size 3 i0 (.int .i64 0) 1 8 Try.underlying34 hi hz0 hz1 hz2 rfl (by decide) _ n _ rfl R3.out _ 1 _ [.int .i64 (k : Int)] rfl rfl NEW3.out (by simp [Value.oneCell']) (by unfold maxLen; omega) (by omega) HS3.out ?_)
        intro a4 c4 w4 hown4 hgrow4
        have B4 : Below w.heap.size (w2.alloc (.cells #[.int .i64 (k : Int)] 3)) w4 := below_app (Below.refl _ _) R3.out hgrow4 HS3.out (Nat.le_refl _)
        have M4 : Hid (Moved b (t + 2 * ((k + 1 : Nat) : Int)) w w4) := Moved.upon M3.out hbl B4
        have R4 : Hid (w4.ownsRow w.heap.size 3 1 (.slice a4 (n + 1) c4) (n + 1) (ints .i64 (zs ++ [(k : Int)]))) := by rw [show ints .i64 (zs ++ [(k : Int)]) = ints .i64 zs ++ [.int .i64 (k : Int)] by simp [ints]]; exact hown4
        have WF4 : Hid (∀ z ∈ zs ++ [(k : Int)], (Lit.int .i64 z).wf = true) := fun z hz => by
          rcases List.mem_append.1 hz with hz | hz
          · exact WF.out z hz
          · rw [List.mem_singleton.1 hz]; exact int_wf _ (by omega) (by omega)
        clear hown4 hgrow4 B4 R3 M3 NEW3
        go_wp2
        go_roundw
        case rel => exact ⟨k + 1, n + 1, c4, a4, _, by omega, by omega, by go_num, rfl, R4.out, WF4.out, M4.out⟩
        case measure => simp [intOf]; omega
    · obtain rfl : k = C := by omega
      go_wp2_with fail
      refine (Cur.one b _ 40 _ HM.out.1 (by omega) (by omega) (by omega)).mono ?_
      rintro e w2 ⟨o2, rfl, hl2⟩
      have M2 : Hid (Moved b (t + 20) w w2) := Moved.mono (HM.out.next hl2) (by omega)
      have R2 : Hid (w2.ownsRow w.heap.size 3 1 (.slice a n c) n (ints .i64 zs)) := own_moved RR.out hbl hl2
      clear hl2 RR HM
      cases o2
      · go_wp2
        go_ret
        exact ⟨a, n, c, zs, rfl, R2.out, WF.out, by omega, M2.out⟩
      · have R3 : Hid ((w2.alloc (.cells #[.int .i64 (k : Int)] 3)).ownsRow w.heap.size 3 1 (.slice a n c) n (ints .i64 zs)) := own_below R2.out ((Below.refl _ _).alloc (Nat.le_refl _) _)
        have M3 : Hid (Moved b (t + 20) w (w2.alloc (.cells #[.int .i64 (k : Int)] 3))) := Moved.upon M2.out hbl ((Below.refl _ _).alloc M2.out.2.size _)
        have HS3 : Hid (w.heap.size ≤ (w2.alloc (.cells #[.int .i64 (k : Int)] 3)).heap.size) := M3.out.2.size
        have NEW3 : Hid (0 < 1 → ∃ ad, (some ⟨w2.heap.size, 0, none⟩ : Option Addr) = some ad ∧ ∀ j u, ([.int .i64 (k : Int)] : List Value)[j]? = some u → (w2.alloc (.cells #[.int .i64 (k : Int)] 3)).cell? (ad.add j) = some u) := news_one w2 _ _
        go_wp2_with (at_builtin; refine App.wpList_append_all _ rfl _ _ 34 rfl w.heap.size 3 i0 (.int .i64 0) 1 8 Try.underlying34 hi hz0 hz1 hz2 rfl (by decide) _ n _ rfl R3.out _ 1 _ [.int .i64 (k : Int)] rfl rfl NEW3.out (by simp [Value.oneCell']) (by unfold maxLen; omega) (by omega) HS3.out ?_)
        intro a4 c4 w4 hown4 hgrow4
        have B4 : Below w.heap.size (w2.alloc (.cells #[.int .i64 (k : Int)] 3)) w4 := below_app (Below.refl _ _) R3.out hgrow4 HS3.out (Nat.le_refl _)
        have M4 : Hid (Moved b (t + 20) w w4) := Moved.upon M3.out hbl B4
        have R4 : Hid (w4.ownsRow w.heap.size 3 1 (.slice a4 (n + 1) c4) (n + 1) (ints .i64 (zs ++ [(k : Int)]))) := by rw [show ints .i64 (zs ++ [(k : Int)]) = ints .i64 zs ++ [.int .i64 (k : Int)] by simp [ints]]; exact hown4
        have WF4 : Hid (∀ z ∈ zs ++ [(k : Int)], (Lit.int .i64 z).wf = true) := fun z hz => by
          rcases List.mem_append.1 hz with hz | hz
          · exact WF.out z hz
          · rw [List.mem_singleton.1 hz]; exact int_wf _ (by omega) (by omega)
        clear hown4 hgrow4 B4 R3 M3 NEW3
        go_wp2
        go_ret
        exact ⟨a4, n + 1, c4, _, rfl, R4.out, WF4.out, by omega, M4.out⟩

/-- Drawn sentences. -/
def DepsD (b : Nat) (t : Int) (w : World) (e : Ending) (w' : World) : Prop := ∃ (v : Value) (ds : List Dp), e = .returned v ∧ DOwn w' w.heap.size w'.heap.size v ds ∧ Moved b (t + 500) w w'

set_option maxRecDepth 10000 in
set_option maxHeartbeats 6400000 in
theorem deps (b : Nat) (t : Int) (cols : Int) (w : World) (h : Is b t w) (ht : t ≤ 500000) (hc0 : 0 ≤ cols) (hc7 : cols ≤ 7) :
    Calls Try.prog 44 #[.pointer (some ⟨b, 0, none⟩), .int .i64 cols] w (DepsD b t w) := by
  obtain ⟨i0, hi, hz0, hz1, hz2⟩ := info_parts infoD
  have hbl := h.lt
  have H : Hid (Is b t w) := h
  clear h
  go_enter Try.func44, Try.ntmps44
  go_wp2_with fail
  refine (Cur.pick b t 6 _ H.out (by omega) (by omega) (by omega)).mono ?_
  rintro e w1 ⟨n0, rfl, hn0, hn1, hl1⟩
  have M1 : Hid (Moved b (t + 2) w w1) := hl1
  obtain ⟨N, rfl⟩ : ∃ N : Nat, n0 = (N : Int) := ⟨n0.toNat, by omega⟩
  clear hl1
  go_wp2_with fail
  refine (Cur.one b _ 20 _ M1.out.1 (by omega) (by omega) (by omega)).mono ?_
  rintro e w2 ⟨o2, rfl, hl2⟩
  have M2 : Hid (Moved b (t + 6) w w2) := Moved.mono (M1.out.next hl2) (by omega)
  clear hl2
  cases o2
  · have hN9 : N ≤ 9 := by omega
    clear hn0 hn1 M1 H
    go_wp2_with fail
    have O2 : Hid (OwnG w2 w.heap.size none 0 0 []) := ⟨World.ownsRow_nil _ _ _ _, fun r hr => (by cases hr), fun r hr => (by cases hr), List.Pairwise.nil, fun r hr => (by cases hr)⟩
    go_loopw [5, 6] (fun vl vq wr => ∃ (q k : Nat) (ga : Option Addr) (gc : Nat) (rs : List LV), q + k ≤ 9 ∧ vq = .int .i64 q ∧ vl = .slice ga k gc ∧ OwnG wr w.heap.size ga k gc rs ∧ (∀ r ∈ rs, r.zs.length ≤ 8) ∧ Moved b (t + 10 + 40 * k) w wr) (fun _ vq _ => (intOf vq).toNat)
    case atStart => exact ⟨N, 0, none, 0, [], by omega, rfl, rfl, O2.out, fun r hr => (by cases hr), Moved.mono M2.out (by omega)⟩
    case round =>
      obtain ⟨q, k, ga, gc, rs, hqk, rfl, rfl, ho, hs, hm⟩ := hrel
      rename World => wk
      have HO : Hid (OwnG wk w.heap.size ga k gc rs) := ho
      have HS : Hid (∀ r ∈ rs, r.zs.length ≤ 8) := hs
      have HM : Hid (Moved b (t + 10 + 40 * k) w wk) := hm
      clear ho hs hm O2
      by_cases hq0 : 0 < q
      · obtain ⟨p, rfl⟩ : ∃ p, q = p + 1 := ⟨q - 1, by omega⟩
        have hsk : w.heap.size ≤ wk.heap.size := HM.out.2.size
        go_wp2_with fail
        refine (someCols b _ cols _ HM.out.1 (by omega) hc0 hc7).mono ?_
        rintro e w4 ⟨ua, un, uc, xs, rfl, hr4, hw4, hn4, hl4⟩
        have M4 : Hid (Moved b (t + 30 + 40 * k) w w4) := Moved.mono (HM.out.next hl4) (by omega)
        have O4 : Hid (OwnG w4 w.heap.size ga k gc rs) := g_moved HO.out hbl hl4
        have U4 : Hid (w4.ownsRow wk.heap.size 3 1 (.slice ua un uc) un (ints .i64 xs)) := hr4
        have UW : Hid (∀ z ∈ xs, (Lit.int .i64 z).wf = true) := hw4
        have FAR4 : Hid (∀ s ∈ rs, ∀ x, s.a = some x → x.block < wk.heap.size) := fun s hs x hx => (HO.out.lt s hs x hx).2
        have Z4 : Hid (wk.heap.size ≤ w4.heap.size) := hl4.2.size
        clear hl4 hr4 hw4 HM HO
        go_wp2_with fail
        refine (someCols b _ cols _ M4.out.1 (by omega) hc0 hc7).mono ?_
        rintro e w5 ⟨ta, tn, tc, ys, rfl, hr5, hw5, hn5, hl5⟩
        have M5 : Hid (Moved b (t + 10 + 40 * ((k + 1 : Nat) : Int)) w w5) := Moved.mono (M4.out.next hl5) (by omega)
        have O5 : Hid (OwnG w5 w.heap.size ga k gc rs) := g_moved O4.out hbl hl5
        have U5 : Hid (w5.ownsRow wk.heap.size 3 1 (.slice ua un uc) un (ints .i64 xs)) := own_moved U4.out (by omega) hl5
        have T5 : Hid (w5.ownsRow w4.heap.size 3 1 (.slice ta tn tc) tn (ints .i64 ys)) := hr5
        have TW : Hid (∀ z ∈ ys, (Lit.int .i64 z).wf = true) := hw5
        have FUT : Hid (Far ua ta) := fun x y hx hy => by
          have h1 := (own_block U4.out x hx).2
          have h2 := (own_block hr5 y hy).1
          omega
        clear hl5 hr5 hw5 M4 O4 U4
        have M6 : Hid (Moved b (t + 10 + 40 * ((k + 1 : Nat) : Int)) w (w5.alloc (.cells #[.slice ua un uc, .slice ta tn tc] 36))) := Moved.upon M5.out hbl ((Below.refl _ _).alloc M5.out.2.size _)
        have O6 : Hid (OwnG (w5.alloc (.cells #[.slice ua un uc, .slice ta tn tc] 36)) w.heap.size ga k gc rs) := O5.out.below ((Below.refl _ _).alloc (Nat.le_refl _) _)
        have U6 : Hid ((w5.alloc (.cells #[.slice ua un uc, .slice ta tn tc] 36)).ownsRow w.heap.size 3 1 (.slice ua un uc) un (ints .i64 xs)) := own_base (own_below U5.out ((Below.refl _ _).alloc (Nat.le_refl _) _)) hsk
        have T6 : Hid ((w5.alloc (.cells #[.slice ua un uc, .slice ta tn tc] 36)).ownsRow w.heap.size 3 1 (.slice ta tn tc) tn (ints .i64 ys)) := own_base (own_below T5.out ((Below.refl _ _).alloc (Nat.le_refl _) _)) (Nat.le_trans hsk Z4.out)
        have NEW6 : Hid (0 < 1 → ∃ ad, (some ⟨w5.heap.size, 0, none⟩ : Option Addr) = some ad ∧ ∀ j u, ([.slice ua un uc, .slice ta tn tc] : List Value)[j]? = some u → (w5.alloc (.cells #[.slice ua un uc, .slice ta tn tc] 36)).cell? (ad.add j) = some u) := news_two w5 _ _ _
        have FF6 : Hid (∀ s ∈ rs, Far s.a ua ∧ Far s.a ta) := fun s hs => ⟨fun x y hx hy => by
          have h1 := FAR4.out s hs x hx
          have h2 := (own_block U5.out y hy).1
          omega, fun x y hx hy => by
          have h1 := FAR4.out s hs x hx
          have h2 := (own_block T5.out y hy).1
          have h3 := Z4.out
          omega⟩
        have HS6 : Hid (w.heap.size ≤ (w5.alloc (.cells #[.slice ua un uc, .slice ta tn tc] 36)).heap.size) := M6.out.2.size
        have XL : Hid (xs.length = un ∧ ys.length = tn) := ⟨by have h := U5.out.1; rw [ints_length] at h; omega, by have h := T5.out.1; rw [ints_length] at h; omega⟩
        clear M5 O5 U5 T5 FAR4
        go_wp2_with (at_builtin; refine App.wpList_append_all _ rfl _ _ 23 rfl w.heap.size 36 i0 (.agg #[.slice none 0 0, .slice none 0 0]) 2 48 Try.underlying23 hi hz0 hz1 hz2 rfl (by decide) _ k _ rfl O6.out.outer _ 1 _ [.slice ua un uc, .slice ta tn tc] rfl rfl NEW6.out (by simp [Value.oneCell']) (by unfold maxLen; omega) (by omega) HS6.out ?_)
        intro a9 c9 w9 hown9 hgrow9
        have O9 : Hid (OwnG w9 w.heap.size a9 (k + 1) c9 (rs ++ [⟨ua, un, uc, xs⟩, ⟨ta, tn, tc, ys⟩])) := g_push (r := ⟨ua, un, uc, xs⟩) (q := ⟨ta, tn, tc, ys⟩) O6.out U6.out T6.out UW.out TW.out FF6.out FUT.out hgrow9 (by rw [lcells_append]; exact hown9)
        have B9 : Below w.heap.size (w5.alloc (.cells #[.slice ua un uc, .slice ta tn tc] 36)) w9 := below_app (Below.refl _ _) O6.out.outer hgrow9 HS6.out (Nat.le_refl _)
        have M9 : Hid (Moved b (t + 10 + 40 * ((k + 1 : Nat) : Int)) w w9) := Moved.upon M6.out hbl B9
        have S9 : Hid (∀ r ∈ rs ++ [⟨ua, un, uc, xs⟩, ⟨ta, tn, tc, ys⟩], r.zs.length ≤ 8) := fun r hr => by
          rcases List.mem_append.1 hr with hr | hr
          · exact HS.out r hr
          · have := XL.out
            rcases List.mem_cons.1 hr with rfl | hr
            · show xs.length ≤ 8; omega
            · rw [List.mem_singleton.1 hr]; show ys.length ≤ 8; omega
        clear hown9 hgrow9 B9 M6 O6 U6 T6 NEW6 FF6
        go_wp2
        go_roundw
        case rel => exact ⟨p, k + 1, a9, c9, _, by omega, by go_num, rfl, O9.out, S9.out, M9.out⟩
        case measure => simp [intOf]
      · obtain rfl : q = 0 := by omega
        have hmI : ¬ ((0 : Nat) : Int) > 0 := by omega
        have F : Hid (DOwn wk w.heap.size wk.heap.size (.slice ga k gc) (dpl rs)) := d_of HO.out (by omega) HS.out
        have M7 : Hid (Moved b (t + 500) w wk) := Moved.mono HM.out (by omega)
        go_wp2_with fail
        go_ret
        exact ⟨_, _, rfl, F.out, M7.out⟩
  · clear hn0 hn1
    go_wp2_with fail
    refine (Cur.pick b _ 2 _ M2.out.1 (by omega) (by omega) (by omega)).mono ?_
    rintro e w3 ⟨n3, rfl, hn30, hn31, hl3⟩
    have M3 : Hid (Moved b (t + 8) w w3) := Moved.mono (M2.out.next hl3) (by omega)
    obtain ⟨K, rfl⟩ : ∃ K : Nat, n3 = (K : Int) := ⟨n3.toNat, by omega⟩
    have hK : K ≤ 1 := by omega
    clear hl3 hn30 hn31 M1 M2 H
    rename Hid (Moved b (t + 8) w w3) => M2
    rename World => w2
    go_wp2_with fail
    rw [show (8 + (K : Int)) = ((8 + K : Nat) : Int) by omega]
    obtain ⟨Q, hQ⟩ : ∃ Q, Q = 8 + K := ⟨_, rfl⟩
    rw [← hQ]
    have hN9 : Q ≤ 9 := by omega
    clear hQ hK
    have O2 : Hid (OwnG w2 w.heap.size none 0 0 []) := ⟨World.ownsRow_nil _ _ _ _, fun r hr => (by cases hr), fun r hr => (by cases hr), List.Pairwise.nil, fun r hr => (by cases hr)⟩
    go_loopw [5, 6] (fun vl vq wr => ∃ (q k : Nat) (ga : Option Addr) (gc : Nat) (rs : List LV), q + k ≤ 9 ∧ vq = .int .i64 q ∧ vl = .slice ga k gc ∧ OwnG wr w.heap.size ga k gc rs ∧ (∀ r ∈ rs, r.zs.length ≤ 8) ∧ Moved b (t + 10 + 40 * k) w wr) (fun _ vq _ => (intOf vq).toNat)
    case atStart => exact ⟨Q, 0, none, 0, [], by omega, rfl, rfl, O2.out, fun r hr => (by cases hr), Moved.mono M2.out (by omega)⟩
    case round =>
      obtain ⟨q, k, ga, gc, rs, hqk, rfl, rfl, ho, hs, hm⟩ := hrel
      rename World => wk
      have HO : Hid (OwnG wk w.heap.size ga k gc rs) := ho
      have HS : Hid (∀ r ∈ rs, r.zs.length ≤ 8) := hs
      have HM : Hid (Moved b (t + 10 + 40 * k) w wk) := hm
      clear ho hs hm O2
      by_cases hq0 : 0 < q
      · obtain ⟨p, rfl⟩ : ∃ p, q = p + 1 := ⟨q - 1, by omega⟩
        have hsk : w.heap.size ≤ wk.heap.size := HM.out.2.size
        go_wp2_with fail
        refine (someCols b _ cols _ HM.out.1 (by omega) hc0 hc7).mono ?_
        rintro e w4 ⟨ua, un, uc, xs, rfl, hr4, hw4, hn4, hl4⟩
        have M4 : Hid (Moved b (t + 30 + 40 * k) w w4) := Moved.mono (HM.out.next hl4) (by omega)
        have O4 : Hid (OwnG w4 w.heap.size ga k gc rs) := g_moved HO.out hbl hl4
        have U4 : Hid (w4.ownsRow wk.heap.size 3 1 (.slice ua un uc) un (ints .i64 xs)) := hr4
        have UW : Hid (∀ z ∈ xs, (Lit.int .i64 z).wf = true) := hw4
        have FAR4 : Hid (∀ s ∈ rs, ∀ x, s.a = some x → x.block < wk.heap.size) := fun s hs x hx => (HO.out.lt s hs x hx).2
        have Z4 : Hid (wk.heap.size ≤ w4.heap.size) := hl4.2.size
        clear hl4 hr4 hw4 HM HO
        go_wp2_with fail
        refine (someCols b _ cols _ M4.out.1 (by omega) hc0 hc7).mono ?_
        rintro e w5 ⟨ta, tn, tc, ys, rfl, hr5, hw5, hn5, hl5⟩
        have M5 : Hid (Moved b (t + 10 + 40 * ((k + 1 : Nat) : Int)) w w5) := Moved.mono (M4.out.next hl5) (by omega)
        have O5 : Hid (OwnG w5 w.heap.size ga k gc rs) := g_moved O4.out hbl hl5
        have U5 : Hid (w5.ownsRow wk.heap.size 3 1 (.slice ua un uc) un (ints .i64 xs)) := own_moved U4.out (by omega) hl5
        have T5 : Hid (w5.ownsRow w4.heap.size 3 1 (.slice ta tn tc) tn (ints .i64 ys)) := hr5
        have TW : Hid (∀ z ∈ ys, (Lit.int .i64 z).wf = true) := hw5
        have FUT : Hid (Far ua ta) := fun x y hx hy => by
          have h1 := (own_block U4.out x hx).2
          have h2 := (own_block hr5 y hy).1
          omega
        clear hl5 hr5 hw5 M4 O4 U4
        have M6 : Hid (Moved b (t + 10 + 40 * ((k + 1 : Nat) : Int)) w (w5.alloc (.cells #[.slice ua un uc, .slice ta tn tc] 36))) := Moved.upon M5.out hbl ((Below.refl _ _).alloc M5.out.2.size _)
        have O6 : Hid (OwnG (w5.alloc (.cells #[.slice ua un uc, .slice ta tn tc] 36)) w.heap.size ga k gc rs) := O5.out.below ((Below.refl _ _).alloc (Nat.le_refl _) _)
        have U6 : Hid ((w5.alloc (.cells #[.slice ua un uc, .slice ta tn tc] 36)).ownsRow w.heap.size 3 1 (.slice ua un uc) un (ints .i64 xs)) := own_base (own_below U5.out ((Below.refl _ _).alloc (Nat.le_refl _) _)) hsk
        have T6 : Hid ((w5.alloc (.cells #[.slice ua un uc, .slice ta tn tc] 36)).ownsRow w.heap.size 3 1 (.slice ta tn tc) tn (ints .i64 ys)) := own_base (own_below T5.out ((Below.refl _ _).alloc (Nat.le_refl _) _)) (Nat.le_trans hsk Z4.out)
        have NEW6 : Hid (0 < 1 → ∃ ad, (some ⟨w5.heap.size, 0, none⟩ : Option Addr) = some ad ∧ ∀ j u, ([.slice ua un uc, .slice ta tn tc] : List Value)[j]? = some u → (w5.alloc (.cells #[.slice ua un uc, .slice ta tn tc] 36)).cell? (ad.add j) = some u) := news_two w5 _ _ _
        have FF6 : Hid (∀ s ∈ rs, Far s.a ua ∧ Far s.a ta) := fun s hs => ⟨fun x y hx hy => by
          have h1 := FAR4.out s hs x hx
          have h2 := (own_block U5.out y hy).1
          omega, fun x y hx hy => by
          have h1 := FAR4.out s hs x hx
          have h2 := (own_block T5.out y hy).1
          have h3 := Z4.out
          omega⟩
        have HS6 : Hid (w.heap.size ≤ (w5.alloc (.cells #[.slice ua un uc, .slice ta tn tc] 36)).heap.size) := M6.out.2.size
        have XL : Hid (xs.length = un ∧ ys.length = tn) := ⟨by have h := U5.out.1; rw [ints_length] at h; omega, by have h := T5.out.1; rw [ints_length] at h; omega⟩
        clear M5 O5 U5 T5 FAR4
        go_wp2_with (at_builtin; refine App.wpList_append_all _ rfl _ _ 23 rfl w.heap.size 36 i0 (.agg #[.slice none 0 0, .slice none 0 0]) 2 48 Try.underlying23 hi hz0 hz1 hz2 rfl (by decide) _ k _ rfl O6.out.outer _ 1 _ [.slice ua un uc, .slice ta tn tc] rfl rfl NEW6.out (by simp [Value.oneCell']) (by unfold maxLen; omega) (by omega) HS6.out ?_)
        intro a9 c9 w9 hown9 hgrow9
        have O9 : Hid (OwnG w9 w.heap.size a9 (k + 1) c9 (rs ++ [⟨ua, un, uc, xs⟩, ⟨ta, tn, tc, ys⟩])) := g_push (r := ⟨ua, un, uc, xs⟩) (q := ⟨ta, tn, tc, ys⟩) O6.out U6.out T6.out UW.out TW.out FF6.out FUT.out hgrow9 (by rw [lcells_append]; exact hown9)
        have B9 : Below w.heap.size (w5.alloc (.cells #[.slice ua un uc, .slice ta tn tc] 36)) w9 := below_app (Below.refl _ _) O6.out.outer hgrow9 HS6.out (Nat.le_refl _)
        have M9 : Hid (Moved b (t + 10 + 40 * ((k + 1 : Nat) : Int)) w w9) := Moved.upon M6.out hbl B9
        have S9 : Hid (∀ r ∈ rs ++ [⟨ua, un, uc, xs⟩, ⟨ta, tn, tc, ys⟩], r.zs.length ≤ 8) := fun r hr => by
          rcases List.mem_append.1 hr with hr | hr
          · exact HS.out r hr
          · have := XL.out
            rcases List.mem_cons.1 hr with rfl | hr
            · show xs.length ≤ 8; omega
            · rw [List.mem_singleton.1 hr]; show ys.length ≤ 8; omega
        clear hown9 hgrow9 B9 M6 O6 U6 T6 NEW6 FF6
        go_wp2
        go_roundw
        case rel => exact ⟨p, k + 1, a9, c9, _, by omega, by go_num, rfl, O9.out, S9.out, M9.out⟩
        case measure => simp [intOf]
      · obtain rfl : q = 0 := by omega
        have hmI : ¬ ((0 : Nat) : Int) > 0 := by omega
        have F : Hid (DOwn wk w.heap.size wk.heap.size (.slice ga k gc) (dpl rs)) := d_of HO.out (by omega) HS.out
        have M7 : Hid (Moved b (t + 500) w wk) := Moved.mono HM.out (by omega)
        go_wp2_with fail
        go_ret
        exact ⟨_, _, rfl, F.out, M7.out⟩

theorem colsOwn {w w' : World} {a : Option Addr} {n c : Nat} {zs : List Int} (h : w'.ownsRow w.heap.size 3 1 (.slice a n c) n (ints .i64 zs)) (hw : ∀ z ∈ zs, (Lit.int .i64 z).wf = true) (hn : n ≤ 8) : IOwn w' w.heap.size w'.heap.size (.slice a n c) zs :=
  ⟨a, n, c, rfl, h, hw, by omega, fun x hx => own_block h x hx⟩


end Go.Proofs.Ytekheacbmbbpmaa.Ddp
