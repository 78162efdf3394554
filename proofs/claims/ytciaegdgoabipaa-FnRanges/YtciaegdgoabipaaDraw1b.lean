/-
  What chapter 1's drawn values may be.
-/
import Derived.Test.YtciaegdgoabipaaDraw1
namespace Go.Proofs.Ytciaegdgoabipaa.Draw1b
open Go.RowKit
open Go.Proofs.Ytciaegdgoabipaa.Frame Go.Proofs.Ytciaegdgoabipaa.Mem Go.Proofs.Ytciaegdgoabipaa.Cur Go.Proofs.Ytciaegdgoabipaa.Draw1

theorem only_setNew {a : Option Addr} {w w' : World} (h : OnlyAt a w w') {c o : Nat} (hc : w.heap.size ≤ c) (u : Value) : OnlyAt a w (w'.setCell ⟨c, o, none⟩ u) := by
  refine ⟨h.os, h.tape, h.output, by simpa [World.setCell] using h.size, fun k hk hne => ?_⟩
  rw [Below.heap_setCell _ _ _ _ (by show k ≠ c; omega)]
  exact h.block k hk hne

theorem is_setNew {b : Nat} {t : Int} {w : World} (h : Is b t w) {c o : Nat} (hc : b < c) (u : Value) : Is b t (w.setCell ⟨c, o, none⟩ u) :=
  is_blocks h (fun k hk => Below.heap_setCell _ _ _ _ (by show k ≠ c; omega)) (by simp [World.setCell])

/-- The cells of a struct's box behind a move of the reader. -/
theorem box_after {b c : Nat} {t : Int} {w w' : World} (m : Moved b t w w') (hb : b ≠ c) {o : Nat} {v : Value} (h : w.cell? ⟨c, o, none⟩ = some v) : w'.cell? ⟨c, o, none⟩ = some v := by
  rw [m.2.cell (cell_lt h) (fun x hx => by cases hx; exact fun e => hb e.symm)]; exact h
theorem box_frozen {b c : Nat} {t : Int} {w w' : World} (m : Moved b t w w') (hb : b ≠ c) (hlt : c < w.heap.size) {o : Nat} (h : w.frozen? ⟨c, o, none⟩ = false) : w'.frozen? ⟨c, o, none⟩ = false := by
  rw [World.frozen?_of_block (w := w) (m.2.block c hlt (fun x hx => by cases hx; exact fun e => hb e.symm))]; exact h

set_option maxHeartbeats 1600000 in
theorem value (b : Nat) (t : Int) (w : World) (h : Is b t w) (ht : t ≤ 800000) :
    Calls Try.prog 62 #[.pointer (some ⟨b, 0, none⟩)] w fun e w' => ∃ (nu : Bool) (n : Int), e = .returned (.agg #[.bool nu, .int .i64 n]) ∧ (Lit.int .i64 n).wf = true ∧ Moved b (t + 8) w w' := by
  have H : Hid (Is b t w) := h
  have hbl := h.lt
  have hne : b ≠ w.heap.size := by omega
  clear h
  have H0 : Hid (Is b t (w.alloc (.cells #[.bool false, .int .i64 0] 45))) := Is.below H.out (below_alloc _ _)
  go_enter Try.func62, Try.ntmps62
  go_wp2_with fail
  refine (one b t 4 _ H0.out (by omega) (by omega) (by omega)).mono ?_
  rintro e w1 ⟨o1, rfl, hl1⟩
  have s1 : w.heap.size < w1.heap.size := by have := hl1.2.size; simp at this; omega
  have p0 : w1.cell? ⟨w.heap.size, 0, none⟩ = some (.bool false) := box_after hl1 hne (by simp)
  have p1 : w1.cell? ⟨w.heap.size, 1, none⟩ = some (.int .i64 0) := box_after hl1 hne (by simp)
  have g0 : w1.frozen? ⟨w.heap.size, 0, none⟩ = false := box_frozen hl1 hne (by simp) (World.frozen?_alloc_at _ _ _ _ rfl)
  have g1 : w1.frozen? ⟨w.heap.size, 1, none⟩ = false := box_frozen hl1 hne (by simp) (World.frozen?_alloc_at _ _ _ _ rfl)
  have HL1 : Hid (Moved b (t + 2) w w1) := ⟨hl1.1, (OnlyAt.of_below (below_alloc _ _)).trans hl1.2⟩
  clear hl1 H0 H
  cases o1
  · go_wp2_with fail
    refine (one b _ 30 _ HL1.out.1 (by omega) (by omega) (by omega)).mono ?_
    rintro e w2 ⟨o2, rfl, hl2⟩
    have s2 : w.heap.size < w2.heap.size := by have := hl2.2.size; omega
    have q0 : w2.cell? ⟨w.heap.size, 0, none⟩ = some (.bool false) := box_after hl2 hne p0
    have q1 : w2.cell? ⟨w.heap.size, 1, none⟩ = some (.int .i64 0) := box_after hl2 hne p1
    have k0 : w2.frozen? ⟨w.heap.size, 0, none⟩ = false := box_frozen hl2 hne s1 g0
    have k1 : w2.frozen? ⟨w.heap.size, 1, none⟩ = false := box_frozen hl2 hne s1 g1
    have HL2 : Hid (Moved b (t + 4) w w2) := ⟨Is.mono hl2.1 (by omega), HL1.out.2.trans hl2.2⟩
    clear hl2 HL1 p0 p1 g0 g1 s1
    cases o2
    · go_wp2_with fail
      refine (pick b _ 6 _ HL2.out.1 (by omega) (by omega) (by omega)).mono ?_
      rintro e w3 ⟨x, rfl, hx0, hx1, hl3⟩
      have r0 : w3.cell? ⟨w.heap.size, 0, none⟩ = some (.bool false) := box_after hl3 hne q0
      have r1 : w3.cell? ⟨w.heap.size, 1, none⟩ = some (.int .i64 0) := box_after hl3 hne q1
      have m0 : w3.frozen? ⟨w.heap.size, 0, none⟩ = false := box_frozen hl3 hne s2 k0
      have m1 : w3.frozen? ⟨w.heap.size, 1, none⟩ = false := box_frozen hl3 hne s2 k1
      have HL3 : Hid (Moved b (t + 6) w w3) := ⟨Is.mono hl3.1 (by omega), HL2.out.2.trans hl3.2⟩
      clear hl3 HL2 q0 q1 k0 k1 s2
      go_wp2
      exact bodyPost_ret (v := .agg #[.bool false, .int .i64 (x - 1)]) (by simp [results, Try.results62, go_sem, r0, r1]) rfl ⟨false, x - 1, rfl, int_wf _ (by omega) (by omega), is_setNew (is_setNew (Is.mono HL3.out.1 (by omega)) hbl _) hbl _, only_setNew (only_setNew HL3.out.2 (Nat.le_refl _) _) (Nat.le_refl _) _⟩
    · go_wp2_with fail
      refine (one b _ 2 _ HL2.out.1 (by omega) (by omega) (by omega)).mono ?_
      rintro e w3 ⟨o3, rfl, hl3⟩
      have s3 : w.heap.size < w3.heap.size := by have := hl3.2.size; omega
      have r0 : w3.cell? ⟨w.heap.size, 0, none⟩ = some (.bool false) := box_after hl3 hne q0
      have r1 : w3.cell? ⟨w.heap.size, 1, none⟩ = some (.int .i64 0) := box_after hl3 hne q1
      have m0 : w3.frozen? ⟨w.heap.size, 0, none⟩ = false := box_frozen hl3 hne s2 k0
      have m1 : w3.frozen? ⟨w.heap.size, 1, none⟩ = false := box_frozen hl3 hne s2 k1
      have HL3 : Hid (Moved b (t + 6) w w3) := ⟨Is.mono hl3.1 (by omega), HL2.out.2.trans hl3.2⟩
      have bl3 : b < w3.heap.size := hl3.1.lt
      clear hl3 HL2 q0 q1 k0 k1 s2
      go_wp2_with fail
      refine (among b _ _ 4 4 [-1001, -1000, 1000, 1001] _ (Is.below HL3.out.1 (below_alloc _ _)) (isRow_lit w3 3 [-1001, -1000, 1000, 1001] (by decide) (lit_wf (by decide))) (fun x hx => by cases hx; show w3.heap.size ≠ b; omega) (by omega) (by omega) (by omega)).mono ?_
      rintro e w4 ⟨z, rfl, hz, hl4⟩
      have HZ : Hid ((Lit.int .i64 z).wf = true) := lit_wf (zs := [-1001, -1000, 1000, 1001]) (by decide) z hz
      have t0 : w4.cell? ⟨w.heap.size, 0, none⟩ = some (.bool false) := box_after hl4 hne (by rw [World.cell?_alloc_past _ _ _ s3]; exact r0)
      have t1 : w4.cell? ⟨w.heap.size, 1, none⟩ = some (.int .i64 0) := box_after hl4 hne (by rw [World.cell?_alloc_past _ _ _ s3]; exact r1)
      have n0 : w4.frozen? ⟨w.heap.size, 0, none⟩ = false := box_frozen hl4 hne (by simp; omega) (by rw [(Frame.bcell (below_alloc _ _)).2.1 _ _ s3]; exact m0)
      have n1 : w4.frozen? ⟨w.heap.size, 1, none⟩ = false := box_frozen hl4 hne (by simp; omega) (by rw [(Frame.bcell (below_alloc _ _)).2.1 _ _ s3]; exact m1)
      have HL4 : Hid (Moved b (t + 8) w w4) := ⟨Is.mono hl4.1 (by omega), (HL3.out.2.trans (OnlyAt.of_below (below_alloc _ _))).trans hl4.2⟩
      clear hl4 HL3 r0 r1 m0 m1 hz
      go_wp2
      exact bodyPost_ret (v := .agg #[.bool o3, .int .i64 z]) (by simp [results, Try.results62, go_sem, t0, t1]) rfl ⟨o3, z, rfl, HZ.out, is_setNew (is_setNew HL4.out.1 hbl _) hbl _, only_setNew (only_setNew HL4.out.2 (Nat.le_refl _) _) (Nat.le_refl _) _⟩
  · go_wp2
    exact bodyPost_ret (v := .agg #[.bool true, .int .i64 0]) (by simp [results, Try.results62, go_sem, p0, p1]) rfl ⟨true, 0, rfl, by decide, is_setNew (is_setNew (Is.mono HL1.out.1 (by omega)) hbl _) hbl _, only_setNew (only_setNew HL1.out.2 (Nat.le_refl _) _) (Nat.le_refl _) _⟩

theorem is_new_at {w : World} {a : Option Addr} {n cap : Nat} {zs : List Int} {c : Nat} (h : IsRow .u8 w a n cap zs) (tt : TypeId) (hc : w.heap.size = c) : Is c 0 (w.alloc (.cells #[.slice a n cap, .int .i64 0, .int .u64 0] tt)) := by
  subst hc
  exact is_new h tt

theorem below2 (w : World) (o o' : Obj) : Below w.heap.size w ((w.alloc o).alloc o') := ((Below.refl _ _).alloc (Nat.le_refl _) o).alloc (by simp) o'

/-- A box that was laid ahead of the last two blocks. -/
theorem fz_first (w : World) (o o' : Obj) (cs : Array Value) (t : TypeId) (k : Nat) : (((w.alloc (.cells cs t)).alloc o).alloc o').frozen? ⟨w.heap.size, k, none⟩ = false := by
  rw [(Frame.bcell (below_alloc _ _)).2.1 _ _ (by simp; omega), (Frame.bcell (below_alloc _ _)).2.1 _ _ (by simp)]
  exact World.frozen?_alloc_at _ _ _ _ rfl
theorem fz_second (w : World) (o o' : Obj) (cs : Array Value) (t : TypeId) (k : Nat) : (((w.alloc o).alloc (.cells cs t)).alloc o').frozen? ⟨w.heap.size + 1, k, none⟩ = false := by
  rw [(Frame.bcell (below_alloc _ _)).2.1 _ _ (by simp)]
  exact World.frozen?_alloc_at _ _ _ _ (by simp)

theorem cl_first (w : World) (o o' : Obj) (cs : Array Value) (t : TypeId) (k : Nat) (v : Value) (h : cs[k]? = some v) : (((w.alloc (.cells cs t)).alloc o).alloc o').cell? ⟨w.heap.size, k, none⟩ = some v := by
  rw [(Frame.bcell (below_alloc _ _)).1 _ _ (by simp; omega), (Frame.bcell (below_alloc _ _)).1 _ _ (by simp), World.cell?_alloc_at _ _ _ _ rfl]
  exact h
theorem cl_second (w : World) (o o' : Obj) (cs : Array Value) (t : TypeId) (k : Nat) (v : Value) (h : cs[k]? = some v) : (((w.alloc o).alloc (.cells cs t)).alloc o').cell? ⟨w.heap.size + 1, k, none⟩ = some v := by
  rw [(Frame.bcell (below_alloc _ _)).1 _ _ (by simp), World.cell?_alloc_at _ _ _ _ (by simp)]
  exact h


/-- An append to what the call owns leaves the reader and all that was there. -/
theorem append_moved {b : Nat} {t : Int} {W w4 w5 : World} {o : Obj} {base : Nat} {e : TypeId} {size : Nat} {a : Option Addr} {n cap : Nat} {xs : List Value} (m : Moved b t W w4) (ho : w4.ownsRow base e size (.slice a n cap) n xs) (hg : (w4.alloc o).grownBy w5 (Value.slice a n cap).ownBlock) (hb : b < W.heap.size) (hB : W.heap.size ≤ base) : Moved b t W w5 := by
  have hne : ∀ g, (Value.slice a n cap).ownBlock = some g → base ≤ g ∧ g < w4.heap.size := fun g hg => by
    simp only [Value.ownBlock] at hg
    rcases a with _ | x
    · simp at hg
    · have := own_block ho x rfl
      simp at hg
      omega
  have hOK : ∀ k, k < w4.heap.size → k < base → w5.heap[k]? = w4.heap[k]? := fun k hk hk2 => by
    rw [hg.block k (by simp; omega) (fun e => by have := hne k e.symm; omega)]
    exact Below.heap_alloc _ _ _ hk
  have hgs := hg.size
  simp at hgs
  have hs := m.2.size
  exact ⟨is_blocks m.1 (fun k hk => hOK k (by omega) (by omega)) (by omega), hg.os.trans m.2.os, hg.tape.trans m.2.tape, hg.output.trans m.2.output, by omega, fun k hk hk2 => by rw [hOK k (by omega) (by omega)]; exact m.2.block k hk hk2⟩


end Go.Proofs.Ytciaegdgoabipaa.Draw1b
