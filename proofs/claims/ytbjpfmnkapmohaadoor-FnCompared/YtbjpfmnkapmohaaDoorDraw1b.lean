/-
  What chapter 1's drawn values may be.
-/
import Derived.Test.YtbjpfmnkapmohaaDoorDraw1
namespace Go.Proofs.YtbjpfmnkapmohaaDoor.Draw1b
open Go.RowKit
open Go.Proofs.YtbjpfmnkapmohaaDoor.Frame Go.Proofs.YtbjpfmnkapmohaaDoor.Mem Go.Proofs.YtbjpfmnkapmohaaDoor.Cur Go.Proofs.YtbjpfmnkapmohaaDoor.Draw1

theorem only_setNew {a : Option Addr} {w w' : World} (h : OnlyAt a w w') {c o : Nat} (hc : w.heap.size ≤ c) (u : Value) : OnlyAt a w (w'.setCell ⟨c, o, none⟩ u) := by
  refine ⟨h.os, h.tape, h.output, by simpa [World.setCell] using h.size, fun k hk hne => ?_⟩
  rw [Below.heap_setCell _ _ _ _ (by show k ≠ c; omega)]
  exact h.block k hk hne

theorem is_setNew {b : Nat} {t : Int} {w : World} (h : Is b t w) {c o : Nat} (hc : b < c) (u : Value) : Is b t (w.setCell ⟨c, o, none⟩ u) :=
  is_blocks h (fun k hk => Below.heap_setCell _ _ _ _ (by show k ≠ c; omega)) (by simp [World.setCell])

/-- The cells of a struct's box behind a move of the reader. -/
theorem box_after {b c : Nat} {t : Int} {w w' : World} (m : Moved b t w w') (hb : b ≠ c) {o : Nat} {v : Value} (h : w.cell? ⟨c, o, none⟩ = some v) : w'.cell? ⟨c, o, none⟩ = some v := by
  rw [m.2.cell (cell_lt h) (fun x hx => by cases hx; exact fun e => hb e.symm)]; exact h
theorem box_frozen {b c : Nat} {t : Int} {w w' : World} (m : Moved b t w w') (hb : b ≠ c) (hlt : c < w.heap.size) {o : Nat} (h : w.frozen? ⟨c, o, none⟩ = false) : w'.frozen? ⟨c, o, none⟩ = false := by
  rw [World.frozen?_of_block (w := w) (m.2.block c hlt (fun x hx => by cases hx; exact fun e => hb e.symm))]; exact h

set_option maxHeartbeats 1600000 in
theorem value (b : Nat) (t : Int) (w : World) (h : Is b t w) (ht : t ≤ 800000) :
    Calls Tryd.prog 37 #[.pointer (some ⟨b, 0, none⟩)] w fun e w' => ∃ (nu : Bool) (n : Int), e = .returned (.agg #[.bool nu, .int .i64 n]) ∧ (Lit.int .i64 n).wf = true ∧ Moved b (t + 8) w w' := by
  have H : Hid (Is b t w) := h
  have hbl := h.lt
  have hne : b ≠ w.heap.size := by omega
  clear h
  have H0 : Hid (Is b t (w.alloc (.cells #[.bool false, .int .i64 0] 34))) := Is.below H.out (below_alloc _ _)
  go_enter Tryd.func37, Tryd.ntmps37
  go_wp2_with fail
  refine (one b t 4 _ H0.out (by omega) (by omega) (by omega)).mono ?_
  rintro e w1 ⟨o1, rfl, hl1⟩
  have s1 : w.heap.size < w1.heap.size := by have := hl1.2.size; simp at this; omega
  have p0 : w1.cell? ⟨w.heap.size, 0, none⟩ = some (.bool false) := box_after hl1 hne (by simp)
  have p1 : w1.cell? ⟨w.heap.size, 1, none⟩ = some (.int .i64 0) := box_after hl1 hne (by simp)
  have g0 : w1.frozen? ⟨w.heap.size, 0, none⟩ = false := box_frozen hl1 hne (by simp) (World.frozen?_alloc_at _ _ _ _ rfl)
  have g1 : w1.frozen? ⟨w.heap.size, 1, none⟩ = false := box_frozen hl1 hne (by simp) (World.frozen?_alloc_at _ _ _ _ rfl)
  have HL1 : Hid (Moved b (t + 2) w w1) := ⟨hl1.1, (OnlyAt.of_below (below_alloc _ _)).trans hl1.2⟩
  clear hl1 H0 H
  cases o1
  · go_wp2_with fail
    refine (one b _ 30 _ HL1.out.1 (by omega) (by omega) (by omega)).mono ?_
    rintro e w2 ⟨o2, rfl, hl2⟩
    have s2 : w.heap.size < w2.heap.size := by have := hl2.2.size; omega
    have q0 : w2.cell? ⟨w.heap.size, 0, none⟩ = some (.bool false) := box_after hl2 hne p0
    have q1 : w2.cell? ⟨w.heap.size, 1, none⟩ = some (.int .i64 0) := box_after hl2 hne p1
    have k0 : w2.frozen? ⟨w.heap.size, 0, none⟩ = false := box_frozen hl2 hne s1 g0
    have k1 : w2.frozen? ⟨w.heap.size, 1, none⟩ = false := box_frozen hl2 hne s1 g1
    have HL2 : Hid (Moved b (t + 4) w w2) := ⟨Is.mono hl2.1 (by omega), HL1.out.2.trans hl2.2⟩
    clear hl2 HL1 p0 p1 g0 g1 s1
    cases o2
    · go_wp2_with fail
      refine (pick b _ 6 _ HL2.out.1 (by omega) (by omega) (by omega)).mono ?_
      rintro e w3 ⟨x, rfl, hx0, hx1, hl3⟩
      have r0 : w3.cell? ⟨w.heap.size, 0, none⟩ = some (.bool false) := box_after hl3 hne q0
      have r1 : w3.cell? ⟨w.heap.size, 1, none⟩ = some (.int .i64 0) := box_after hl3 hne q1
      have m0 : w3.frozen? ⟨w.heap.size, 0, none⟩ = false := box_frozen hl3 hne s2 k0
      have m1 : w3.frozen? ⟨w.heap.size, 1, none⟩ = false := box_frozen hl3 hne s2 k1
      have HL3 : Hid (Moved b (t + 6) w w3) := ⟨Is.mono hl3.1 (by omega), HL2.out.2.trans hl3.2⟩
      clear hl3 HL2 q0 q1 k0 k1 s2
      go_wp2
      exact bodyPost_ret (v := .agg #[.bool false, .int .i64 (x - 1)]) (by simp [results, Tryd.results37, go_sem, r0, r1]) rfl ⟨false, x - 1, rfl, int_wf _ (by omega) (by omega), is_setNew (is_setNew (Is.mono HL3.out.1 (by omega)) hbl _) hbl _, only_setNew (only_setNew HL3.out.2 (Nat.le_refl _) _) (Nat.le_refl _) _⟩
    · go_wp2_with fail
      refine (one b _ 2 _ HL2.out.1 (by omega) (by omega) (by omega)).mono ?_
      rintro e w3 ⟨o3, rfl, hl3⟩
      have s3 : w.heap.size < w3.heap.size := by have := hl3.2.size; omega
      have r0 : w3.cell? ⟨w.heap.size, 0, none⟩ = some (.bool false) := box_after hl3 hne q0
      have r1 : w3.cell? ⟨w.heap.size, 1, none⟩ = some (.int .i64 0) := box_after hl3 hne q1
      have m0 : w3.frozen? ⟨w.heap.size, 0, none⟩ = false := box_frozen hl3 hne s2 k0
      have m1 : w3.frozen? ⟨w.heap.size, 1, none⟩ = false := box_frozen hl3 hne s2 k1
      have HL3 : Hid (Moved b (t + 6) w w3) := ⟨Is.mono hl3.1 (by omega), HL2.out.2.trans hl3.2⟩
      have bl3 : b < w3.heap.size := hl3.1.lt
      clear hl3 HL2 q0 q1 k0 k1 s2
      go_wp2_with fail
      refine (among b _ _ 4 4 [-1001, -1000, 1000, 1001] _ (Is.below HL3.out.1 (below_alloc _ _)) (isRow_lit w3 3 [-1001, -1000, 1000, 1001] (by decide) (lit_wf (by decide))) (fun x hx => by cases hx; show w3.heap.size ≠ b; omega) (by omega) (by omega) (by omega)).mono ?_
      rintro e w4 ⟨z, rfl, hz, hl4⟩
      have HZ : Hid ((Lit.int .i64 z).wf = true) := lit_wf (zs := [-1001, -1000, 1000, 1001]) (by decide) z hz
      have t0 : w4.cell? ⟨w.heap.size, 0, none⟩ = some (.bool false) := box_after hl4 hne (by rw [World.cell?_alloc_past _ _ _ s3]; exact r0)
      have t1 : w4.cell? ⟨w.heap.size, 1, none⟩ = some (.int .i64 0) := box_after hl4 hne (by rw [World.cell?_alloc_past _ _ _ s3]; exact r1)
      have n0 : w4.frozen? ⟨w.heap.size, 0, none⟩ = false := box_frozen hl4 hne (by simp; omega) (by rw [(Frame.bcell (below_alloc _ _)).2.1 _ _ s3]; exact m0)
      have n1 : w4.frozen? ⟨w.heap.size, 1, none⟩ = false := box_frozen hl4 hne (by simp; omega) (by rw [(Frame.bcell (below_alloc _ _)).2.1 _ _ s3]; exact m1)
      have HL4 : Hid (Moved b (t + 8) w w4) := ⟨Is.mono hl4.1 (by omega), (HL3.out.2.trans (OnlyAt.of_below (below_alloc _ _))).trans hl4.2⟩
      clear hl4 HL3 r0 r1 m0 m1 hz
      go_wp2
      exact bodyPost_ret (v := .agg #[.bool o3, .int .i64 z]) (by simp [results, Tryd.results37, go_sem, t0, t1]) rfl ⟨o3, z, rfl, HZ.out, is_setNew (is_setNew HL4.out.1 hbl _) hbl _, only_setNew (only_setNew HL4.out.2 (Nat.le_refl _) _) (Nat.le_refl _) _⟩
  · go_wp2
    exact bodyPost_ret (v := .agg #[.bool true, .int .i64 0]) (by simp [results, Tryd.results37, go_sem, p0, p1]) rfl ⟨true, 0, rfl, by decide, is_setNew (is_setNew (Is.mono HL1.out.1 (by omega)) hbl _) hbl _, only_setNew (only_setNew HL1.out.2 (Nat.le_refl _) _) (Nat.le_refl _) _⟩

theorem is_new_at {w : World} {a : Option Addr} {n cap : Nat} {zs : List Int} {c : Nat} (h : IsRow .u8 w a n cap zs) (tt : TypeId) (hc : w.heap.size = c) : Is c 0 (w.alloc (.cells #[.slice a n cap, .int .i64 0, .int .u64 0] tt)) := by
  subst hc
  exact is_new h tt

theorem below2 (w : World) (o o' : Obj) : Below w.heap.size w ((w.alloc o).alloc o') := ((Below.refl _ _).alloc (Nat.le_refl _) o).alloc (by simp) o'

/-- A box that was laid ahead of the last two blocks. -/
theorem fz_first (w : World) (o o' : Obj) (cs : Array Value) (t : TypeId) (k : Nat) : (((w.alloc (.cells cs t)).alloc o).alloc o').frozen? ⟨w.heap.size, k, none⟩ = false := by
  rw [(Frame.bcell (below_alloc _ _)).2.1 _ _ (by simp; omega), (Frame.bcell (below_alloc _ _)).2.1 _ _ (by simp)]
  exact World.frozen?_alloc_at _ _ _ _ rfl
theorem fz_second (w : World) (o o' : Obj) (cs : Array Value) (t : TypeId) (k : Nat) : (((w.alloc o).alloc (.cells cs t)).alloc o').frozen? ⟨w.heap.size + 1, k, none⟩ = false := by
  rw [(Frame.bcell (below_alloc _ _)).2.1 _ _ (by simp)]
  exact World.frozen?_alloc_at _ _ _ _ (by simp)

theorem cl_first (w : World) (o o' : Obj) (cs : Array Value) (t : TypeId) (k : Nat) (v : Value) (h : cs[k]? = some v) : (((w.alloc (.cells cs t)).alloc o).alloc o').cell? ⟨w.heap.size, k, none⟩ = some v := by
  rw [(Frame.bcell (below_alloc _ _)).1 _ _ (by simp; omega), (Frame.bcell (below_alloc _ _)).1 _ _ (by simp), World.cell?_alloc_at _ _ _ _ rfl]
  exact h
theorem cl_second (w : World) (o o' : Obj) (cs : Array Value) (t : TypeId) (k : Nat) (v : Value) (h : cs[k]? = some v) : (((w.alloc o).alloc (.cells cs t)).alloc o').cell? ⟨w.heap.size + 1, k, none⟩ = some v := by
  rw [(Frame.bcell (below_alloc _ _)).1 _ _ (by simp), World.cell?_alloc_at _ _ _ _ (by simp)]
  exact h

set_option maxHeartbeats 1600000 in
theorem draw_SameValue (a : Option Addr) (n cap : Nat) (zs : List Int) (w : World) (h : IsRow .u8 w a n cap zs) :
    Calls Tryd.prog 20 #[.slice a n cap] w fun e w' => ∃ (b1 b2 : Bool) (n1 n2 : Int), e = .returned (.tuple #[.agg #[.bool b1, .int .i64 n1], .agg #[.bool b2, .int .i64 n2]]) ∧ (Lit.int .i64 n1).wf = true ∧ (Lit.int .i64 n2).wf = true ∧ Below w.heap.size w w' := by
  have H : Hid (Is (w.heap.size + 1 + 1) 0 (((w.alloc (.cells #[.bool false, .int .i64 0] 34)).alloc (.cells #[.bool false, .int .i64 0] 34)).alloc (.cells #[.slice a n cap, .int .i64 0, .int .u64 0] 51))) := is_new_at (IsRow.below h (below2 _ _ _)) 51 (by simp)
  clear h
  go_enter Tryd.func20, Tryd.ntmps20
  go_wp2_with fail
  refine (value (w.heap.size + 1 + 1) 0 _ H.out (by omega)).mono ?_
  rintro e w1 ⟨b1, n1, rfl, hw1, hl1⟩
  have s1 : w.heap.size + 3 ≤ w1.heap.size := by have := hl1.2.size; simp at this; omega
  have fza := fun k => fz_first w (.cells #[.bool false, .int .i64 0] 34) (.cells #[.slice a n cap, .int .i64 0, .int .u64 0] 51) #[.bool false, .int .i64 0] 34 k
  have fzb := fun k => fz_second w (.cells #[.bool false, .int .i64 0] 34) (.cells #[.slice a n cap, .int .i64 0, .int .u64 0] 51) #[.bool false, .int .i64 0] 34 k
  have cla := fun k v h => cl_first w (.cells #[.bool false, .int .i64 0] 34) (.cells #[.slice a n cap, .int .i64 0, .int .u64 0] 51) #[.bool false, .int .i64 0] 34 k v h
  have clb := fun k v h => cl_second w (.cells #[.bool false, .int .i64 0] 34) (.cells #[.slice a n cap, .int .i64 0, .int .u64 0] 51) #[.bool false, .int .i64 0] 34 k v h
  have a0_w1 : w1.cell? ⟨w.heap.size, 0, none⟩ = some (.bool false) := box_after hl1 (by omega) (cla 0 _ rfl)
  have fa0_w1 : w1.frozen? ⟨w.heap.size, 0, none⟩ = false := box_frozen hl1 (by omega) (by simp; omega) (fza 0)
  have a1_w1 : w1.cell? ⟨w.heap.size, 1, none⟩ = some (.int .i64 0) := box_after hl1 (by omega) (cla 1 _ rfl)
  have fa1_w1 : w1.frozen? ⟨w.heap.size, 1, none⟩ = false := box_frozen hl1 (by omega) (by simp; omega) (fza 1)
  have b0_w1 : w1.cell? ⟨w.heap.size + 1, 0, none⟩ = some (.bool false) := box_after hl1 (by omega) (clb 0 _ rfl)
  have fb0_w1 : w1.frozen? ⟨w.heap.size + 1, 0, none⟩ = false := box_frozen hl1 (by omega) (by simp) (fzb 0)
  have b1_w1 : w1.cell? ⟨w.heap.size + 1, 1, none⟩ = some (.int .i64 0) := box_after hl1 (by omega) (clb 1 _ rfl)
  have fb1_w1 : w1.frozen? ⟨w.heap.size + 1, 1, none⟩ = false := box_frozen hl1 (by omega) (by simp) (fzb 1)
  have HL1 : Hid (Moved (w.heap.size + 1 + 1) (0 + 8) (((w.alloc (.cells #[.bool false, .int .i64 0] 34)).alloc (.cells #[.bool false, .int .i64 0] 34)).alloc (.cells #[.slice a n cap, .int .i64 0, .int .u64 0] 51)) w1) := hl1
  clear hl1 fza fzb cla clb
  go_wp2_with fail
  refine (value (w.heap.size + 1 + 1) _ _ HL1.out.1 (by omega)).mono ?_
  rintro e w2 ⟨b2, n2, rfl, hw2, hl2⟩
  have a0_w2 : w2.cell? ⟨w.heap.size, 0, none⟩ = some (.bool false) := box_after hl2 (by omega) a0_w1
  have fa0_w2 : w2.frozen? ⟨w.heap.size, 0, none⟩ = false := box_frozen hl2 (by omega) (by omega) fa0_w1
  have a1_w2 : w2.cell? ⟨w.heap.size, 1, none⟩ = some (.int .i64 0) := box_after hl2 (by omega) a1_w1
  have fa1_w2 : w2.frozen? ⟨w.heap.size, 1, none⟩ = false := box_frozen hl2 (by omega) (by omega) fa1_w1
  have b0_w2 : w2.cell? ⟨w.heap.size + 1, 0, none⟩ = some (.bool false) := box_after hl2 (by omega) b0_w1
  have fb0_w2 : w2.frozen? ⟨w.heap.size + 1, 0, none⟩ = false := box_frozen hl2 (by omega) (by omega) fb0_w1
  have b1_w2 : w2.cell? ⟨w.heap.size + 1, 1, none⟩ = some (.int .i64 0) := box_after hl2 (by omega) b1_w1
  have fb1_w2 : w2.frozen? ⟨w.heap.size + 1, 1, none⟩ = false := box_frozen hl2 (by omega) (by omega) fb1_w1
  clear a0_w1 fa0_w1 a1_w1 fa1_w1 b0_w1 fb0_w1 b1_w1 fb1_w1
  have HB : Hid (Below w.heap.size w w2) := below_touch ((below2 w _ _).alloc (by simp; omega) _) (HL1.out.2.trans hl2.2) (fun x hx => by cases hx; show w.heap.size ≤ w.heap.size + 1 + 1; omega) (by simp; omega)
  clear hl2 HL1
  go_wp2
  exact bodyPost_ret (v := .tuple #[.agg #[.bool b1, .int .i64 n1], .agg #[.bool b2, .int .i64 n2]]) (by simp [results, Tryd.results20, go_sem, a0_w2, a1_w2, b0_w2, b1_w2]) rfl ⟨b1, b2, n1, n2, rfl, hw1, hw2, (((HB.out.setCell (Nat.le_refl _) _).setCell (Nat.le_refl _) _).setCell (by show w.heap.size ≤ w.heap.size + 1; omega) _).setCell (by show w.heap.size ≤ w.heap.size + 1; omega) _⟩

set_option maxHeartbeats 1600000 in
theorem draw_Compare (a : Option Addr) (n cap : Nat) (zs : List Int) (w : World) (h : IsRow .u8 w a n cap zs) :
    Calls Tryd.prog 16 #[.slice a n cap] w fun e w' => ∃ (k : Int) (b1 b2 : Bool) (n1 n2 : Int), e = .returned (.tuple #[.int .i64 k, .agg #[.bool b1, .int .i64 n1], .agg #[.bool b2, .int .i64 n2]]) ∧ (Lit.int .i64 n1).wf = true ∧ (Lit.int .i64 n2).wf = true ∧ Below w.heap.size w w' := by
  have H : Hid (Is (w.heap.size + 1 + 1) 0 (((w.alloc (.cells #[.bool false, .int .i64 0] 34)).alloc (.cells #[.bool false, .int .i64 0] 34)).alloc (.cells #[.slice a n cap, .int .i64 0, .int .u64 0] 51))) := is_new_at (IsRow.below h (below2 _ _ _)) 51 (by simp)
  clear h
  go_enter Tryd.func16, Tryd.ntmps16
  go_wp2_with fail
  refine (pick (w.heap.size + 1 + 1) 0 4 _ H.out (by omega) (by omega) (by omega)).mono ?_
  rintro e w1 ⟨x, rfl, hx0, hx1, hl1⟩
  have s1 : w.heap.size + 3 ≤ w1.heap.size := by have := hl1.2.size; simp at this; omega
  have fza := fun k => fz_first w (.cells #[.bool false, .int .i64 0] 34) (.cells #[.slice a n cap, .int .i64 0, .int .u64 0] 51) #[.bool false, .int .i64 0] 34 k
  have fzb := fun k => fz_second w (.cells #[.bool false, .int .i64 0] 34) (.cells #[.slice a n cap, .int .i64 0, .int .u64 0] 51) #[.bool false, .int .i64 0] 34 k
  have cla := fun k v h => cl_first w (.cells #[.bool false, .int .i64 0] 34) (.cells #[.slice a n cap, .int .i64 0, .int .u64 0] 51) #[.bool false, .int .i64 0] 34 k v h
  have clb := fun k v h => cl_second w (.cells #[.bool false, .int .i64 0] 34) (.cells #[.slice a n cap, .int .i64 0, .int .u64 0] 51) #[.bool false, .int .i64 0] 34 k v h
  have a0_w1 : w1.cell? ⟨w.heap.size, 0, none⟩ = some (.bool false) := box_after hl1 (by omega) (cla 0 _ rfl)
  have fa0_w1 : w1.frozen? ⟨w.heap.size, 0, none⟩ = false := box_frozen hl1 (by omega) (by simp; omega) (fza 0)
  have a1_w1 : w1.cell? ⟨w.heap.size, 1, none⟩ = some (.int .i64 0) := box_after hl1 (by omega) (cla 1 _ rfl)
  have fa1_w1 : w1.frozen? ⟨w.heap.size, 1, none⟩ = false := box_frozen hl1 (by omega) (by simp; omega) (fza 1)
  have b0_w1 : w1.cell? ⟨w.heap.size + 1, 0, none⟩ = some (.bool false) := box_after hl1 (by omega) (clb 0 _ rfl)
  have fb0_w1 : w1.frozen? ⟨w.heap.size + 1, 0, none⟩ = false := box_frozen hl1 (by omega) (by simp) (fzb 0)
  have b1_w1 : w1.cell? ⟨w.heap.size + 1, 1, none⟩ = some (.int .i64 0) := box_after hl1 (by omega) (clb 1 _ rfl)
  have fb1_w1 : w1.frozen? ⟨w.heap.size + 1, 1, none⟩ = false := box_frozen hl1 (by omega) (by simp) (fzb 1)
  have HL1 : Hid (Moved (w.heap.size + 1 + 1) (0 + 2) (((w.alloc (.cells #[.bool false, .int .i64 0] 34)).alloc (.cells #[.bool false, .int .i64 0] 34)).alloc (.cells #[.slice a n cap, .int .i64 0, .int .u64 0] 51)) w1) := hl1
  clear hl1 fza fzb cla clb
  go_wp2_with fail
  refine (pick (w.heap.size + 1 + 1) _ 9 _ HL1.out.1 (by omega) (by omega) (by omega)).mono ?_
  rintro e w2 ⟨y, rfl, hy0, hy1, hl2⟩
  have s2 : w.heap.size + 3 ≤ w2.heap.size := by have := hl2.2.size; omega
  have a0_w2 : w2.cell? ⟨w.heap.size, 0, none⟩ = some (.bool false) := box_after hl2 (by omega) a0_w1
  have fa0_w2 : w2.frozen? ⟨w.heap.size, 0, none⟩ = false := box_frozen hl2 (by omega) (by omega) fa0_w1
  have a1_w2 : w2.cell? ⟨w.heap.size, 1, none⟩ = some (.int .i64 0) := box_after hl2 (by omega) a1_w1
  have fa1_w2 : w2.frozen? ⟨w.heap.size, 1, none⟩ = false := box_frozen hl2 (by omega) (by omega) fa1_w1
  have b0_w2 : w2.cell? ⟨w.heap.size + 1, 0, none⟩ = some (.bool false) := box_after hl2 (by omega) b0_w1
  have fb0_w2 : w2.frozen? ⟨w.heap.size + 1, 0, none⟩ = false := box_frozen hl2 (by omega) (by omega) fb0_w1
  have b1_w2 : w2.cell? ⟨w.heap.size + 1, 1, none⟩ = some (.int .i64 0) := box_after hl2 (by omega) b1_w1
  have fb1_w2 : w2.frozen? ⟨w.heap.size + 1, 1, none⟩ = false := box_frozen hl2 (by omega) (by omega) fb1_w1
  clear a0_w1 fa0_w1 a1_w1 fa1_w1 b0_w1 fb0_w1 b1_w1 fb1_w1
  have HL2 : Hid (Moved (w.heap.size + 1 + 1) (0 + 2 + 2) (((w.alloc (.cells #[.bool false, .int .i64 0] 34)).alloc (.cells #[.bool false, .int .i64 0] 34)).alloc (.cells #[.slice a n cap, .int .i64 0, .int .u64 0] 51)) w2) := Moved.next HL1.out hl2
  clear hl2 HL1 s1
  go_wp2_with fail
  refine (value (w.heap.size + 1 + 1) _ _ HL2.out.1 (by omega)).mono ?_
  rintro e w3 ⟨b1, n1, rfl, hw1, hl3⟩
  have s3 : w.heap.size + 3 ≤ w3.heap.size := by have := hl3.2.size; omega
  have a0_w3 : w3.cell? ⟨w.heap.size, 0, none⟩ = some (.bool false) := box_after hl3 (by omega) a0_w2
  have fa0_w3 : w3.frozen? ⟨w.heap.size, 0, none⟩ = false := box_frozen hl3 (by omega) (by omega) fa0_w2
  have a1_w3 : w3.cell? ⟨w.heap.size, 1, none⟩ = some (.int .i64 0) := box_after hl3 (by omega) a1_w2
  have fa1_w3 : w3.frozen? ⟨w.heap.size, 1, none⟩ = false := box_frozen hl3 (by omega) (by omega) fa1_w2
  have b0_w3 : w3.cell? ⟨w.heap.size + 1, 0, none⟩ = some (.bool false) := box_after hl3 (by omega) b0_w2
  have fb0_w3 : w3.frozen? ⟨w.heap.size + 1, 0, none⟩ = false := box_frozen hl3 (by omega) (by omega) fb0_w2
  have b1_w3 : w3.cell? ⟨w.heap.size + 1, 1, none⟩ = some (.int .i64 0) := box_after hl3 (by omega) b1_w2
  have fb1_w3 : w3.frozen? ⟨w.heap.size + 1, 1, none⟩ = false := box_frozen hl3 (by omega) (by omega) fb1_w2
  clear a0_w2 fa0_w2 a1_w2 fa1_w2 b0_w2 fb0_w2 b1_w2 fb1_w2
  have HL3 : Hid (Moved (w.heap.size + 1 + 1) (0 + 2 + 2 + 8) (((w.alloc (.cells #[.bool false, .int .i64 0] 34)).alloc (.cells #[.bool false, .int .i64 0] 34)).alloc (.cells #[.slice a n cap, .int .i64 0, .int .u64 0] 51)) w3) := Moved.next HL2.out hl3
  clear hl3 HL2 s2
  go_wp2_with fail
  refine (value (w.heap.size + 1 + 1) _ _ HL3.out.1 (by omega)).mono ?_
  rintro e w4 ⟨b2, n2, rfl, hw2, hl4⟩
  have a0_w4 : w4.cell? ⟨w.heap.size, 0, none⟩ = some (.bool false) := box_after hl4 (by omega) a0_w3
  have fa0_w4 : w4.frozen? ⟨w.heap.size, 0, none⟩ = false := box_frozen hl4 (by omega) (by omega) fa0_w3
  have a1_w4 : w4.cell? ⟨w.heap.size, 1, none⟩ = some (.int .i64 0) := box_after hl4 (by omega) a1_w3
  have fa1_w4 : w4.frozen? ⟨w.heap.size, 1, none⟩ = false := box_frozen hl4 (by omega) (by omega) fa1_w3
  have b0_w4 : w4.cell? ⟨w.heap.size + 1, 0, none⟩ = some (.bool false) := box_after hl4 (by omega) b0_w3
  have fb0_w4 : w4.frozen? ⟨w.heap.size + 1, 0, none⟩ = false := box_frozen hl4 (by omega) (by omega) fb0_w3
  have b1_w4 : w4.cell? ⟨w.heap.size + 1, 1, none⟩ = some (.int .i64 0) := box_after hl4 (by omega) b1_w3
  have fb1_w4 : w4.frozen? ⟨w.heap.size + 1, 1, none⟩ = false := box_frozen hl4 (by omega) (by omega) fb1_w3
  clear a0_w3 fa0_w3 a1_w3 fa1_w3 b0_w3 fb0_w3 b1_w3 fb1_w3
  have HB : Hid (Below w.heap.size w w4) := below_touch ((below2 w _ _).alloc (by simp; omega) _) (HL3.out.2.trans hl4.2) (fun x hx => by cases hx; show w.heap.size ≤ w.heap.size + 1 + 1; omega) (by simp; omega)
  clear hl4 HL3
  go_wp2
  exact bodyPost_ret (v := .tuple #[.int .i64 (x - y / 8), .agg #[.bool b1, .int .i64 n1], .agg #[.bool b2, .int .i64 n2]]) (by simp [results, Tryd.results16, go_sem, a0_w4, a1_w4, b0_w4, b1_w4]) rfl ⟨_, b1, b2, n1, n2, rfl, hw1, hw2, (((HB.out.setCell (Nat.le_refl _) _).setCell (Nat.le_refl _) _).setCell (by show w.heap.size ≤ w.heap.size + 1; omega) _).setCell (by show w.heap.size ≤ w.heap.size + 1; omega) _⟩


/-- An append to what the call owns leaves the reader and all that was there. -/
theorem append_moved {b : Nat} {t : Int} {W w4 w5 : World} {o : Obj} {base : Nat} {e : TypeId} {size : Nat} {a : Option Addr} {n cap : Nat} {xs : List Value} (m : Moved b t W w4) (ho : w4.ownsRow base e size (.slice a n cap) n xs) (hg : (w4.alloc o).grownBy w5 (Value.slice a n cap).ownBlock) (hb : b < W.heap.size) (hB : W.heap.size ≤ base) : Moved b t W w5 := by
  have hne : ∀ g, (Value.slice a n cap).ownBlock = some g → base ≤ g ∧ g < w4.heap.size := fun g hg => by
    simp only [Value.ownBlock] at hg
    rcases a with _ | x
    · simp at hg
    · have := own_block ho x rfl
      simp at hg
      omega
  have hOK : ∀ k, k < w4.heap.size → k < base → w5.heap[k]? = w4.heap[k]? := fun k hk hk2 => by
    rw [hg.block k (by simp; omega) (fun e => by have := hne k e.symm; omega)]
    exact Below.heap_alloc _ _ _ hk
  have hgs := hg.size
  simp at hgs
  have hs := m.2.size
  exact ⟨is_blocks m.1 (fun k hk => hOK k (by omega) (by omega)) (by omega), hg.os.trans m.2.os, hg.tape.trans m.2.tape, hg.output.trans m.2.output, by omega, fun k hk hk2 => by rw [hOK k (by omega) (by omega)]; exact m.2.block k hk hk2⟩

set_option maxHeartbeats 1600000 in
theorem draw_FillsOf (a : Option Addr) (n cap : Nat) (zs : List Int) (w : World) (h : IsRow .u8 w a n cap zs) :
    Calls Tryd.prog 23 #[.slice a n cap] w fun e w' => ∃ (b1 : Bool) (n1 : Int) (a1 : Option Addr) (c1 : Nat) (ys : List Int), e = .returned (.tuple #[.agg #[.bool b1, .int .i64 n1], .slice a1 ys.length c1]) ∧ (Lit.int .i64 n1).wf = true ∧ w'.ownsRow w.heap.size 3 1 (.slice a1 ys.length c1) ys.length (ints .i64 ys) ∧ ys.length ≤ 4 ∧ (∀ z ∈ ys, (Lit.int .i64 z).wf = true) ∧ Below w.heap.size w w' := by
  obtain ⟨i0, hi, hz0, hz1, hz2⟩ := info_parts Ints.info
  have H : Hid (Is (w.heap.size + 1) 0 ((w.alloc (.cells #[.bool false, .int .i64 0] 34)).alloc (.cells #[.slice a n cap, .int .i64 0, .int .u64 0] 51))) := is_new_at (IsRow.below h (below_alloc _ _)) 51 (by simp)
  clear h
  go_enter Tryd.func23, Tryd.ntmps23
  go_wp2_with fail
  refine (value (w.heap.size + 1) 0 _ H.out (by omega)).mono ?_
  rintro e w1 ⟨b1, n1, rfl, hw1, hl1⟩
  have s1 : w.heap.size + 2 ≤ w1.heap.size := by have := hl1.2.size; simp at this; omega
  have r0 : w1.cell? ⟨w.heap.size, 0, none⟩ = some (.bool false) := box_after hl1 (by omega) (by rw [(Frame.bcell (below_alloc _ _)).1 _ _ (by simp), World.cell?_alloc_at _ _ _ _ rfl]; rfl)
  have r1 : w1.cell? ⟨w.heap.size, 1, none⟩ = some (.int .i64 0) := box_after hl1 (by omega) (by rw [(Frame.bcell (below_alloc _ _)).1 _ _ (by simp), World.cell?_alloc_at _ _ _ _ rfl]; rfl)
  have f0 : w1.frozen? ⟨w.heap.size, 0, none⟩ = false := box_frozen hl1 (by omega) (by simp; omega) (by rw [(Frame.bcell (below_alloc _ _)).2.1 _ _ (by simp)]; exact World.frozen?_alloc_at _ _ _ _ rfl)
  have f1 : w1.frozen? ⟨w.heap.size, 1, none⟩ = false := box_frozen hl1 (by omega) (by simp; omega) (by rw [(Frame.bcell (below_alloc _ _)).2.1 _ _ (by simp)]; exact World.frozen?_alloc_at _ _ _ _ rfl)
  have HB1 : Hid (Below w.heap.size w w1) := below_touch (below2 w _ _) hl1.2 (fun x hx => by cases hx; show w.heap.size ≤ w.heap.size + 1; omega) (by simp; omega)
  have HI1 : Hid (Is (w.heap.size + 1) (0 + 8) w1) := hl1.1
  clear hl1 H
  go_wp2_with fail
  refine (pick (w.heap.size + 1) _ 5 _ (Is.below HI1.out (below_alloc _ _)) (by omega) (by omega) (by omega)).mono ?_
  rintro e w3 ⟨x, rfl, hx0, hx1, hl3⟩
  have s3 : w1.heap.size + 1 ≤ w3.heap.size := by have := hl3.2.size; simp at this; omega
  have u0 : w3.cell? ⟨w.heap.size, 0, none⟩ = some (.bool false) := box_after hl3 (by omega) (by rw [(Frame.bcell (below_alloc _ _)).1 _ _ (by omega)]; exact r0)
  have u1 : w3.cell? ⟨w.heap.size, 1, none⟩ = some (.int .i64 0) := box_after hl3 (by omega) (by rw [(Frame.bcell (below_alloc _ _)).1 _ _ (by omega)]; exact r1)
  have v0 : w3.frozen? ⟨w.heap.size, 0, none⟩ = false := box_frozen hl3 (by omega) (by simp; omega) (by rw [(Frame.bcell (below_alloc _ _)).2.1 _ _ (by omega)]; exact f0)
  have v1 : w3.frozen? ⟨w.heap.size, 1, none⟩ = false := box_frozen hl3 (by omega) (by simp; omega) (by rw [(Frame.bcell (below_alloc _ _)).2.1 _ _ (by omega)]; exact f1)
  have x0 : w3.cell? ⟨w1.heap.size, 0, none⟩ = some (.bool b1) := box_after hl3 (by omega) (by rw [World.cell?_alloc_at _ _ _ _ rfl]; rfl)
  have x1 : w3.cell? ⟨w1.heap.size, 1, none⟩ = some (.int .i64 n1) := box_after hl3 (by omega) (by rw [World.cell?_alloc_at _ _ _ _ rfl]; rfl)
  have HB3 : Hid (Below w.heap.size w w3) := below_touch (HB1.out.alloc (by omega) _) hl3.2 (fun x hx => by cases hx; show w.heap.size ≤ w.heap.size + 1; omega) (by simp; omega)
  have HI3 : Hid (Is (w.heap.size + 1) (0 + 8 + 2) w3) := hl3.1
  have U : Hid ((w3.cell? ⟨w.heap.size, 0, none⟩ = some (.bool false) ∧ w3.cell? ⟨w.heap.size, 1, none⟩ = some (.int .i64 0)) ∧ (w3.frozen? ⟨w.heap.size, 0, none⟩ = false ∧ w3.frozen? ⟨w.heap.size, 1, none⟩ = false) ∧ (w3.cell? ⟨w1.heap.size, 0, none⟩ = some (.bool b1) ∧ w3.cell? ⟨w1.heap.size, 1, none⟩ = some (.int .i64 n1))) := ⟨⟨u0, u1⟩, ⟨v0, v1⟩, x0, x1⟩
  clear hl3 HB1 HI1 r0 r1 f0 f1 u0 u1 v0 v1 x0 x1
  obtain ⟨x, rfl⟩ := Int.eq_ofNat_of_zero_le hx0
  go_wp2_with fail
  go_loopw [6, 7] (fun l c wr => ∃ (m : Nat) (a1 : Option Addr) (c1 : Nat) (ys : List Int), c = .int .i64 m ∧ l = .slice a1 ys.length c1 ∧ wr.ownsRow w3.heap.size 3 1 (.slice a1 ys.length c1) ys.length (ints .i64 ys) ∧ ys.length + m ≤ 4 ∧ (∀ z ∈ ys, (Lit.int .i64 z).wf = true) ∧ Moved (w.heap.size + 1) (10 + 2 * (ys.length : Int)) w3 wr)
    (fun _ c _ => (intOf c).toNat)
  case atStart => exact ⟨x, none, 0, [], by go_num, rfl, World.ownsRow_nil _ _ _ _, by simp; omega, by simp, Is.mono HI3.out (by simp), OnlyAt.refl _ _⟩
  case round =>
    obtain ⟨m, a1, c1, ys, rfl, rfl, hown, hlen, hwf, hmv⟩ := hrel
    have HWF : Hid (∀ z ∈ ys, (Lit.int .i64 z).wf = true) := hwf
    have HMV : Hid (Moved (w.heap.size + 1) (10 + 2 * (ys.length : Int)) w3 wr) := hmv
    have HO : Hid (wr.ownsRow w3.heap.size 3 1 (.slice a1 ys.length c1) ys.length (ints .i64 ys)) := hown
    have hszr : w3.heap.size ≤ wr.heap.size := hmv.2.size
    clear hwf hmv hown
    by_cases hm : 0 < m
    · go_wp2_with fail
      refine (pick (w.heap.size + 1) _ 9 _ HMV.out.1 (by omega) (by omega) (by omega)).mono ?_
      rintro e w4 ⟨z, rfl, hz0', hz1', hl4⟩
      have hown4 := own_left HO.out (by omega) hl4
      have hs4 : wr.heap.size ≤ w4.heap.size := hl4.2.size
      have HL4 : Hid (Moved (w.heap.size + 1) (10 + 2 * (ys.length : Int) + 2) w3 w4) := Moved.next HMV.out hl4
      clear hl4
      go_wp2_with (at_builtin; refine wpList_append_own _ rfl _ _ 29 rfl w3.heap.size 3 i0 (.int .i64 0) 1 8 Tryd.underlying29 hi hz0 hz1 hz2 rfl (by decide) _ _ _ rfl (hown4.alloc _) ⟨w4.heap.size, 0, none⟩ 1 1 [.int .i64 (z - 4)] rfl rfl ?c1 ?c2 ?c3 ?c4 ?c5 ?_)
      case c1 =>
        intro j u hj
        match j, hj with
        | 0, hj => simp at hj; subst hj; simp [Addr.add]
      case c2 => intro u hu; simp at hu; subst hu; rfl
      case c3 => unfold maxLen; omega
      case c4 => omega
      case c5 => simp; omega
      intro v' w5 hown' hgrow _
      obtain ⟨a5, c5, rfl⟩ := own_form hown'
      have e5 : ints .i64 ys ++ [Value.int .i64 (z - 4)] = ints .i64 (ys ++ [z - 4]) := by simp [ints]
      rw [e5] at hown'
      have HO5 : Hid _ := hown'
      have HM5 : Hid (Moved (w.heap.size + 1) (10 + 2 * (ys.length : Int) + 2) w3 w5) := append_moved HL4.out hown4 hgrow (by omega) (Nat.le_refl _)
      clear hown4 hown' hgrow e5
      go_wp2
      go_roundw
      case rel => exact ⟨m - 1, a5, c5, ys ++ [z - 4], by go_num, by simp, by rw [show (ys ++ [z - 4]).length = ys.length + 1 by simp]; exact HO5.out, by simp; omega, fun q hq => by rcases List.mem_append.1 hq with h | h; exact HWF.out q h; simp at h; subst h; exact int_wf _ (by omega) (by omega), Is.mono HM5.out.1 (by simp; omega), HM5.out.2⟩
      case measure => simp [intOf]; omega
    · have hm0 : m = 0 := by omega
      subst hm0
      have u0 : wr.cell? ⟨w.heap.size, 0, none⟩ = some (.bool false) := box_after HMV.out (by omega) U.out.1.1
      have u1 : wr.cell? ⟨w.heap.size, 1, none⟩ = some (.int .i64 0) := box_after HMV.out (by omega) U.out.1.2
      have v0 : wr.frozen? ⟨w.heap.size, 0, none⟩ = false := box_frozen HMV.out (by omega) (by omega) U.out.2.1.1
      have v1 : wr.frozen? ⟨w.heap.size, 1, none⟩ = false := box_frozen HMV.out (by omega) (by omega) U.out.2.1.2
      have x0 : wr.cell? ⟨w1.heap.size, 0, none⟩ = some (.bool b1) := box_after HMV.out (by omega) U.out.2.2.1
      have x1 : wr.cell? ⟨w1.heap.size, 1, none⟩ = some (.int .i64 n1) := box_after HMV.out (by omega) U.out.2.2.2
      have HB4 : Hid (Below w.heap.size w wr) := below_touch HB3.out HMV.out.2 (fun x hx => by cases hx; show w.heap.size ≤ w.heap.size + 1; omega) (by omega)
      go_wp2
      exact bodyPost_ret (v := .tuple #[.agg #[.bool b1, .int .i64 n1], .slice a1 ys.length c1]) (by simp [results, Tryd.results23, go_sem, u0, u1]) rfl ⟨b1, n1, a1, c1, ys, rfl, hw1, own_base (ownsRow_setCell_below (ownsRow_setCell_below HO.out (by show w.heap.size < _; omega) _) (by show w.heap.size < _; omega) _) (by omega), by omega, HWF.out, (HB4.out.setCell (Nat.le_refl _) _).setCell (Nat.le_refl _) _⟩


end Go.Proofs.YtbjpfmnkapmohaaDoor.Draw1b
