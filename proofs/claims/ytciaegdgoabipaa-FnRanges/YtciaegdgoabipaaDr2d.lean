/-
  What chapter 2's other draws give; the number of a slice of bytes.
-/
import Derived.Test.YtciaegdgoabipaaDr2c
namespace Go.Proofs.Ytciaegdgoabipaa.Dr2d
open Go.RowKit
open Go.Proofs.Ytciaegdgoabipaa.Frame Go.Proofs.Ytciaegdgoabipaa.Mem Go.Proofs.Ytciaegdgoabipaa.Vals Go.Proofs.Ytciaegdgoabipaa.Rws Go.Proofs.Ytciaegdgoabipaa.Itb Go.Proofs.Ytciaegdgoabipaa.Kep Go.Proofs.Ytciaegdgoabipaa.Knr Go.Proofs.Ytciaegdgoabipaa.Cur Go.Proofs.Ytciaegdgoabipaa.Draw1 Go.Proofs.Ytciaegdgoabipaa.Draw1b Go.Proofs.Ytciaegdgoabipaa.Dr2 Go.Proofs.Ytciaegdgoabipaa.Dr2b Go.Proofs.Ytciaegdgoabipaa.Dr2c

def RangeDrawn (w : World) (e : Ending) (w' : World) : Prop := ∃ (v : Value) (xs : Tb) (p q : Int), e = .returned (.tuple #[v, .int .i64 p, .int .i64 q]) ∧ RIs w' v xs ∧ (-5 ≤ p ∧ p ≤ 4) ∧ (-1 ≤ q ∧ q ≤ 999) ∧ Below w.heap.size w w'

def SetDrawn (w : World) (e : Ending) (w' : World) : Prop := ∃ (v : Value) (xs : Tb) (k c : Int) (vb : Bool) (vn : Int), e = .returned (.tuple #[v, .int .i64 k, .int .i64 c, .agg #[.bool vb, .int .i64 vn]]) ∧ RIs w' v xs ∧ (Lit.int .i64 k).wf = true ∧ (Lit.int .i64 vn).wf = true ∧ Below w.heap.size w w'

set_option maxRecDepth 100000 in
set_option maxHeartbeats 800000 in
theorem draw_RangeOf (a : Option Addr) (n cap : Nat) (zs : List Int) (w : World) (h : IsRow .u8 w a n cap zs) :
    Calls Try.prog 21 #[.slice a n cap] w (RangeDrawn w) := by
  have H : Hid (Is w.heap.size 0 (w.alloc (.cells #[.slice a n cap, .int .i64 0, .int .u64 0] 70))) := is_new h 70
  clear h
  go_enter Try.func21, Try.ntmps21
  go_wp2_with fail
  refine (table w.heap.size 0 _ H.out (by omega)).mono ?_
  rintro e w1 ⟨v, xs, rfl, ho, hl⟩
  have s1 : w.heap.size + 1 ≤ w1.heap.size := by have := hl.2.size; simp at this; omega
  have O1 : Hid (ROwn w1 (w.heap.size + 1) w1.heap.size v xs) := by have h1 := ho; simp only [World.size_alloc] at h1; exact h1
  have M1 : Hid (Moved w.heap.size (0 + 600) (w.alloc (.cells #[.slice a n cap, .int .i64 0, .int .u64 0] 70)) w1) := hl
  clear ho hl
  go_wp2_with fail
  refine (among w.heap.size (0 + 600) _ 4 4 [-5, 0, 2, 4] _ (Is.below M1.out.1 (below_alloc _ _)) (isRow_lit w1 3 [-5, 0, 2, 4] (by decide) (lit_wf (by decide))) (fun x hx => by cases hx; show w1.heap.size ≠ w.heap.size; omega) (by omega) (by omega) (by omega)).mono ?_
  rintro e w2 ⟨p, rfl, hp, hl⟩
  have hp' : -5 ≤ p ∧ p ≤ 4 := by simp at hp; omega
  have s2 : w1.heap.size ≤ w2.heap.size := by have := hl.2.size; simp at this; omega
  have O2 : Hid (ROwn w2 (w.heap.size + 1) w1.heap.size v xs) := rOwn_moved (rOwn_below O1.out (below_alloc _ _)) hl (by omega)
  have M2 : Hid (Moved w.heap.size (0 + 600 + 2) (w.alloc (.cells #[.slice a n cap, .int .i64 0, .int .u64 0] 70)) w2) := Moved.next (Moved.below M1.out (below_alloc _ _) (Int.le_refl _)) hl
  clear hp hl M1 O1
  go_wp2_with fail
  refine (among w.heap.size (0 + 600 + 2) _ 4 4 [-1, 3, 5, 999] _ (Is.below M2.out.1 (below_alloc _ _)) (isRow_lit w2 3 [-1, 3, 5, 999] (by decide) (lit_wf (by decide))) (fun x hx => by cases hx; show w2.heap.size ≠ w.heap.size; omega) (by omega) (by omega) (by omega)).mono ?_
  rintro e w3 ⟨q, rfl, hq, hl⟩
  have hq' : -1 ≤ q ∧ q ≤ 999 := by simp at hq; omega
  have O3 : Hid (RIs w3 v xs) := rOwn_is (rOwn_moved (rOwn_below O2.out (below_alloc _ _)) hl (by omega))
  have B3 : Hid (Below w.heap.size w w3) := left_below (Moved.next (Moved.below M2.out (below_alloc _ _) (Int.le_refl _)) hl)
  clear hq hl M2 O2
  go_wp2
  exact bodyPost_ret (v := .tuple #[v, .int .i64 p, .int .i64 q]) (by simp [results, Try.results21, go_sem]) rfl ⟨v, xs, p, q, rfl, O3.out, hp', hq', B3.out⟩

set_option maxRecDepth 100000 in
set_option maxHeartbeats 1600000 in
theorem draw_SetColumn (a : Option Addr) (n cap : Nat) (zs : List Int) (w : World) (h : IsRow .u8 w a n cap zs) :
    Calls Try.prog 25 #[.slice a n cap] w (SetDrawn w) := by
  have H : Hid (Is (w.heap.size + 1) 0 ((w.alloc (.cells #[.bool false, .int .i64 0] 45)).alloc (.cells #[.slice a n cap, .int .i64 0, .int .u64 0] 70))) := is_new_at (IsRow.below h (below_alloc _ _)) 70 (by simp)
  clear h
  go_enter Try.func25, Try.ntmps25
  go_wp2_with fail
  refine (table (w.heap.size + 1) 0 _ H.out (by omega)).mono ?_
  rintro e w1 ⟨v, xs, rfl, ho, hl⟩
  have O1 : Hid (ROwn w1 (w.heap.size + 2) w1.heap.size v xs) := by have h1 := ho; simp only [World.size_alloc] at h1; exact h1
  have M1 : Hid (Moved (w.heap.size + 1) (0 + 600) ((w.alloc (.cells #[.bool false, .int .i64 0] 45)).alloc (.cells #[.slice a n cap, .int .i64 0, .int .u64 0] 70)) w1) := hl
  clear ho hl
  go_wp2_with fail
  refine (pick (w.heap.size + 1) _ 8 _ M1.out.1 (by omega) (by omega) (by omega)).mono ?_
  rintro e w2 ⟨k, rfl, hk0, hk1, hl⟩
  have O2 : Hid (ROwn w2 (w.heap.size + 2) w1.heap.size v xs) := rOwn_moved O1.out hl (by omega)
  have M2 : Hid (Moved (w.heap.size + 1) (0 + 600 + 2) ((w.alloc (.cells #[.bool false, .int .i64 0] 45)).alloc (.cells #[.slice a n cap, .int .i64 0, .int .u64 0] 70)) w2) := Moved.next M1.out hl
  clear hl O1 M1
  go_wp2_with fail
  refine (pick (w.heap.size + 1) _ 4 _ M2.out.1 (by omega) (by omega) (by omega)).mono ?_
  rintro e w3 ⟨c, rfl, hc0, hc1, hl⟩
  have O3 : Hid (ROwn w3 (w.heap.size + 2) w1.heap.size v xs) := rOwn_moved O2.out hl (by omega)
  have M3 : Hid (Moved (w.heap.size + 1) (0 + 600 + 2 + 2) ((w.alloc (.cells #[.bool false, .int .i64 0] 45)).alloc (.cells #[.slice a n cap, .int .i64 0, .int .u64 0] 70)) w3) := Moved.next M2.out hl
  clear hl O2 M2
  go_wp2_with fail
  refine (pick (w.heap.size + 1) _ 9 _ M3.out.1 (by omega) (by omega) (by omega)).mono ?_
  rintro e w4 ⟨d, rfl, hd0, hd1, hl⟩
  have O4 : Hid (ROwn w4 (w.heap.size + 2) w1.heap.size v xs) := rOwn_moved O3.out hl (by omega)
  have M4 : Hid (Moved (w.heap.size + 1) (0 + 600 + 2 + 2 + 2) ((w.alloc (.cells #[.bool false, .int .i64 0] 45)).alloc (.cells #[.slice a n cap, .int .i64 0, .int .u64 0] 70)) w4) := Moved.next M3.out hl
  clear hl O3 M3
  go_wp2_with fail
  refine (value (w.heap.size + 1) _ _ M4.out.1 (by omega)).mono ?_
  rintro e w5 ⟨vb, vn, rfl, hvn, hl⟩
  have O5 : Hid (ROwn w5 (w.heap.size + 2) w1.heap.size v xs) := rOwn_moved O4.out hl (by omega)
  have M5 := Moved.next M4.out hl
  have d0 : w5.cell? ⟨w.heap.size, 0, none⟩ = some (.bool false) := box_after M5 (by omega) (by simp)
  have d1 : w5.cell? ⟨w.heap.size, 1, none⟩ = some (.int .i64 0) := box_after M5 (by omega) (by simp)
  have f0 : w5.frozen? ⟨w.heap.size, 0, none⟩ = false := box_frozen M5 (by omega) (by simp; omega) (by simp)
  have f1 : w5.frozen? ⟨w.heap.size, 1, none⟩ = false := box_frozen M5 (by omega) (by simp; omega) (by simp)
  have B5 : Hid (Below w.heap.size w w5) := below_touch ((below2 w _ _)) M5.2 (fun x hx => by cases hx; show w.heap.size ≤ w.heap.size + 1; omega) (by simp; omega)
  clear hl O4 M4 M5
  go_wp2
  exact bodyPost_ret (v := .tuple #[v, .int .i64 k, .int .i64 (c - d / 8), .agg #[.bool vb, .int .i64 vn]]) (by simp [results, Try.results25, go_sem, d0, d1]) rfl ⟨v, xs, k, _, vb, vn, rfl, rOwn_is (rIs_set (rIs_set O5.out _ (by omega)) _ (by omega)), int_wf _ (by omega) (by omega), hvn, (B5.out.setCell (Nat.le_refl _) _).setCell (Nat.le_refl _) _⟩

theorem byte_wf {z : Int} (h : (Lit.int .u8 z).wf = true) : 0 ≤ z ∧ z ≤ 255 := by
  have h1 : IntKind.u8.min = 0 := rfl
  have h2 : IntKind.u8.max = 255 := rfl
  simp [Lit.wf] at h
  omega

set_option maxHeartbeats 800000 in
theorem numberOf (a : Option Addr) (n cap : Nat) (zs : List Int) (w : World) (h : IsRow .u8 w a n cap zs) :
    Calls Try.prog 24 #[.slice a n cap] w fun e w' => ∃ r : Int, e = .returned (.int .i64 r) ∧ 0 ≤ r ∧ r ≤ 1000002 ∧ w' = w := by
  have HAs : Hid (0 < n → ∃ b off, a = some ⟨b, off, none⟩ ∧ b < w.heap.size ∧ ∀ i, i < n → w.cell? ⟨b, off + i, none⟩ = some (.int .u8 (zs.getD i 0))) := h.cells
  have HZ : Hid (∀ i, i < n → 0 ≤ zs.getD i 0 ∧ zs.getD i 0 ≤ 255) := fun i hi => by
    have h1 := h.wf (zs.getD i 0) (by rw [List.getD_eq_getElem?_getD, List.getElem?_eq_getElem (by rw [h.len]; exact hi)]; exact List.getElem_mem _)
    exact byte_wf h1
  have hn : n ≤ maxLen := Nat.le_trans h.fits h.max
  unfold maxLen at hn
  clear h
  go_enter Try.func24, Try.ntmps24
  go_wp2
  go_loopw [3, 8] (fun r i wr => ∃ (k : Nat) (x : Int), k ≤ n ∧ i = .int .i64 k ∧ r = .int .i64 x ∧ 0 ≤ x ∧ x ≤ 1000002 ∧ wr = w) (fun _ i _ => n - (intOf i).toNat)
  case atStart => exact ⟨0, 0, Nat.zero_le _, rfl, rfl, by omega, by omega, rfl⟩
  case round =>
    obtain ⟨k, x, hk, rfl, rfl, hx0, hx1, rfl⟩ := hrel
    by_cases hlt : k < n
    · obtain ⟨b1, o1, rfl, hb1, hc1⟩ := HAs.out (by omega)
      have p0 := hc1 k hlt
      have hz := HZ.out k hlt
      have hkI : (k : Int) < (n : Int) := by omega
      generalize zs.getD k 0 = z at p0 hz
      clear hc1
      go_wp2
      go_roundw
      case rel => exact ⟨k + 1, (31 * x + z) % 1000003, by omega, by go_num, rfl, by omega, by omega, trivial⟩
      case measure => simp [intOf]; omega
    · go_wp2
      go_ret
      exact ⟨x, rfl, hx0, hx1, rfl⟩


end Go.Proofs.Ytciaegdgoabipaa.Dr2d
