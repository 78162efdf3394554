/-
  What chapter 2's draws give.
-/
import Derived.Test.YtciaegdgoabipaaDr2b
namespace Go.Proofs.Ytciaegdgoabipaa.Dr2c
open Go.RowKit
open Go.Proofs.Ytciaegdgoabipaa.Frame Go.Proofs.Ytciaegdgoabipaa.Mem Go.Proofs.Ytciaegdgoabipaa.Vals Go.Proofs.Ytciaegdgoabipaa.Rws Go.Proofs.Ytciaegdgoabipaa.Itb Go.Proofs.Ytciaegdgoabipaa.Kep Go.Proofs.Ytciaegdgoabipaa.Knr Go.Proofs.Ytciaegdgoabipaa.Cur Go.Proofs.Ytciaegdgoabipaa.Draw1 Go.Proofs.Ytciaegdgoabipaa.Draw1b Go.Proofs.Ytciaegdgoabipaa.Dr2 Go.Proofs.Ytciaegdgoabipaa.Dr2b

abbrev Tb := List (Int × List (Bool × Int))

/-- A table drawn with the reader in block b stands from there on. -/
theorem tab_is {b : Nat} {t : Int} {w w1 w2 : World} {v : Value} {xs : Tb} (h : ROwn w1 w.heap.size w1.heap.size v xs) (hb : b < w.heap.size) (m : Moved b t w1 w2) : ROwn w2 w.heap.size w1.heap.size v xs := rOwn_moved h m hb

def TabDrawn (w : World) (e : Ending) (w' : World) : Prop := ∃ (v : Value) (xs : Tb), e = .returned v ∧ RIs w' v xs ∧ Below w.heap.size w w'

def KeyDrawn (w : World) (e : Ending) (w' : World) : Prop := ∃ (v : Value) (xs : Tb) (k : Int), e = .returned (.tuple #[v, .int .i64 k]) ∧ RIs w' v xs ∧ (Lit.int .i64 k).wf = true ∧ Below w.heap.size w w'

def RowDrawn (w : World) (e : Ending) (w' : World) : Prop := ∃ (v : Value) (xs : Tb) (k : Int) (a : Option Addr) (n c : Nat) (vs : List (Bool × Int)), e = .returned (.tuple #[v, .agg #[.int .i64 k, .slice a n c]]) ∧ RIs w' v xs ∧ (Lit.int .i64 k).wf = true ∧ IsVals w' a n c vs ∧ n ≤ 3 ∧ Below w.heap.size w w'

set_option maxRecDepth 100000 in
set_option maxHeartbeats 800000 in
theorem draw_GoodTable (a : Option Addr) (n cap : Nat) (zs : List Int) (w : World) (h : IsRow .u8 w a n cap zs) :
    Calls Try.prog 66 #[.slice a n cap] w (TabDrawn w) := by
  have H : Hid (Is w.heap.size 0 (w.alloc (.cells #[.slice a n cap, .int .i64 0, .int .u64 0] 70))) := is_new h 70
  clear h
  go_enter Try.func66, Try.ntmps66
  go_wp2_with fail
  refine (table w.heap.size 0 _ H.out (by omega)).mono ?_
  rintro e w1 ⟨v, xs, rfl, ho, hl⟩
  have R1 : Hid (RIs w1 v xs) := rOwn_is ho
  have B1 : Hid (Below w.heap.size w w1) := left_below hl
  clear ho hl
  go_wp2
  go_ret
  exact ⟨v, xs, rfl, R1.out, B1.out⟩

theorem draw_KeysOf (a : Option Addr) (n cap : Nat) (zs : List Int) (w : World) (h : IsRow .u8 w a n cap zs) :
    Calls Try.prog 28 #[.slice a n cap] w (TabDrawn w) := by
  have H : Hid (IsRow .u8 w a n cap zs) := h
  clear h
  go_enter Try.func28, Try.ntmps28
  go_wp2_with fail
  refine (draw_GoodTable a n cap zs _ H.out).mono ?_
  rintro e w1 ⟨v, xs, rfl, hr, hb⟩
  have R1 : Hid (RIs w1 v xs) := hr
  have B1 : Hid (Below w.heap.size w w1) := hb
  clear hr hb
  go_wp2
  go_ret
  exact ⟨v, xs, rfl, R1.out, B1.out⟩

set_option maxRecDepth 100000 in
set_option maxHeartbeats 800000 in
theorem draw_FindRow (a : Option Addr) (n cap : Nat) (zs : List Int) (w : World) (h : IsRow .u8 w a n cap zs) :
    Calls Try.prog 53 #[.slice a n cap] w (KeyDrawn w) := by
  have H : Hid (Is w.heap.size 0 (w.alloc (.cells #[.slice a n cap, .int .i64 0, .int .u64 0] 70))) := is_new h 70
  clear h
  go_enter Try.func53, Try.ntmps53
  go_wp2_with fail
  refine (table w.heap.size 0 _ H.out (by omega)).mono ?_
  rintro e w1 ⟨v, xs, rfl, ho, hl⟩
  have O1 : Hid (ROwn w1 (w.heap.size + 1) w1.heap.size v xs) := by have h1 := ho; simp only [World.size_alloc] at h1; exact h1
  have M1 : Hid (Moved w.heap.size (0 + 600) (w.alloc (.cells #[.slice a n cap, .int .i64 0, .int .u64 0] 70)) w1) := hl
  clear ho hl
  go_wp2_with fail
  refine (pick w.heap.size _ 9 _ M1.out.1 (by omega) (by omega) (by omega)).mono ?_
  rintro e w2 ⟨x, rfl, hx0, hx1, hl⟩
  have O2 : Hid (ROwn w2 (w.heap.size + 1) w1.heap.size v xs) := rOwn_moved O1.out hl (by omega)
  have M2 : Hid (Moved w.heap.size (0 + 600 + 2) (w.alloc (.cells #[.slice a n cap, .int .i64 0, .int .u64 0] 70)) w2) := Moved.next M1.out hl
  clear hl
  go_wp2_with fail
  refine (pick w.heap.size _ 9 _ M2.out.1 (by omega) (by omega) (by omega)).mono ?_
  rintro e w3 ⟨y, rfl, hy0, hy1, hl⟩
  have O3 : Hid (RIs w3 v xs) := rOwn_is (rOwn_moved O2.out hl (by omega))
  have B3 : Hid (Below w.heap.size w w3) := left_below (Moved.next M2.out hl)
  clear hl O1 O2 M1 M2
  go_wp2
  go_ret2
  exact ⟨v, xs, _, rfl, O3.out, int_wf _ (by omega) (by omega), B3.out⟩

theorem draw_DropRow (a : Option Addr) (n cap : Nat) (zs : List Int) (w : World) (h : IsRow .u8 w a n cap zs) :
    Calls Try.prog 18 #[.slice a n cap] w (KeyDrawn w) := by
  have H : Hid (IsRow .u8 w a n cap zs) := h
  clear h
  go_enter Try.func18, Try.ntmps18
  go_wp2_with fail
  refine (draw_FindRow a n cap zs _ H.out).mono ?_
  rintro e w1 ⟨v, xs, k, rfl, hr, hk, hb⟩
  have R1 : Hid (RIs w1 v xs) := hr
  have B1 : Hid (Below w.heap.size w w1) := hb
  clear hr hb
  go_wp2
  go_ret2
  exact ⟨v, xs, k, rfl, R1.out, hk, B1.out⟩

theorem keeps_set (w : World) (b o : Nat) (u : Value) : Keeps b (b + 1) w (w.setCell ⟨b, o, none⟩ u) := Keeps.of_only (a := some ⟨b, 0, none⟩) ((OnlyAt.refl _ w).setCell (fun x hx => by cases hx; rfl) (by simp) u) (fun x hx => by cases hx; exact ⟨Nat.le_refl _, Nat.lt_succ_self _⟩)
theorem rIs_set {w : World} {lo hi b o : Nat} {v : Value} {xs : Tb} (h : ROwn w lo hi v xs) (u : Value) (hd : b < lo ∨ hi ≤ b) : ROwn (w.setCell ⟨b, o, none⟩ u) lo hi v xs := rOwn_keeps h (keeps_set w b o u) (by omega)
theorem vals_set {w : World} {b o n c : Nat} {a : Option Addr} {vs : List (Bool × Int)} (h : IsVals w a n c vs) (u : Value) (hd : ∀ x, a = some x → 0 < n → x.block ≠ b) : IsVals (w.setCell ⟨b, o, none⟩ u) a n c vs := by
  refine ⟨h.len, h.fits, h.max, h.wf, fun h0 => ?_⟩
  obtain ⟨g, off, ha, hlt, hc⟩ := h.cells h0
  have hne := hd _ ha h0
  simp only at hne
  exact ⟨g, off, ha, by simpa [World.setCell] using hlt, fun i hi => ⟨Keeps.cell (keeps_set w b o u) (hc i hi).1 (by omega), Keeps.cell (keeps_set w b o u) (hc i hi).2 (by omega)⟩⟩
theorem drew_rows {w : World} {lo hi : Nat} {v : Value} {xs : Tb} (h : ROwn w lo hi v xs) : ROwn w.drew lo hi v xs := rOwn_below h (Below.refl _ _).drew
theorem drew_vals {w : World} {n c : Nat} {a : Option Addr} {vs : List (Bool × Int)} (h : IsVals w a n c vs) : IsVals w.drew a n c vs := h.below (Below.refl _ _).drew

set_option maxRecDepth 100000 in
set_option maxHeartbeats 1600000 in
theorem draw_PutRow (a : Option Addr) (n cap : Nat) (zs : List Int) (w : World) (h : IsRow .u8 w a n cap zs) :
    Calls Try.prog 9 #[.slice a n cap] w (RowDrawn w) := by
  have H : Hid (Is (w.heap.size + 1) 0 ((w.alloc (.cells #[.int .i64 0, .slice none 0 0] 26)).alloc (.cells #[.slice a n cap, .int .i64 0, .int .u64 0] 70))) := is_new_at (IsRow.below h (below_alloc _ _)) 70 (by simp)
  clear h
  go_enter Try.func9, Try.ntmps9
  go_wp2_with fail
  refine (table (w.heap.size + 1) 0 _ H.out (by omega)).mono ?_
  rintro e w1 ⟨v, xs, rfl, ho, hl⟩
  have s1 : w.heap.size + 2 ≤ w1.heap.size := by have := hl.2.size; simp at this; omega
  have O1 : Hid (ROwn w1 (w.heap.size + 2) w1.heap.size v xs) := by have h1 := ho; simp only [World.size_alloc] at h1; exact h1
  have M1 : Hid (Moved (w.heap.size + 1) (0 + 600) ((w.alloc (.cells #[.int .i64 0, .slice none 0 0] 26)).alloc (.cells #[.slice a n cap, .int .i64 0, .int .u64 0] 70)) w1) := hl
  clear ho hl
  go_wp2_with fail
  refine (row (w.heap.size + 1) _ _ M1.out.1 (by omega)).mono ?_
  rintro e w2 ⟨k, ra, rn, rc, vs, rfl, hk, hr, hl⟩
  have s2 : w.heap.size + 2 ≤ w2.heap.size := by have := hl.2.size; omega
  have O2 : Hid (ROwn w2 (w.heap.size + 2) w1.heap.size v xs) := rOwn_moved O1.out hl (by omega)
  have M2 : Hid (Moved (w.heap.size + 1) (0 + 600 + 26) ((w.alloc (.cells #[.int .i64 0, .slice none 0 0] 26)).alloc (.cells #[.slice a n cap, .int .i64 0, .int .u64 0] 70)) w2) := Moved.next M1.out hl
  have ho12 : w1.heap.size ≤ w2.heap.size := hl.2.size
  have V2 : Hid (IsVals w2 ra rn rc vs ∧ rn ≤ 3 ∧ ∀ x, ra = some x → w1.heap.size ≤ x.block) := hr
  clear hl hr
  go_wp2_with fail
  refine (Cur.one (w.heap.size + 1) (0 + 600 + 26) 8 _ (Is.below M2.out.1 (below_alloc _ _)) (by omega) (by omega) (by omega)).mono ?_
  rintro e w3 ⟨q, rfl, hl⟩
  have hne : w.heap.size + 1 ≠ w2.heap.size := by omega
  have s3 : w2.heap.size < w3.heap.size := by have := hl.2.size; simp at this; omega
  have kp : Keeps (w.heap.size + 1) (w.heap.size + 1 + 1) (w2.alloc (.cells #[.int .i64 k, .slice ra rn rc] 26)) w3 := Moved.keeps hl
  have c0 : w3.cell? ⟨w2.heap.size, 0, none⟩ = some (.int .i64 k) := box_after hl hne (by simp)
  have c1 : w3.cell? ⟨w2.heap.size, 1, none⟩ = some (.slice ra rn rc) := box_after hl hne (by simp)
  have g0 : w3.frozen? ⟨w2.heap.size, 0, none⟩ = false := box_frozen hl hne (by simp) (World.frozen?_alloc_at _ _ _ _ rfl)
  have hB2 : Below w.heap.size w w2 := below_touch ((below2 w _ _)) M2.out.2 (fun x hx => by cases hx; show w.heap.size ≤ w.heap.size + 1; omega) (by simp; omega)
  have C2 : Hid ((w2.cell? ⟨w.heap.size, 0, none⟩ = some (.int .i64 0) ∧ w2.cell? ⟨w.heap.size, 1, none⟩ = some (.slice none 0 0)) ∧ w2.frozen? ⟨w.heap.size, 0, none⟩ = false ∧ w2.frozen? ⟨w.heap.size, 1, none⟩ = false) :=
    ⟨⟨box_after M2.out (by omega) (by simp), box_after M2.out (by omega) (by simp)⟩, box_frozen M2.out (by omega) (by simp; omega) (by simp), box_frozen M2.out (by omega) (by simp; omega) (by simp)⟩
  have C3 : (w3.cell? ⟨w.heap.size, 0, none⟩ = some (.int .i64 0) ∧ w3.cell? ⟨w.heap.size, 1, none⟩ = some (.slice none 0 0)) ∧ w3.frozen? ⟨w.heap.size, 0, none⟩ = false ∧ w3.frozen? ⟨w.heap.size, 1, none⟩ = false := by
    have hlt : w.heap.size < w2.heap.size := by omega
    refine ⟨⟨box_after hl (by omega) ?_, box_after hl (by omega) ?_⟩, box_frozen hl (by omega) (by simp; omega) ?_, box_frozen hl (by omega) (by simp; omega) ?_⟩
    · rw [(below_alloc w2 _).cell (p := ⟨w.heap.size, 0, none⟩) hlt]; exact C2.out.1.1
    · rw [(below_alloc w2 _).cell (p := ⟨w.heap.size, 1, none⟩) hlt]; exact C2.out.1.2
    · rw [(below_alloc w2 _).frozen (p := ⟨w.heap.size, 0, none⟩) hlt]; exact C2.out.2.1
    · rw [(below_alloc w2 _).frozen (p := ⟨w.heap.size, 1, none⟩) hlt]; exact C2.out.2.2
  obtain ⟨⟨d0, d1⟩, f0, f1⟩ := C3
  have O3 : Hid (ROwn w3 (w.heap.size + 2) w1.heap.size v xs) := rOwn_keeps (rOwn_below O2.out (below_alloc _ _)) kp (Or.inr (by omega))
  have V3 : Hid (IsVals w3 ra rn rc vs) := isVals_touch (V2.out.1.below (below_alloc _ _)) kp (fun x hx => by have := V2.out.2.2 x hx; omega)
  have VN : Hid (rn ≤ 3 ∧ ∀ x, ra = some x → 0 < rn → x.block ≠ w.heap.size ∧ x.block ≠ w2.heap.size) := ⟨V2.out.2.1, fun x hx h0 => by
    obtain ⟨g, off, ha, hlt, _⟩ := V2.out.1.cells h0
    have h1 := V2.out.2.2 x hx
    rw [hx] at ha
    cases ha
    simp only at h1 ⊢
    omega⟩
  have B3 : Hid (Below w.heap.size w w3) := below_touch (hB2.alloc (by omega) _) hl.2 (fun x hx => by cases hx; show w.heap.size ≤ w.heap.size + 1; omega) (by simp; omega)
  have s12 : Hid (w1.heap.size ≤ w2.heap.size) := ho12
  clear hl kp C2 hB2 O2 V2 M1 M2 O1 hne
  cases q
  · go_wp2_with fail
    go_region
    all_goals
      go_wp2
      exact bodyPost_ret (v := .tuple #[v, .agg #[.int .i64 k, .slice ra rn rc]]) (by simp [results, Try.results9, go_sem, d0, d1]) rfl ⟨v, xs, k, ra, rn, rc, vs, rfl, rOwn_is (rIs_set (rIs_set (drew_rows O3.out) _ (by omega)) _ (by omega)), hk, vals_set (vals_set (drew_vals V3.out) _ (fun x hx h0 => (VN.out.2 x hx h0).1)) _ (fun x hx h0 => (VN.out.2 x hx h0).1), VN.out.1, (B3.out.drew.setCell (Nat.le_refl _) _).setCell (Nat.le_refl _) _⟩
  · go_wp2_with fail
    go_region
    all_goals
      go_wp2
      exact bodyPost_ret (v := .tuple #[v, .agg #[.int .i64 30, .slice ra rn rc]]) (by simp [results, Try.results9, go_sem, d0, d1]) rfl ⟨v, xs, 30, ra, rn, rc, vs, rfl, rOwn_is (rIs_set (rIs_set (drew_rows (rIs_set O3.out _ (by have := s12.out; omega))) _ (by omega)) _ (by omega)), by decide, vals_set (vals_set (drew_vals (vals_set V3.out _ (fun x hx h0 => (VN.out.2 x hx h0).2))) _ (fun x hx h0 => (VN.out.2 x hx h0).1)) _ (fun x hx h0 => (VN.out.2 x hx h0).1), VN.out.1, (((B3.out.setCell (by show w.heap.size ≤ w2.heap.size; omega) _).drew.setCell (Nat.le_refl _) _).setCell (Nat.le_refl _) _)⟩


end Go.Proofs.Ytciaegdgoabipaa.Dr2c
