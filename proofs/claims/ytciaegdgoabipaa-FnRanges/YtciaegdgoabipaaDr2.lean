/-
  What chapter 2's drawn rows and tables may be: readable, of the call's own; which ones nothing asks.
-/
import Derived.Test.YtciaegdgoabipaaDraw1b
import Derived.Test.YtciaegdgoabipaaTfn
namespace Go.Proofs.Ytciaegdgoabipaa.Dr2
open Go.RowKit
open Go.Proofs.Ytciaegdgoabipaa.Frame Go.Proofs.Ytciaegdgoabipaa.Mem Go.Proofs.Ytciaegdgoabipaa.Vals Go.Proofs.Ytciaegdgoabipaa.Rws Go.Proofs.Ytciaegdgoabipaa.Itb Go.Proofs.Ytciaegdgoabipaa.Kep Go.Proofs.Ytciaegdgoabipaa.Knr Go.Proofs.Ytciaegdgoabipaa.Cur Go.Proofs.Ytciaegdgoabipaa.Draw1 Go.Proofs.Ytciaegdgoabipaa.Draw1b

theorem Moved.keeps {b : Nat} {t : Int} {w w' : World} (m : Moved b t w w') : Keeps b (b + 1) w w' := Keeps.of_only m.2 (fun x hx => by cases hx; exact ⟨Nat.le_refl _, Nat.lt_succ_self _⟩)
theorem Moved.below {b : Nat} {t t' : Int} {w w1 w2 : World} (m : Moved b t w w1) (hb : Below w1.heap.size w1 w2) (ht : t ≤ t') : Moved b t' w w2 := ⟨Is.mono (Is.below m.1 hb) ht, m.2.trans (OnlyAt.of_below hb)⟩
theorem Moved.refl {b : Nat} {t : Int} {w : World} (h : Is b t w) : Moved b t w w := ⟨h, OnlyAt.refl _ _⟩
theorem Moved.mono {b : Nat} {t t' : Int} {w w' : World} (m : Moved b t w w') (ht : t ≤ t') : Moved b t' w w' := ⟨Is.mono m.1 ht, m.2⟩
theorem Moved.from {b : Nat} {t : Int} {w w1 w2 : World} (hb : Below w.heap.size w w1) (m : Moved b t w1 w2) : Moved b t w w2 := ⟨m.1, (OnlyAt.of_below hb).trans m.2⟩
theorem Moved.setNew {b : Nat} {t : Int} {w w' : World} (m : Moved b t w w') (hb : b < w.heap.size) {c o : Nat} (hc : w.heap.size ≤ c) (u : Value) : Moved b t w (w'.setCell ⟨c, o, none⟩ u) := ⟨is_setNew m.1 (by omega) u, only_setNew m.2 hc u⟩

set_option maxRecDepth 100000 in
set_option maxHeartbeats 800000 in
theorem small (b : Nat) (t : Int) (w : World) (h : Is b t w) (ht : t ≤ 800000) :
    Calls Try.prog 72 #[.pointer (some ⟨b, 0, none⟩)] w fun e w' => ∃ (nu : Bool) (n : Int), e = .returned (.agg #[.bool nu, .int .i64 n]) ∧ (Lit.int .i64 n).wf = true ∧ Moved b (t + 4) w w' := by
  have hbl := h.lt
  have hne : b ≠ w.heap.size := by omega
  have H0 : Hid (Is b t (w.alloc (.cells #[.bool false, .int .i64 0] 45))) := Is.below h (below_alloc _ _)
  clear h
  go_enter Try.func72, Try.ntmps72
  go_wp2_with fail
  refine (Cur.one b t 5 _ H0.out (by omega) (by omega) (by omega)).mono ?_
  rintro e w1 ⟨o1, rfl, hl1⟩
  have s1 : w.heap.size < w1.heap.size := by have := hl1.2.size; simp at this; omega
  have p0 : w1.cell? ⟨w.heap.size, 0, none⟩ = some (.bool false) := box_after hl1 hne (by simp)
  have p1 : w1.cell? ⟨w.heap.size, 1, none⟩ = some (.int .i64 0) := box_after hl1 hne (by simp)
  have g0 : w1.frozen? ⟨w.heap.size, 0, none⟩ = false := box_frozen hl1 hne (by simp) (World.frozen?_alloc_at _ _ _ _ rfl)
  have g1 : w1.frozen? ⟨w.heap.size, 1, none⟩ = false := box_frozen hl1 hne (by simp) (World.frozen?_alloc_at _ _ _ _ rfl)
  have HL1 : Hid (Moved b (t + 2) w w1) := Moved.from (below_alloc _ _) hl1
  clear hl1 H0
  cases o1
  · go_wp2_with fail
    refine (Cur.pick b _ 4 _ HL1.out.1 (by omega) (by omega) (by omega)).mono ?_
    rintro e w2 ⟨x, rfl, hx0, hx1, hl2⟩
    have q0 : w2.cell? ⟨w.heap.size, 0, none⟩ = some (.bool false) := box_after hl2 hne p0
    have q1 : w2.cell? ⟨w.heap.size, 1, none⟩ = some (.int .i64 0) := box_after hl2 hne p1
    have k0 : w2.frozen? ⟨w.heap.size, 0, none⟩ = false := box_frozen hl2 hne s1 g0
    have k1 : w2.frozen? ⟨w.heap.size, 1, none⟩ = false := box_frozen hl2 hne s1 g1
    have HL2 : Hid (Moved b (t + 4) w w2) := Moved.mono (HL1.out.next hl2) (by omega)
    clear hl2 HL1 p0 p1 g0 g1 s1
    go_wp2
    exact bodyPost_ret (v := .agg #[.bool false, .int .i64 x]) (by simp [results, Try.results72, go_sem, q0, q1]) rfl ⟨false, x, rfl, int_wf _ (by omega) (by omega), Moved.setNew (Moved.setNew HL2.out hbl (Nat.le_refl _) _) hbl (Nat.le_refl _) _⟩
  · go_wp2
    exact bodyPost_ret (v := .agg #[.bool true, .int .i64 0]) (by simp [results, Try.results72, go_sem, p0, p1]) rfl ⟨true, 0, rfl, by decide, Moved.setNew (Moved.setNew (Moved.mono HL1.out (by omega)) hbl (Nat.le_refl _) _) hbl (Nat.le_refl _) _⟩

/-- A row that was drawn: readable, its list new. -/
def RowD (w w' : World) (a : Option Addr) (n c : Nat) (vs : List (Bool × Int)) : Prop := IsVals w' a n c vs ∧ n ≤ 3 ∧ ∀ x, a = some x → w.heap.size ≤ x.block

theorem isVals_touch {w w' : World} {a : Option Addr} {n c lo hi : Nat} {vs : List (Bool × Int)} (h : IsVals w a n c vs) (t : Keeps lo hi w w') (hd : ∀ x, a = some x → x.block < lo ∨ hi ≤ x.block) : IsVals w' a n c vs := by
  refine ⟨h.len, h.fits, h.max, h.wf, fun h0 => ?_⟩
  obtain ⟨b, off, ha, hlt, hc⟩ := h.cells h0
  exact ⟨b, off, ha, Nat.lt_of_lt_of_le hlt t.size, fun i hi => ⟨Keeps.cell t (hc i hi).1 (hd _ ha), Keeps.cell t (hc i hi).2 (hd _ ha)⟩⟩

theorem isVals_cut {w : World} {g : Nat} {x y z : Bool × Int} (h : IsVals w (some ⟨g, 0, none⟩) 3 3 [x, y, z]) : IsVals w (some ⟨g, 2, none⟩) 2 2 [y, z] := by
  obtain ⟨b, off, ha, hlt, hc⟩ := h.cells (by omega)
  cases ha
  refine ⟨rfl, Nat.le_refl _, by unfold maxLen; omega, fun v hv => h.wf v (by simp at hv ⊢; rcases hv with h | h <;> simp [h]), fun _ => ⟨g, 2, rfl, hlt, fun i hi => ?_⟩⟩
  have h1 := hc (i + 1) (by omega)
  rw [show 0 + (i + 1) * 2 = 2 + i * 2 by omega, show ([x, y, z] : List (Bool × Int)).getD (i + 1) vd = [y, z].getD i vd by rfl] at h1
  exact h1

theorem rowD_own {w w' : World} {base g n c : Nat} {vs : List (Bool × Int)} (ho : w'.ownsRow base 45 2 (.slice (some ⟨g, 0, none⟩) n c) n (vcells vs)) (hw : ∀ v ∈ vs, (Lit.int .i64 v.2).wf = true) (hn : n ≤ 3) (hb : w.heap.size ≤ g) : RowD w w' (some ⟨g, 0, none⟩) n c vs := by
  obtain ⟨a', c', e, hr⟩ := isVals_own ho hw
  cases e
  exact ⟨hr, hn, fun x hx => by cases hx; exact hb⟩

theorem own_set2 {w' : World} {base g r n c : Nat} {xs : List Value} (ho : w'.ownsRow base 45 2 (.slice (some ⟨g, 0, none⟩) n c) n xs) (h1 : g ≠ r) (u v : Value) {o1 o2 : Nat} : ((w'.setCell ⟨r, o1, none⟩ u).setCell ⟨r, o2, none⟩ v).ownsRow base 45 2 (.slice (some ⟨g, 0, none⟩) n c) n xs := by
  have e1 : (Value.slice (some ⟨g, 0, none⟩) n c).ownBlock ≠ some r := by simp only [Value.ownBlock, ne_eq, Option.some.injEq]; exact h1
  exact ownsRow_setCell_other (ownsRow_setCell_other ho e1 _) e1 _

theorem own_set3 {w' : World} {base g r q n c : Nat} {xs : List Value} (ho : w'.ownsRow base 45 2 (.slice (some ⟨g, 0, none⟩) n c) n xs) (h1 : g ≠ r) {o : Nat} (u v : Value) (h2 : g ≠ q) {o1 o2 : Nat} (x : Value) : (((w'.setCell ⟨q, o, none⟩ x).setCell ⟨r, o1, none⟩ u).setCell ⟨r, o2, none⟩ v).ownsRow base 45 2 (.slice (some ⟨g, 0, none⟩) n c) n xs := by
  have e1 : (Value.slice (some ⟨g, 0, none⟩) n c).ownBlock ≠ some r := by simp only [Value.ownBlock, ne_eq, Option.some.injEq]; exact h1
  have e2 : (Value.slice (some ⟨g, 0, none⟩) n c).ownBlock ≠ some q := by simp only [Value.ownBlock, ne_eq, Option.some.injEq]; exact h2
  exact ownsRow_setCell_other (ownsRow_setCell_other (ownsRow_setCell_other ho e2 _) e1 _) e1 _

set_option maxRecDepth 100000 in
set_option maxHeartbeats 1600000 in
theorem row (b : Nat) (t : Int) (w : World) (h : Is b t w) (ht : t ≤ 700000) :
    Calls Try.prog 43 #[.pointer (some ⟨b, 0, none⟩)] w fun e w' => ∃ (key : Int) (a : Option Addr) (n c : Nat) (vs : List (Bool × Int)), e = .returned (.agg #[.int .i64 key, .slice a n c]) ∧ (Lit.int .i64 key).wf = true ∧ RowD w w' a n c vs ∧ Moved b (t + 26) w w' := by
  have hbl := h.lt
  have hne : b ≠ w.heap.size := by omega
  have H0 : Hid (Is b t (w.alloc (.cells #[.int .i64 0, .slice none 0 0] 26))) := Is.below h (below_alloc _ _)
  clear h
  go_enter Try.func43, Try.ntmps43
  go_wp2_with fail
  refine (Cur.pick b t 8 _ H0.out (by omega) (by omega) (by omega)).mono ?_
  rintro e w1 ⟨k, rfl, hk0, hk1, hl1⟩
  have s1 : w.heap.size < w1.heap.size := by have := hl1.2.size; simp at this; omega
  have R1 : Hid ((w1.cell? ⟨w.heap.size, 0, none⟩ = some (.int .i64 0) ∧ w1.cell? ⟨w.heap.size, 1, none⟩ = some (.slice none 0 0)) ∧ w1.frozen? ⟨w.heap.size, 0, none⟩ = false ∧ w1.frozen? ⟨w.heap.size, 1, none⟩ = false) :=
    ⟨⟨box_after hl1 hne (by simp), box_after hl1 hne (by simp)⟩, box_frozen hl1 hne (by simp) (World.frozen?_alloc_at _ _ _ _ rfl), box_frozen hl1 hne (by simp) (World.frozen?_alloc_at _ _ _ _ rfl)⟩
  have M1 : Hid (Moved b (t + 2) w w1) := Moved.from (below_alloc _ _) hl1
  clear hl1 H0
  go_wp2_with fail
  refine (small b _ _ M1.out.1 (by omega)).mono ?_
  rintro e w2 ⟨b1, n1, rfl, hw1, hl2⟩
  have s2 : w.heap.size < w2.heap.size := by have := hl2.2.size; omega
  have R2 : Hid ((w2.cell? ⟨w.heap.size, 0, none⟩ = some (.int .i64 0) ∧ w2.cell? ⟨w.heap.size, 1, none⟩ = some (.slice none 0 0)) ∧ w2.frozen? ⟨w.heap.size, 0, none⟩ = false ∧ w2.frozen? ⟨w.heap.size, 1, none⟩ = false) :=
    ⟨⟨box_after hl2 hne R1.out.1.1, box_after hl2 hne R1.out.1.2⟩, box_frozen hl2 hne s1 R1.out.2.1, box_frozen hl2 hne s1 R1.out.2.2⟩
  have M2 : Hid (Moved b (t + 6) w w2) := Moved.mono (M1.out.next hl2) (by omega)
  have W1 : Hid ((Lit.int .i64 n1).wf = true) := hw1
  clear hl2 hw1
  go_wp2_with fail
  refine (small b _ _ M2.out.1 (by omega)).mono ?_
  rintro e w3 ⟨b2, n2, rfl, hw2, hl3⟩
  have s3 : w.heap.size < w3.heap.size := by have := hl3.2.size; omega
  have R3 : Hid ((w3.cell? ⟨w.heap.size, 0, none⟩ = some (.int .i64 0) ∧ w3.cell? ⟨w.heap.size, 1, none⟩ = some (.slice none 0 0)) ∧ w3.frozen? ⟨w.heap.size, 0, none⟩ = false ∧ w3.frozen? ⟨w.heap.size, 1, none⟩ = false) :=
    ⟨⟨box_after hl3 hne R2.out.1.1, box_after hl3 hne R2.out.1.2⟩, box_frozen hl3 hne s2 R2.out.2.1, box_frozen hl3 hne s2 R2.out.2.2⟩
  have M3 : Hid (Moved b (t + 10) w w3) := Moved.mono (M2.out.next hl3) (by omega)
  have W2 : Hid ((Lit.int .i64 n2).wf = true) := hw2
  clear hl3 hw2
  go_wp2_with fail
  refine (small b _ _ M3.out.1 (by omega)).mono ?_
  rintro e w4 ⟨b3, n3, rfl, hw3, hl4⟩
  have s4 : w.heap.size < w4.heap.size := by have := hl4.2.size; omega
  have R4 : Hid ((w4.cell? ⟨w.heap.size, 0, none⟩ = some (.int .i64 0) ∧ w4.cell? ⟨w.heap.size, 1, none⟩ = some (.slice none 0 0)) ∧ w4.frozen? ⟨w.heap.size, 0, none⟩ = false ∧ w4.frozen? ⟨w.heap.size, 1, none⟩ = false) :=
    ⟨⟨box_after hl4 hne R3.out.1.1, box_after hl4 hne R3.out.1.2⟩, box_frozen hl4 hne s3 R3.out.2.1, box_frozen hl4 hne s3 R3.out.2.2⟩
  have M4 : Hid (Moved b (t + 14) w w4) := Moved.mono (M3.out.next hl4) (by omega)
  have hb4 : b < w4.heap.size := M4.out.1.lt
  have WV : Hid (∀ v ∈ [(b1, n1), (b2, n2), (b3, n3)], (Lit.int .i64 v.2).wf = true) := fun v hv => by
    simp only [List.mem_cons, List.not_mem_nil, or_false] at hv
    rcases hv with rfl | rfl | rfl
    · exact W1.out
    · exact W2.out
    · exact hw3
  clear hl4 hw3
  have hsz : ((w4.alloc (.cells #[.bool b1, .int .i64 n1, .bool b2, .int .i64 n2, .bool b3, .int .i64 n3] 45)).alloc (.cells #[.int .i64 k, .slice (some ⟨w4.heap.size, 0, none⟩) 3 3] 26)).heap.size = w4.heap.size + 2 := by simp
  have HSZ : Hid _ := hsz
  clear hsz
  have BB : Hid (Below w4.heap.size w4 ((w4.alloc (.cells #[.bool b1, .int .i64 n1, .bool b2, .int .i64 n2, .bool b3, .int .i64 n3] 45)).alloc (.cells #[.int .i64 k, .slice (some ⟨w4.heap.size, 0, none⟩) 3 3] 26))) := below2 _ _ _
  have OV : Hid (((w4.alloc (.cells #[.bool b1, .int .i64 n1, .bool b2, .int .i64 n2, .bool b3, .int .i64 n3] 45)).alloc (.cells #[.int .i64 k, .slice (some ⟨w4.heap.size, 0, none⟩) 3 3] 26)).ownsRow w4.heap.size 45 2 (.slice (some ⟨w4.heap.size, 0, none⟩) 3 3) 3 (vcells [(b1, n1), (b2, n2), (b3, n3)])) :=
    own_below (World.ownsRow_lit w4 #[.bool b1, .int .i64 n1, .bool b2, .int .i64 n2, .bool b3, .int .i64 n3] 3 (Nat.le_refl _) (by unfold maxLen; omega) rfl) ((Below.refl _ _).alloc (Nat.le_refl _) _)
  go_wp2_with fail
  refine (Cur.pick b (t + 14) 40 _ (Is.below M4.out.1 BB.out) (by omega) (by omega) (by omega)).mono ?_
  rintro e w5 ⟨z, rfl, hz0, hz1, hl5⟩
  have s5 : w4.heap.size + 2 ≤ w5.heap.size := by have := hl5.2.size; rw [HSZ.out] at this; exact this
  have hnr : b ≠ w4.heap.size + 1 := by omega
  have R5 : Hid ((w5.cell? ⟨w.heap.size, 0, none⟩ = some (.int .i64 0) ∧ w5.cell? ⟨w.heap.size, 1, none⟩ = some (.slice none 0 0)) ∧ w5.frozen? ⟨w.heap.size, 0, none⟩ = false ∧ w5.frozen? ⟨w.heap.size, 1, none⟩ = false) :=
    ⟨⟨box_after hl5 hne ((BB.out.cell (p := ⟨w.heap.size, 0, none⟩) s4).trans R4.out.1.1), box_after hl5 hne ((BB.out.cell (p := ⟨w.heap.size, 1, none⟩) s4).trans R4.out.1.2)⟩, box_frozen hl5 hne (by rw [HSZ.out]; omega) ((BB.out.frozen (p := ⟨w.heap.size, 0, none⟩) s4).trans R4.out.2.1), box_frozen hl5 hne (by rw [HSZ.out]; omega) ((BB.out.frozen (p := ⟨w.heap.size, 1, none⟩) s4).trans R4.out.2.2)⟩
  have RB : Hid ((w5.cell? ⟨w4.heap.size + 1, 0, none⟩ = some (.int .i64 k) ∧ w5.cell? ⟨w4.heap.size + 1, 1, none⟩ = some (.slice (some ⟨w4.heap.size, 0, none⟩) 3 3)) ∧ w5.frozen? ⟨w4.heap.size + 1, 0, none⟩ = false ∧ w5.frozen? ⟨w4.heap.size + 1, 1, none⟩ = false) :=
    ⟨⟨box_after hl5 hnr (by rw [World.cell?_alloc_at _ _ _ _ (by simp)]; rfl), box_after hl5 hnr (by rw [World.cell?_alloc_at _ _ _ _ (by simp)]; rfl)⟩, box_frozen hl5 hnr (by rw [HSZ.out]; omega) (World.frozen?_alloc_at _ _ _ _ (by simp)), box_frozen hl5 hnr (by rw [HSZ.out]; omega) (World.frozen?_alloc_at _ _ _ _ (by simp))⟩
  have O5 : Hid (w5.ownsRow w4.heap.size 45 2 (.slice (some ⟨w4.heap.size, 0, none⟩) 3 3) 3 (vcells [(b1, n1), (b2, n2), (b3, n3)])) := own_left OV.out (by omega) hl5
  have M5 : Hid (Moved b (t + 16) w w5) := Moved.mono (M4.out.next (Moved.from BB.out hl5)) (by omega)
  clear hl5
  obtain ⟨⟨p0, p1⟩, g0, g1⟩ := R5.out
  obtain ⟨⟨q0, q1⟩, f0, f1⟩ := RB.out
  by_cases h0 : z = 0
  · subst h0
    have HR : Hid (IsRow .i64 (w5.alloc (.cells #[.int .i64 (-1), .int .i64 999, .int .i64 1000] 3)) (some ⟨w5.heap.size, 0, none⟩) 3 3 [-1, 999, 1000]) := isRow_lit w5 3 [-1, 999, 1000] (by decide) (lit_wf (by decide))
    go_wp2_with fail
    refine (Cur.among b (t + 16) _ 3 3 [-1, 999, 1000] _ (Is.below M5.out.1 (below_alloc _ _)) HR.out (fun x hx => by cases hx; show w5.heap.size ≠ b; omega) (by omega) (by omega) (by omega)).mono ?_
    rintro e w6 ⟨y, rfl, hy, hl6⟩
    have HY : Hid ((Lit.int .i64 y).wf = true) := lit_wf (zs := [-1, 999, 1000]) (by decide) y hy
    have B5 : Hid (Below w5.heap.size w5 (w5.alloc (.cells #[.int .i64 (-1), .int .i64 999, .int .i64 1000] 3))) := below_alloc _ _
    have u0 : w6.cell? ⟨w.heap.size, 0, none⟩ = some (.int .i64 0) := box_after hl6 hne (alloc_cell p0 _)
    have u1 : w6.cell? ⟨w.heap.size, 1, none⟩ = some (.slice none 0 0) := box_after hl6 hne (alloc_cell p1 _)
    have v0 : w6.frozen? ⟨w.heap.size, 0, none⟩ = false := box_frozen hl6 hne (by simp; omega) (alloc_frozen p0 g0 _)
    have v1 : w6.frozen? ⟨w.heap.size, 1, none⟩ = false := box_frozen hl6 hne (by simp; omega) (alloc_frozen p1 g1 _)
    have x0 : w6.cell? ⟨w4.heap.size + 1, 0, none⟩ = some (.int .i64 k) := box_after hl6 hnr (alloc_cell q0 _)
    have x1 : w6.cell? ⟨w4.heap.size + 1, 1, none⟩ = some (.slice (some ⟨w4.heap.size, 0, none⟩) 3 3) := box_after hl6 hnr (alloc_cell q1 _)
    have y0 : w6.frozen? ⟨w4.heap.size + 1, 0, none⟩ = false := box_frozen hl6 hnr (by simp; omega) (alloc_frozen q0 f0 _)
    have O6 : Hid (w6.ownsRow w4.heap.size 45 2 (.slice (some ⟨w4.heap.size, 0, none⟩) 3 3) 3 (vcells [(b1, n1), (b2, n2), (b3, n3)])) := own_left (own_below O5.out B5.out) (by omega) hl6
    have M6 : Hid (Moved b (t + 26) w w6) := Moved.mono (M5.out.next (Moved.from B5.out hl6)) (by omega)
    have hnw : w.heap.size ≠ w4.heap.size + 1 := by omega
    clear hl6 hy p0 p1 g0 g1 q0 q1 f0 f1
    go_wp2
    refine bodyPost_ret (v := .agg #[.int .i64 y, .slice (some ⟨w4.heap.size, 0, none⟩) 3 3]) (by simp [results, Try.results43, go_sem, u0, u1]) rfl ?_
    exact ⟨y, _, 3, 3, _, rfl, HY.out, rowD_own (own_set3 O6.out (by omega) _ _ (by omega) _) WV.out (by omega) (by omega), Moved.setNew (Moved.setNew (Moved.setNew M6.out hbl (by omega) _) hbl (Nat.le_refl _) _) hbl (Nat.le_refl _) _⟩
  · by_cases h1 : z = 1
    · subst h1
      have I5 : Hid (Is b (t + 16) w5.drew) := Is.below M5.out.1 (Below.refl _ _).drew
      have KS : Hid (w5.drew.cell? ⟨w4.heap.size + 1, 0, none⟩ = some (.int .i64 k) ∧ w5.drew.cell? ⟨w4.heap.size + 1, 1, none⟩ = some (.slice (some ⟨w4.heap.size, 0, none⟩) 3 3)) := ⟨q0, q1⟩
      have hnv : w4.heap.size ≠ w4.heap.size + 1 := by omega
      have OD : Hid (w5.drew.ownsRow w4.heap.size 45 2 (.slice (some ⟨w4.heap.size, 0, none⟩) 3 3) 3 (vcells [(b1, n1), (b2, n2), (b3, n3)])) := own_below O5.out (Below.refl _ _).drew
      go_wp2_with fail
      go_region_held3 (fun w' => w'.cell? ⟨w4.heap.size + 1, 0, none⟩ = some (.int .i64 k) ∧ w'.cell? ⟨w4.heap.size + 1, 1, none⟩ = some (.slice (some ⟨w4.heap.size, 0, none⟩) 3 3)) (first | exact KS.out | exact KT.out | exact KU.out) (first | (go_at_call 62; refine (Draw1b.value b (t + 16) _ I5.out (by omega)).mono ?_; rintro e w6 ⟨vb, vn, rfl, hvw, hl6⟩; have KT : Hid (w6.cell? ⟨w4.heap.size + 1, 0, none⟩ = some (.int .i64 k) ∧ w6.cell? ⟨w4.heap.size + 1, 1, none⟩ = some (.slice (some ⟨w4.heap.size, 0, none⟩) 3 3)) := ⟨box_after hl6 hnr KS.out.1, box_after hl6 hnr KS.out.2⟩; have O6 : Hid (w6.ownsRow w4.heap.size 45 2 (.slice (some ⟨w4.heap.size, 0, none⟩) 3 3) 3 (vcells [(b1, n1), (b2, n2), (b3, n3)])) := own_left OD.out (by omega) hl6; have m0 := O6.out.frozenAt 0; have m1 := O6.out.frozenAt 1; have l0 : w6.cell? ⟨w4.heap.size, 0, none⟩ = some (.bool b1) := O6.out.cellAt 0 (by omega); have l1 : w6.cell? ⟨w4.heap.size, 1, none⟩ = some (.int .i64 n1) := O6.out.cellAt 1 (by omega); have KU : Hid (((w6.setCell ⟨w4.heap.size, 0, none⟩ (.bool vb)).setCell ⟨w4.heap.size, 1, none⟩ (.int .i64 vn)).cell? ⟨w4.heap.size + 1, 0, none⟩ = some (.int .i64 k) ∧ ((w6.setCell ⟨w4.heap.size, 0, none⟩ (.bool vb)).setCell ⟨w4.heap.size, 1, none⟩ (.int .i64 vn)).cell? ⟨w4.heap.size + 1, 1, none⟩ = some (.slice (some ⟨w4.heap.size, 0, none⟩) 3 3)) := (by have hot := ((OnlyAt.refl (some ⟨w4.heap.size, 0, none⟩) w6).setCell (b := w4.heap.size) (o := 0) (fun y hy => by cases hy; rfl) (by simp) (.bool vb)).setCell (b := w4.heap.size) (o := 1) (fun y hy => by cases hy; rfl) (by simp) (.int .i64 vn); exact ⟨(hot.cell (Frame.cell_lt KT.out.1) (fun x hx => by cases hx; exact hnv.symm)).trans KT.out.1, (hot.cell (Frame.cell_lt KT.out.1) (fun x hx => by cases hx; exact hnv.symm)).trans KT.out.2⟩)))
      have hst := ((O6.out.stored 0 (.bool vb)).1.stored 1 (.int .i64 vn)).1
      have O7 : Hid (((w6.setCell ⟨w4.heap.size, 0, none⟩ (.bool vb)).setCell ⟨w4.heap.size, 1, none⟩ (.int .i64 vn)).ownsRow w4.heap.size 45 2 (.slice (some ⟨w4.heap.size, 0, none⟩) 3 3) 3 (vcells [(vb, vn), (b2, n2), (b3, n3)])) := hst
      have WW : Hid (∀ v ∈ [(vb, vn), (b2, n2), (b3, n3)], (Lit.int .i64 v.2).wf = true) := fun v hv => by
        simp only [List.mem_cons, List.not_mem_nil, or_false] at hv
        rcases hv with rfl | rfl | rfl
        · exact hvw
        · exact WV.out (b2, n2) (by simp)
        · exact WV.out (b3, n3) (by simp)
      have hot : OnlyAt (some ⟨w4.heap.size, 0, none⟩) w6 ((w6.setCell ⟨w4.heap.size, 0, none⟩ (.bool vb)).setCell ⟨w4.heap.size, 1, none⟩ (.int .i64 vn)) := ((OnlyAt.refl _ w6).setCell (fun y hy => by cases hy; rfl) (by simp) _).setCell (fun y hy => by cases hy; rfl) (by simp) _
      have hnq : w.heap.size ≠ w4.heap.size := by omega
      have a0 : w6.cell? ⟨w.heap.size, 0, none⟩ = some (.int .i64 0) := box_after hl6 hne p0
      have a1 : w6.cell? ⟨w.heap.size, 1, none⟩ = some (.slice none 0 0) := box_after hl6 hne p1
      have u0 : ((w6.setCell ⟨w4.heap.size, 0, none⟩ (.bool vb)).setCell ⟨w4.heap.size, 1, none⟩ (.int .i64 vn)).cell? ⟨w.heap.size, 0, none⟩ = some (.int .i64 0) := (hot.cell (Frame.cell_lt a0) (fun x hx => by cases hx; exact hnq)).trans a0
      have u1 : ((w6.setCell ⟨w4.heap.size, 0, none⟩ (.bool vb)).setCell ⟨w4.heap.size, 1, none⟩ (.int .i64 vn)).cell? ⟨w.heap.size, 1, none⟩ = some (.slice none 0 0) := (hot.cell (Frame.cell_lt a1) (fun x hx => by cases hx; exact hnq)).trans a1
      have v0 : w6.frozen? ⟨w.heap.size, 0, none⟩ = false := box_frozen hl6 hne (by show w.heap.size < w5.heap.size; omega) g0
      have v1 : w6.frozen? ⟨w.heap.size, 1, none⟩ = false := box_frozen hl6 hne (by show w.heap.size < w5.heap.size; omega) g1
      obtain ⟨x0, x1⟩ := KU.out
      have M6 : Hid (Moved b (t + 26) w w6) := Moved.mono (M5.out.next (Moved.from (Below.refl _ _).drew hl6)) (by omega)
      have M7 : Hid (Moved b (t + 26) w ((w6.setCell ⟨w4.heap.size, 0, none⟩ (.bool vb)).setCell ⟨w4.heap.size, 1, none⟩ (.int .i64 vn))) := Moved.setNew (Moved.setNew M6.out hbl (by omega) _) hbl (by omega) _
      clear hst hot hl6 hvw p0 p1 g0 g1 q0 q1 f0 f1
      go_wp2
      refine bodyPost_ret (v := .agg #[.int .i64 k, .slice (some ⟨w4.heap.size, 0, none⟩) 3 3]) (by simp [results, Try.results43, go_sem, u0, u1]) rfl ?_
      exact ⟨k, _, 3, 3, _, rfl, int_wf _ (by omega) (by omega), rowD_own (own_set2 O7.out (by omega) _ _) WW.out (by omega) (by omega), Moved.setNew (Moved.setNew M7.out hbl (Nat.le_refl _) _) hbl (Nat.le_refl _) _⟩
    · by_cases h2 : z = 2
      · subst h2
        go_wp2
        refine bodyPost_ret (v := .agg #[.int .i64 k, .slice (some ⟨w4.heap.size, 2, none⟩) 2 2]) (by simp [results, Try.results43, go_sem, p0, p1]) rfl ?_
        have hrd := rowD_own (w := w) (own_set3 O5.out (show w4.heap.size ≠ w.heap.size by omega) (o := 1) (.int .i64 k) (.slice (some ⟨w4.heap.size, 2, none⟩) 2 2) (show w4.heap.size ≠ w4.heap.size + 1 by omega) (o1 := 0) (o2 := 1) (.slice (some ⟨w4.heap.size, 2, none⟩) 2 2)) WV.out (by omega) (by omega)
        exact ⟨k, _, 2, 2, _, rfl, int_wf _ (by omega) (by omega), ⟨isVals_cut hrd.1, by omega, fun x hx => by cases hx; show w.heap.size ≤ w4.heap.size; omega⟩, Moved.setNew (Moved.setNew (Moved.setNew (Moved.mono M5.out (by omega)) hbl (by omega) _) hbl (Nat.le_refl _) _) hbl (Nat.le_refl _) _⟩
      · have e0 : (z == 0) = false := by simpa using h0
        have e1 : (z == 1) = false := by simpa using h1
        have e2 : (z == 2) = false := by simpa using h2
        clear h0 h1 h2
        go_wp2
        refine bodyPost_ret (v := .agg #[.int .i64 k, .slice (some ⟨w4.heap.size, 0, none⟩) 3 3]) (by simp [results, Try.results43, go_sem, p0, p1]) rfl ?_
        exact ⟨k, _, 3, 3, _, rfl, int_wf _ (by omega) (by omega), rowD_own (own_set2 O5.out (by omega) _ _) WV.out (by omega) (by omega), Moved.setNew (Moved.setNew (Moved.mono M5.out (by omega)) hbl (Nat.le_refl _) _) hbl (Nat.le_refl _) _⟩


end Go.Proofs.Ytciaegdgoabipaa.Dr2
