/-
  The struct Locks (fields Readers l, Writers i, Over i) : what it reads as, owned and marked by footprints; contracts of the laws' helpers on it. Written by gen/gen_struct.py.
-/
import Derived.Test.YtkondmnkmbdncaaKfp
namespace Go.Proofs.Ytkondmnkmbdncaa.SLocks
open Go.RowKit
open Go.Proofs.Ytkondmnkmbdncaa.Frame Go.Proofs.Ytkondmnkmbdncaa.Mem Go.Proofs.Ytkondmnkmbdncaa.Kep Go.Proofs.Ytkondmnkmbdncaa.Kfp
open Go.Proofs.Ytkondmnkmbdncaa.Lls (left)

abbrev D := List (List Int) × List Int × List Int
abbrev Dis (p0 p1 p2 : Nat → Prop) : Prop := (∀ b, p0 b → ¬ p1 b) ∧ (∀ b, p0 b → ¬ p2 b) ∧ (∀ b, p1 b → ¬ p2 b)
def SIs (w : World) (u0 u1 u2 : Value) (r : D) : Prop := Knl.LIs w u0 r.1 ∧ Kep.IIs w u1 r.2.1 ∧ Kep.IIs w u2 r.2.2
def SOwn (w : World) (lo hi : Nat) (u0 u1 u2 : Value) (r : D) : Prop := ∃ p0 p1 p2 : Nat → Prop, Dis p0 p1 p2 ∧ Kfp.LF w lo hi p0 u0 r.1 ∧ Kfp.IF w lo hi p1 u1 r.2.1 ∧ Kfp.IF w lo hi p2 u2 r.2.2
def SMarked (w : World) (lo hi : Nat) (u0 u1 u2 : Value) (k nx : Int) : Prop := ∃ (p0 p1 p2 : Nat → Prop) (k1 k2 : Int), Dis p0 p1 p2 ∧ Kfp.LM w lo hi p0 u0 k k1 ∧ Kfp.IM w lo hi p1 u1 k1 k2 ∧ Kfp.IM w lo hi p2 u2 k2 nx

theorem sIs_below {w w' : World} {u0 u1 u2 : Value} {r : D} (h : SIs w u0 u1 u2 r) (hb : Below w.heap.size w w') : SIs w' u0 u1 u2 r := ⟨Knl.lIs_below h.1 hb, Kep.iIs_below h.2.1 hb, Kep.iIs_below h.2.2 hb⟩
theorem sOwn_is {w : World} {lo hi : Nat} {u0 u1 u2 : Value} {r : D} (h : SOwn w lo hi u0 u1 u2 r) : SIs w u0 u1 u2 r := by
  obtain ⟨p0, p1, p2, _, h0, h1, h2⟩ := h
  exact ⟨Kfp.lF_is h0, Kfp.iF_is h1, Kfp.iF_is h2⟩
theorem sOwn_keeps {w w' : World} {lo hi lo' hi' : Nat} {u0 u1 u2 : Value} {r : D} (h : SOwn w lo hi u0 u1 u2 r) (t : Keeps lo' hi' w w') (hd : hi ≤ lo' ∨ hi' ≤ lo) : SOwn w' lo hi u0 u1 u2 r := by
  obtain ⟨p0, p1, p2, hp, h0, h1, h2⟩ := h
  exact ⟨p0, p1, p2, hp, Kfp.lF_keeps h0 t hd, Kfp.iF_keeps h1 t hd, Kfp.iF_keeps h2 t hd⟩
theorem sMarked_keeps {w w' : World} {lo hi lo' hi' : Nat} {u0 u1 u2 : Value} {k nx : Int} (h : SMarked w lo hi u0 u1 u2 k nx) (t : Keeps lo' hi' w w') (hd : hi ≤ lo' ∨ hi' ≤ lo) : SMarked w' lo hi u0 u1 u2 k nx := by
  obtain ⟨p0, p1, p2, k1, k2, hp, h0, h1, h2⟩ := h
  exact ⟨p0, p1, p2, k1, k2, hp, Kfp.lM_keeps h0 t hd, Kfp.iM_keeps h1 t hd, Kfp.iM_keeps h2 t hd⟩
theorem sOwn_below {w w' : World} {lo hi : Nat} {u0 u1 u2 : Value} {r : D} (h : SOwn w lo hi u0 u1 u2 r) (hb : Below w.heap.size w w') : SOwn w' lo hi u0 u1 u2 r := sOwn_keeps (lo' := hi) (hi' := hi) h (Keeps.of_below hb) (Or.inl (Nat.le_refl _))
theorem sMarked_below {w w' : World} {lo hi : Nat} {u0 u1 u2 : Value} {k nx : Int} (h : SMarked w lo hi u0 u1 u2 k nx) (hb : Below w.heap.size w w') : SMarked w' lo hi u0 u1 u2 k nx := sMarked_keeps (lo' := hi) (hi' := hi) h (Keeps.of_below hb) (Or.inl (Nat.le_refl _))
theorem sOwn_wide {w : World} {lo hi lo' hi' : Nat} {u0 u1 u2 : Value} {r : D} (h : SOwn w lo hi u0 u1 u2 r) (g1 : lo' ≤ lo) (g2 : hi ≤ hi') : SOwn w lo' hi' u0 u1 u2 r := by
  obtain ⟨p0, p1, p2, hp, h0, h1, h2⟩ := h
  exact ⟨p0, p1, p2, hp, Kfp.lF_wide h0 g1 g2, Kfp.iF_wide h1 g1 g2, Kfp.iF_wide h2 g1 g2⟩
theorem sOwn_set {w : World} {lo hi : Nat} {u0 u1 u2 : Value} {r : D} (h : SOwn w lo hi u0 u1 u2 r) {b : Nat} (o : Nat) (v : Value) (hb : b < lo) : SOwn (w.setCell ⟨b, o, none⟩ v) lo hi u0 u1 u2 r := sOwn_keeps h (Krl.keeps_set (lo := b) (hi := b + 1) w o v (by omega)) (Or.inr (by omega))
/-- What lies in places that do not meet. -/
theorem sOwn_of {w : World} {lo m1 m2 hi : Nat} {u0 u1 u2 : Value} {r : D} (h0 : Knl.LOwn w lo m1 u0 r.1) (h1 : Kep.IOwn w m1 m2 u1 r.2.1) (h2 : Kep.IOwn w m2 hi u2 r.2.2) (hm0 : lo ≤ m1) (hm1 : m1 ≤ m2) (hm2 : m2 ≤ hi)  : SOwn w lo hi u0 u1 u2 r := ⟨seg lo m1, seg m1 m2, seg m2 hi, ⟨fun b x y => by unfold seg at x y; omega, fun b x y => by unfold seg at x y; omega, fun b x y => by unfold seg at x y; omega⟩, Kfp.lF_wide (Kfp.lF_seg h0) (by omega) (by omega), Kfp.iF_wide (Kfp.iF_seg h1) (by omega) (by omega), Kfp.iF_wide (Kfp.iF_seg h2) (by omega) (by omega)⟩

set_option maxRecDepth 8000 in
set_option maxHeartbeats 1600000 in
theorem s_to (u0 u1 u2 : Value) (r : D) (w : World) (h : SIs w u0 u1 u2 r) :
    Calls Try.prog 47 #[.agg #[u0, u1, u2]] w fun e w' => ∃ v0 v1 v2, e = .returned (.agg #[v0, v1, v2]) ∧ SOwn w' w.heap.size w'.heap.size v0 v1 v2 r ∧ Below w.heap.size w w' := by
  have HI : Hid (SIs w u0 u1 u2 r) := h
  obtain ⟨a0, n0, c0, hu0⟩ := Krl.lIs_slice h.1; subst hu0
  obtain ⟨a1, n1, c1, hu1⟩ := Krl.iIs_slice h.2.1; subst hu1
  obtain ⟨a2, n2, c2, hu2⟩ := Krl.iIs_slice h.2.2; subst hu2
  clear h
  have hsz : (((w.alloc (.cells #[.slice a0 n0 c0, .slice a1 n1 c1, .slice a2 n2 c2] 55)).alloc (.cells #[.slice none 0 0, .slice none 0 0, .slice none 0 0] 26)).alloc (.cells #[.slice none 0 0, .slice none 0 0, .slice none 0 0] 26)).heap.size = w.heap.size + 3 := by simp
  have B0 : Hid (Below w.heap.size w (((w.alloc (.cells #[.slice a0 n0 c0, .slice a1 n1 c1, .slice a2 n2 c2] 55)).alloc (.cells #[.slice none 0 0, .slice none 0 0, .slice none 0 0] 26)).alloc (.cells #[.slice none 0 0, .slice none 0 0, .slice none 0 0] 26))) := (((Below.refl _ _).alloc (Nat.le_refl _) _).alloc (by simp) _).alloc (by simp; omega) _
  go_enter Try.func47, Try.ntmps47
  go_wp2_with fail
  refine (Knl.l_to _ (r.1) _ (Knl.lIs_below HI.out.1 B0.out)).mono ?_
  rintro e w1 ⟨v0, rfl, ho0, hb1⟩
  obtain ⟨a0', n0', c0', hv0⟩ := Krl.lIs_slice (Knl.lOwn_is ho0); subst hv0
  have hzV : (((w.alloc (.cells #[.slice a0 n0 c0, .slice a1 n1 c1, .slice a2 n2 c2] 55)).alloc (.cells #[.slice none 0 0, .slice none 0 0, .slice none 0 0] 26)).alloc (.cells #[.slice none 0 0, .slice none 0 0, .slice none 0 0] 26)).heap.size = w.heap.size + 3 := by simp
  have bc := Frame.bcell hb1
  rw [hzV] at bc ho0
  have FA1 : Hid (w1.cell? ⟨w.heap.size, 1, none⟩ = some (.slice a1 n1 c1) ∧ w1.cell? ⟨w.heap.size, 2, none⟩ = some (.slice a2 n2 c2) ∧ w1.cell? ⟨w.heap.size + 1, 0, none⟩ = some (.slice none 0 0) ∧ w1.cell? ⟨w.heap.size + 1, 1, none⟩ = some (.slice none 0 0) ∧ w1.cell? ⟨w.heap.size + 1, 2, none⟩ = some (.slice none 0 0) ∧ w1.cell? ⟨w.heap.size + 1 + 1, 0, none⟩ = some (.slice none 0 0) ∧ w1.cell? ⟨w.heap.size + 1 + 1, 1, none⟩ = some (.slice none 0 0) ∧ w1.cell? ⟨w.heap.size + 1 + 1, 2, none⟩ = some (.slice none 0 0) ∧ w1.frozen? ⟨w.heap.size + 1, 0, none⟩ = false ∧ w1.frozen? ⟨w.heap.size + 1, 1, none⟩ = false ∧ w1.frozen? ⟨w.heap.size + 1, 2, none⟩ = false ∧ w1.frozen? ⟨w.heap.size + 1 + 1, 0, none⟩ = false ∧ w1.frozen? ⟨w.heap.size + 1 + 1, 1, none⟩ = false ∧ w1.frozen? ⟨w.heap.size + 1 + 1, 2, none⟩ = false) := ⟨by rw [bc.1 _ _ (by omega)]; go_simp, by rw [bc.1 _ _ (by omega)]; go_simp, by rw [bc.1 _ _ (by omega)]; go_simp, by rw [bc.1 _ _ (by omega)]; go_simp, by rw [bc.1 _ _ (by omega)]; go_simp, by rw [bc.1 _ _ (by omega)]; go_simp, by rw [bc.1 _ _ (by omega)]; go_simp, by rw [bc.1 _ _ (by omega)]; go_simp, by rw [bc.2.1 _ _ (by omega)]; go_simp, by rw [bc.2.1 _ _ (by omega)]; go_simp, by rw [bc.2.1 _ _ (by omega)]; go_simp, by rw [bc.2.1 _ _ (by omega)]; go_simp, by rw [bc.2.1 _ _ (by omega)]; go_simp, by rw [bc.2.1 _ _ (by omega)]; go_simp⟩
  have B1 : Hid (Below w.heap.size w w1) := Frame.next B0.out hb1 (by rw [hzV]; omega)
  have Z1 : Hid (w.heap.size + 3 ≤ w1.heap.size) := by have z := hb1.size; rw [hzV] at z; exact z
  have O0 : Hid (Knl.LOwn w1 (w.heap.size + 3) w1.heap.size (.slice a0' n0' c0') (r.1)) := ho0
  have O0_1 : Hid (Knl.LOwn w1 (w.heap.size + 3) (w1.heap.size) (.slice a0' n0' c0') (r.1)) := O0.out
  clear bc hzV ho0 hb1
  obtain ⟨q0, q1, q2, q3, q4, q5, q6, q7, q8, q9, q10, q11, q12, q13⟩ := FA1.out
  have BV1 : Hid (Below w.heap.size w (w1.setCell ⟨w.heap.size + 1 + 1, 0, none⟩ (.slice a0' n0' c0'))) := (B1.out.setCell (by show w.heap.size ≤ w.heap.size + 1 + 1; omega) _)
  go_wp2_with fail
  refine (Kep.i_to _ (r.2.1) _ (Kep.iIs_below HI.out.2.1 BV1.out)).mono ?_
  rintro e w2 ⟨v1, rfl, ho1, hb2⟩
  obtain ⟨a1', n1', c1', hv1⟩ := Krl.iIs_slice (Kep.iOwn_is ho1); subst hv1
  obtain ⟨q0, q1, q2, q3, q4, q5, q6, q7, q8, q9, q10, q11, q12, q13⟩ := FA1.out
  have hzV : (w1.setCell ⟨w.heap.size + 1 + 1, 0, none⟩ (.slice a0' n0' c0')).heap.size = w1.heap.size := by simp
  have bc := Frame.bcell hb2
  rw [hzV] at bc ho1
  have z1 := Z1.out
  have FA2 : Hid (w2.cell? ⟨w.heap.size, 2, none⟩ = some (.slice a2 n2 c2) ∧ w2.cell? ⟨w.heap.size + 1, 0, none⟩ = some (.slice none 0 0) ∧ w2.cell? ⟨w.heap.size + 1, 1, none⟩ = some (.slice none 0 0) ∧ w2.cell? ⟨w.heap.size + 1, 2, none⟩ = some (.slice none 0 0) ∧ w2.cell? ⟨w.heap.size + 1 + 1, 0, none⟩ = some (.slice a0' n0' c0') ∧ w2.cell? ⟨w.heap.size + 1 + 1, 1, none⟩ = some (.slice none 0 0) ∧ w2.cell? ⟨w.heap.size + 1 + 1, 2, none⟩ = some (.slice none 0 0) ∧ w2.frozen? ⟨w.heap.size + 1, 0, none⟩ = false ∧ w2.frozen? ⟨w.heap.size + 1, 1, none⟩ = false ∧ w2.frozen? ⟨w.heap.size + 1, 2, none⟩ = false ∧ w2.frozen? ⟨w.heap.size + 1 + 1, 1, none⟩ = false ∧ w2.frozen? ⟨w.heap.size + 1 + 1, 2, none⟩ = false) := ⟨by rw [bc.1 _ _ (by omega), World.cell?_setCell_other _ _ _ _ (by simp)]; exact q1, by rw [bc.1 _ _ (by omega), World.cell?_setCell_other _ _ _ _ (by simp)]; exact q2, by rw [bc.1 _ _ (by omega), World.cell?_setCell_other _ _ _ _ (by simp)]; exact q3, by rw [bc.1 _ _ (by omega), World.cell?_setCell_other _ _ _ _ (by simp)]; exact q4, by rw [bc.1 _ _ (by omega)]; exact World.cell?_setCell_same _ _ _ (q5), by rw [bc.1 _ _ (by omega), World.cell?_setCell_other _ _ _ _ (by simp)]; exact q6, by rw [bc.1 _ _ (by omega), World.cell?_setCell_other _ _ _ _ (by simp)]; exact q7, by rw [bc.2.1 _ _ (by omega), World.frozen?_setCell]; exact q8, by rw [bc.2.1 _ _ (by omega), World.frozen?_setCell]; exact q9, by rw [bc.2.1 _ _ (by omega), World.frozen?_setCell]; exact q10, by rw [bc.2.1 _ _ (by omega), World.frozen?_setCell]; exact q12, by rw [bc.2.1 _ _ (by omega), World.frozen?_setCell]; exact q13⟩
  clear z1
  have B2 : Hid (Below w.heap.size w w2) := Frame.next BV1.out hb2 (by rw [hzV]; exact B1.out.size)
  have Z2 : Hid (w1.heap.size ≤ w2.heap.size) := by have z := hb2.size; rw [hzV] at z; exact z
  have O1 : Hid (Kep.IOwn w2 (w1.heap.size) w2.heap.size (.slice a1' n1' c1') (r.2.1)) := ho1
  have O0_2 : Hid (Knl.LOwn w2 (w.heap.size + 3) (w1.heap.size) (.slice a0' n0' c0') (r.1)) := Knl.lOwn_below (Knl.lOwn_keeps O0_1.out (Krl.keeps_set (lo := w.heap.size + 2) (hi := w.heap.size + 3) _ 0 (.slice a0' n0' c0') (by omega)) (Or.inr (by have z := Z1.out; omega))) hb2
  have O1_2 : Hid (Kep.IOwn w2 (w1.heap.size) (w2.heap.size) (.slice a1' n1' c1') (r.2.1)) := O1.out
  clear bc hzV ho1 hb2 FA1 q0 q1 q2 q3 q4 q5 q6 q7 q8 q9 q10 q11 q12 q13 BV1
  obtain ⟨q0, q1, q2, q3, q4, q5, q6, q7, q8, q9, q10, q11⟩ := FA2.out
  have BV2 : Hid (Below w.heap.size w (w2.setCell ⟨w.heap.size + 1 + 1, 1, none⟩ (.slice a1' n1' c1'))) := (B2.out.setCell (by show w.heap.size ≤ w.heap.size + 1 + 1; omega) _)
  go_wp2_with fail
  refine (Kep.i_to _ (r.2.2) _ (Kep.iIs_below HI.out.2.2 BV2.out)).mono ?_
  rintro e w3 ⟨v2, rfl, ho2, hb3⟩
  obtain ⟨a2', n2', c2', hv2⟩ := Krl.iIs_slice (Kep.iOwn_is ho2); subst hv2
  obtain ⟨q0, q1, q2, q3, q4, q5, q6, q7, q8, q9, q10, q11⟩ := FA2.out
  have hzV : (w2.setCell ⟨w.heap.size + 1 + 1, 1, none⟩ (.slice a1' n1' c1')).heap.size = w2.heap.size := by simp
  have bc := Frame.bcell hb3
  rw [hzV] at bc ho2
  have z1 := Z1.out
  have z2 := Z2.out
  have FA3 : Hid (w3.cell? ⟨w.heap.size + 1, 0, none⟩ = some (.slice none 0 0) ∧ w3.cell? ⟨w.heap.size + 1, 1, none⟩ = some (.slice none 0 0) ∧ w3.cell? ⟨w.heap.size + 1, 2, none⟩ = some (.slice none 0 0) ∧ w3.cell? ⟨w.heap.size + 1 + 1, 0, none⟩ = some (.slice a0' n0' c0') ∧ w3.cell? ⟨w.heap.size + 1 + 1, 1, none⟩ = some (.slice a1' n1' c1') ∧ w3.cell? ⟨w.heap.size + 1 + 1, 2, none⟩ = some (.slice none 0 0) ∧ w3.frozen? ⟨w.heap.size + 1, 0, none⟩ = false ∧ w3.frozen? ⟨w.heap.size + 1, 1, none⟩ = false ∧ w3.frozen? ⟨w.heap.size + 1, 2, none⟩ = false ∧ w3.frozen? ⟨w.heap.size + 1 + 1, 2, none⟩ = false) := ⟨by rw [bc.1 _ _ (by omega), World.cell?_setCell_other _ _ _ _ (by simp)]; exact q1, by rw [bc.1 _ _ (by omega), World.cell?_setCell_other _ _ _ _ (by simp)]; exact q2, by rw [bc.1 _ _ (by omega), World.cell?_setCell_other _ _ _ _ (by simp)]; exact q3, by rw [bc.1 _ _ (by omega), World.cell?_setCell_other _ _ _ _ (by simp)]; exact q4, by rw [bc.1 _ _ (by omega)]; exact World.cell?_setCell_same _ _ _ (q5), by rw [bc.1 _ _ (by omega), World.cell?_setCell_other _ _ _ _ (by simp)]; exact q6, by rw [bc.2.1 _ _ (by omega), World.frozen?_setCell]; exact q7, by rw [bc.2.1 _ _ (by omega), World.frozen?_setCell]; exact q8, by rw [bc.2.1 _ _ (by omega), World.frozen?_setCell]; exact q9, by rw [bc.2.1 _ _ (by omega), World.frozen?_setCell]; exact q11⟩
  clear z1 z2
  have B3 : Hid (Below w.heap.size w w3) := Frame.next BV2.out hb3 (by rw [hzV]; exact B2.out.size)
  have Z3 : Hid (w2.heap.size ≤ w3.heap.size) := by have z := hb3.size; rw [hzV] at z; exact z
  have O2 : Hid (Kep.IOwn w3 (w2.heap.size) w3.heap.size (.slice a2' n2' c2') (r.2.2)) := ho2
  have O0_3 : Hid (Knl.LOwn w3 (w.heap.size + 3) (w1.heap.size) (.slice a0' n0' c0') (r.1)) := Knl.lOwn_below (Knl.lOwn_keeps O0_2.out (Krl.keeps_set (lo := w.heap.size + 2) (hi := w.heap.size + 3) _ 1 (.slice a1' n1' c1') (by omega)) (Or.inr (by have z := Z1.out; omega))) hb3
  have O1_3 : Hid (Kep.IOwn w3 (w1.heap.size) (w2.heap.size) (.slice a1' n1' c1') (r.2.1)) := Kep.iOwn_below (Kep.iOwn_keeps O1_2.out (Krl.keeps_set (lo := w.heap.size + 2) (hi := w.heap.size + 3) _ 1 (.slice a1' n1' c1') (by omega)) (Or.inr (by have z := Z1.out; omega))) hb3
  have O2_3 : Hid (Kep.IOwn w3 (w2.heap.size) (w3.heap.size) (.slice a2' n2' c2') (r.2.2)) := O2.out
  clear bc hzV ho2 hb3 FA2 q0 q1 q2 q3 q4 q5 q6 q7 q8 q9 q10 q11 BV2
  obtain ⟨q0, q1, q2, q3, q4, q5, q6, q7, q8, q9⟩ := FA3.out
  have Q : Hid (SOwn w3 (w.heap.size + 3) w3.heap.size (.slice a0' n0' c0') (.slice a1' n1' c1') (.slice a2' n2' c2') r) := sOwn_of O0_3.out O1_3.out O2_3.out (by have z1 := Z1.out; have z2 := Z2.out; have z3 := Z3.out; omega) (by have z1 := Z1.out; have z2 := Z2.out; have z3 := Z3.out; omega) (by have z1 := Z1.out; have z2 := Z2.out; have z3 := Z3.out; omega) 
  go_wp2
  refine bodyPost_ret (v := .agg #[.slice a0' n0' c0', .slice a1' n1' c1', .slice a2' n2' c2']) (by simp [results, Try.results47, go_sem, q0, q1, q2]) rfl ?_
  exact ⟨_, _, _, rfl, sOwn_wide (sOwn_set (sOwn_set (sOwn_set (sOwn_set Q.out _ _ (by omega)) _ _ (by omega)) _ _ (by omega)) _ _ (by omega)) (by omega) (by simp), ((((B3.out.setCell (by show w.heap.size ≤ w.heap.size + 1 + 1; omega) _).setCell (by show w.heap.size ≤ w.heap.size + 1; omega) _).setCell (by show w.heap.size ≤ w.heap.size + 1; omega) _).setCell (by show w.heap.size ≤ w.heap.size + 1; omega) _)⟩

set_option maxRecDepth 8000 in
set_option maxHeartbeats 1600000 in
theorem s_sz (a0 : Option Addr) (n0 c0 : Nat) (rs0 : List Lls.LV) (a1 : Option Addr) (n1 c1 : Nat) (a2 : Option Addr) (n2 c2 : Nat)  (m : Int) (w : World) (h0 : Lls.IsLs w a0 n0 c0 rs0) (h1 : n1 ≤ maxLen) (h2 : n2 ≤ maxLen) (hm0 : 0 ≤ m) (hm1 : m ≤ 1048576) :
    Calls Try.prog 46 #[.agg #[.slice a0 n0 c0, .slice a1 n1 c1, .slice a2 n2 c2], .int .i64 m] w fun e w' => e = .returned (.int .i64 (left m (((Lls.totalL rs0 + (n1 : Int)) + (n2 : Int))))) ∧ Below w.heap.size w w' := by
  have b0 : Below w.heap.size w (w.alloc (.cells #[.slice a0 n0 c0, .slice a1 n1 c1, .slice a2 n2 c2] 55)) := (Below.refl w.heap.size w).alloc (Nat.le_refl _) _
  have HL0 : Hid (Lls.IsLs (w.alloc (.cells #[.slice a0 n0 c0, .slice a1 n1 c1, .slice a2 n2 c2] 55)) a0 n0 c0 rs0) := h0.below b0
  have hq0 : 0 ≤ Lls.totalL rs0 := Krl.total_nonneg _
  have HL1 : Hid (n1 ≤ maxLen) := h1
  have hq1 : 0 ≤ (n1 : Int) := by omega
  have HL2 : Hid (n2 ≤ maxLen) := h2
  have hq2 : 0 ≤ (n2 : Int) := by omega
  have B0 : Hid (Below w.heap.size w (w.alloc (.cells #[.slice a0 n0 c0, .slice a1 n1 c1, .slice a2 n2 c2] 55))) := b0
  clear b0 h0 h1 h2
  have HT0 : Hid (0 ≤ Lls.totalL rs0 ∧ 0 ≤ (n1 : Int) ∧ 0 ≤ (n2 : Int)) := ⟨hq0, hq1, hq2⟩
  clear hq0 hq1 hq2
  go_enter Try.func46, Try.ntmps46
  go_wp2_with fail
  refine (Lls.szIntSS _ _ _ rs0 _ _ HL0.out hm0 hm1).mono ?_
  rintro e w' ⟨rfl, hw'⟩; have hw'' := hw'.symm; clear hw'; subst hw''
  have HB0 : Hid (left m (Lls.totalL rs0) < 0 → left m (((Lls.totalL rs0 + (n1 : Int)) + (n2 : Int))) = -1) := fun hh => by
    have hz := HT0.out
    have h0 := hh
    have h1 : left m ((Lls.totalL rs0 + (n1 : Int))) < 0 := by rw [left_none m (Lls.totalL rs0) ((n1 : Int)) h0 (by omega) hm0]; omega
    have h2 : left m (((Lls.totalL rs0 + (n1 : Int)) + (n2 : Int))) < 0 := by rw [left_none m ((Lls.totalL rs0 + (n1 : Int))) ((n2 : Int)) h1 (by omega) hm0]; omega
    exact left_m1 _ _ h2
  have HM1 : Hid (0 ≤ left m (Lls.totalL rs0) → left (left m (Lls.totalL rs0)) ((n1 : Int)) = left m ((Lls.totalL rs0 + (n1 : Int)))) := fun hh => left_more m _ _ hh (by have hz := HT0.out; omega)
  have HU0 : Hid (left m (Lls.totalL rs0) ≤ 1048576) := Krl.left_le _ _ (by have hz := HT0.out; omega) hm1
  obtain ⟨K0, hK0⟩ : ∃ K, K = left m (Lls.totalL rs0) := ⟨_, rfl⟩
  have HB0' : Hid (K0 < 0 → left m (((Lls.totalL rs0 + (n1 : Int)) + (n2 : Int))) = -1) := by rw [hK0]; exact HB0.out
  have hU0 : K0 ≤ 1048576 := by rw [hK0]; exact HU0.out
  have HM1' : Hid (0 ≤ K0 → left K0 ((n1 : Int)) = left m ((Lls.totalL rs0 + (n1 : Int)))) := by rw [hK0]; exact HM1.out
  rw [← hK0]
  have HK0 : Hid (left m (Lls.totalL rs0) = K0) := hK0.symm
  clear hK0 HB0 HU0 HM1
  by_cases hl0 : K0 < 0
  · have E : Hid (left m (((Lls.totalL rs0 + (n1 : Int)) + (n2 : Int))) = -1) := HB0'.out hl0
    go_wp2
    go_ret
    exact ⟨Ints.ret_int E.out.symm, B0.out⟩
  · have hg0 : 0 ≤ K0 := by omega
    have HM1 : Hid (left K0 ((n1 : Int)) = left m ((Lls.totalL rs0 + (n1 : Int)))) := HM1'.out hg0
    go_wp2_with fail
    refine (Lls.szIntS _ _ _ _ _ HL1.out hg0 hU0).mono ?_
    rintro e w' ⟨rfl, hw'⟩; have hw'' := hw'.symm; clear hw'; subst hw''
    rw [HM1.out]
    have HB1 : Hid (left m ((Lls.totalL rs0 + (n1 : Int))) < 0 → left m (((Lls.totalL rs0 + (n1 : Int)) + (n2 : Int))) = -1) := fun hh => by
      have hz := HT0.out
      have h1 := hh
      have h2 : left m (((Lls.totalL rs0 + (n1 : Int)) + (n2 : Int))) < 0 := by rw [left_none m ((Lls.totalL rs0 + (n1 : Int))) ((n2 : Int)) h1 (by omega) hm0]; omega
      exact left_m1 _ _ h2
    have HM2 : Hid (0 ≤ left m ((Lls.totalL rs0 + (n1 : Int))) → left (left m ((Lls.totalL rs0 + (n1 : Int)))) ((n2 : Int)) = left m (((Lls.totalL rs0 + (n1 : Int)) + (n2 : Int)))) := fun hh => left_more m _ _ hh (by have hz := HT0.out; omega)
    have HU1 : Hid (left m ((Lls.totalL rs0 + (n1 : Int))) ≤ 1048576) := Krl.left_le _ _ (by have hz := HT0.out; omega) hm1
    obtain ⟨K1, hK1⟩ : ∃ K, K = left m ((Lls.totalL rs0 + (n1 : Int))) := ⟨_, rfl⟩
    have HB1' : Hid (K1 < 0 → left m (((Lls.totalL rs0 + (n1 : Int)) + (n2 : Int))) = -1) := by rw [hK1]; exact HB1.out
    have hU1 : K1 ≤ 1048576 := by rw [hK1]; exact HU1.out
    have HM2' : Hid (0 ≤ K1 → left K1 ((n2 : Int)) = left m (((Lls.totalL rs0 + (n1 : Int)) + (n2 : Int)))) := by rw [hK1]; exact HM2.out
    rw [← hK1]
    have HK1 : Hid (left m ((Lls.totalL rs0 + (n1 : Int))) = K1) := hK1.symm
    clear hK1 HB1 HU1 HM2
    by_cases hl1 : K1 < 0
    · have E : Hid (left m (((Lls.totalL rs0 + (n1 : Int)) + (n2 : Int))) = -1) := HB1'.out hl1
      go_wp2
      go_ret
      exact ⟨Ints.ret_int E.out.symm, B0.out⟩
    · have hg1 : 0 ≤ K1 := by omega
      have HM2 : Hid (left K1 ((n2 : Int)) = left m (((Lls.totalL rs0 + (n1 : Int)) + (n2 : Int)))) := HM2'.out hg1
      go_wp2_with fail
      refine (Lls.szIntS _ _ _ _ _ HL2.out hg1 hU1).mono ?_
      rintro e w' ⟨rfl, hw'⟩; have hw'' := hw'.symm; clear hw'; subst hw''
      rw [HM2.out]
      have HB2 : Hid (left m (((Lls.totalL rs0 + (n1 : Int)) + (n2 : Int))) < 0 → left m (((Lls.totalL rs0 + (n1 : Int)) + (n2 : Int))) = -1) := left_m1 _ _
      have HU2 : Hid (left m (((Lls.totalL rs0 + (n1 : Int)) + (n2 : Int))) ≤ 1048576) := Krl.left_le _ _ (by have hz := HT0.out; omega) hm1
      obtain ⟨K2, hK2⟩ : ∃ K, K = left m (((Lls.totalL rs0 + (n1 : Int)) + (n2 : Int))) := ⟨_, rfl⟩
      have HB2' : Hid (K2 < 0 → left m (((Lls.totalL rs0 + (n1 : Int)) + (n2 : Int))) = -1) := by rw [hK2]; exact HB2.out
      have hU2 : K2 ≤ 1048576 := by rw [hK2]; exact HU2.out
      rw [← hK2]
      have HK2 : Hid (left m (((Lls.totalL rs0 + (n1 : Int)) + (n2 : Int))) = K2) := hK2.symm
      clear hK2 HB2 HU2
      by_cases hl2 : K2 < 0
      · have E : Hid (left m (((Lls.totalL rs0 + (n1 : Int)) + (n2 : Int))) = -1) := HB2'.out hl2
        go_wp2
        go_ret
        exact ⟨Ints.ret_int E.out.symm, B0.out⟩
      · have hg2 : 0 ≤ K2 := by omega
        go_wp2
        go_ret
        exact ⟨Ints.ret_int HK2.out.symm, B0.out⟩

theorem d_eq (x y : D) : decide (x = y) = (decide (x.1 = y.1) && (decide (x.2.1 = y.2.1) && decide (x.2.2 = y.2.2))) := by
  rw [Bool.eq_iff_iff]
  simp only [Bool.and_eq_true, decide_eq_true_eq]
  constructor
  · intro h; subst h; exact ⟨rfl, rfl, rfl⟩
  · rintro ⟨e0, e1, e2⟩; exact Prod.ext e0 (Prod.ext e1 (e2))
set_option maxRecDepth 8000 in
set_option maxHeartbeats 1600000 in
theorem s_eq (u0 u1 u2 t0 t1 t2 : Value) (x y : D) (w : World) (h1 : SIs w u0 u1 u2 x) (h2 : SIs w t0 t1 t2 y) :
    Calls Try.prog 49 #[.agg #[u0, u1, u2], .agg #[t0, t1, t2]] w fun e w' => e = .returned (.bool (decide (x = y))) ∧ Below w.heap.size w w' := by
  have HX : Hid (SIs w u0 u1 u2 x) := h1
  have HY : Hid (SIs w t0 t1 t2 y) := h2
  obtain ⟨a0, n0, c0, hu0⟩ := Krl.lIs_slice h1.1; subst hu0
  obtain ⟨a1, n1, c1, hu1⟩ := Krl.iIs_slice h1.2.1; subst hu1
  obtain ⟨a2, n2, c2, hu2⟩ := Krl.iIs_slice h1.2.2; subst hu2
  obtain ⟨a0', n0', c0', ht0⟩ := Krl.lIs_slice h2.1; subst ht0
  obtain ⟨a1', n1', c1', ht1⟩ := Krl.iIs_slice h2.2.1; subst ht1
  obtain ⟨a2', n2', c2', ht2⟩ := Krl.iIs_slice h2.2.2; subst ht2
  clear h1 h2
  rw [d_eq]
  have hsz : ((w.alloc (.cells #[.slice a0 n0 c0, .slice a1 n1 c1, .slice a2 n2 c2] 26)).alloc (.cells #[.slice a0' n0' c0', .slice a1' n1' c1', .slice a2' n2' c2'] 26)).heap.size = w.heap.size + 2 := by simp
  have B0 : Hid (Below w.heap.size w ((w.alloc (.cells #[.slice a0 n0 c0, .slice a1 n1 c1, .slice a2 n2 c2] 26)).alloc (.cells #[.slice a0' n0' c0', .slice a1' n1' c1', .slice a2' n2' c2'] 26))) := ((Below.refl _ _).alloc (Nat.le_refl _) _).alloc (by simp) _
  go_enter Try.func49, Try.ntmps49
  go_wp2_with fail
  refine (Knl.l_eq _ _ (x.1) (y.1) _ (Knl.lIs_below HX.out.1 B0.out) (Knl.lIs_below HY.out.1 B0.out)).mono ?_
  rintro e w1 ⟨rfl, hb1⟩
  have B1 : Hid (Below w.heap.size w w1) := Frame.next B0.out hb1 (by have z := B0.out.size; exact z)
  have bc := Frame.bcell hb1
  rw [hsz] at bc
  clear hsz
  have F1 : Hid (w1.cell? ⟨w.heap.size, 1, none⟩ = some (.slice a1 n1 c1) ∧ w1.cell? ⟨w.heap.size + 1, 1, none⟩ = some (.slice a1' n1' c1') ∧ w1.cell? ⟨w.heap.size, 2, none⟩ = some (.slice a2 n2 c2) ∧ w1.cell? ⟨w.heap.size + 1, 2, none⟩ = some (.slice a2' n2' c2')) := ⟨by rw [bc.1 _ _ (by omega)]; go_simp, by rw [bc.1 _ _ (by omega)]; go_simp, by rw [bc.1 _ _ (by omega)]; go_simp, by rw [bc.1 _ _ (by omega)]; go_simp⟩
  clear bc hb1
  rcases Bool.eq_false_or_eq_true (decide (x.1 = y.1)) with hd | hd
  rotate_left
  · have HD0 : Hid (decide (x.1 = y.1) = false) := hd
    rw [hd]
    clear hd
    go_wp2
    go_ret
    exact ⟨Ints.ret_bool (by simp only [HD0.out, Bool.false_and]), B1.out⟩
  · have HD0 : Hid (decide (x.1 = y.1) = true) := hd
    rw [hd]
    clear hd
    obtain ⟨q0, q1, q2, q3⟩ := F1.out
    go_wp2_with fail
    refine (Kep.i_eq _ _ (x.2.1) (y.2.1) _ (Kep.iIs_below HX.out.2.1 B1.out) (Kep.iIs_below HY.out.2.1 B1.out)).mono ?_
    rintro e w2 ⟨rfl, hb2⟩
    have B2 : Hid (Below w.heap.size w w2) := Frame.next B1.out hb2 (by have z := B1.out.size; exact z)
    have bc := Frame.bcell hb2
    have F2 : Hid (w2.cell? ⟨w.heap.size, 2, none⟩ = some (.slice a2 n2 c2) ∧ w2.cell? ⟨w.heap.size + 1, 2, none⟩ = some (.slice a2' n2' c2')) := ⟨(bc.1 _ _ (Frame.cell_lt (F1.out.2.2.1))).trans (F1.out.2.2.1), (bc.1 _ _ (Frame.cell_lt (F1.out.2.2.2))).trans (F1.out.2.2.2)⟩
    clear bc hb2
    clear q0 q1 q2 q3
    rcases Bool.eq_false_or_eq_true (decide (x.2.1 = y.2.1)) with hd | hd
    rotate_left
    · have HD1 : Hid (decide (x.2.1 = y.2.1) = false) := hd
      rw [hd]
      clear hd
      go_wp2
      go_ret
      exact ⟨Ints.ret_bool (by simp only [HD0.out, HD1.out, Bool.true_and, Bool.false_and]), B2.out⟩
    · have HD1 : Hid (decide (x.2.1 = y.2.1) = true) := hd
      rw [hd]
      clear hd
      obtain ⟨q0, q1⟩ := F2.out
      go_wp2_with fail
      refine (Kep.i_eq _ _ (x.2.2) (y.2.2) _ (Kep.iIs_below HX.out.2.2 B2.out) (Kep.iIs_below HY.out.2.2 B2.out)).mono ?_
      rintro e w3 ⟨rfl, hb3⟩
      have B3 : Hid (Below w.heap.size w w3) := Frame.next B2.out hb3 (by have z := B2.out.size; exact z)
      have bc := Frame.bcell hb3
      clear bc hb3
      clear q0 q1
      rcases Bool.eq_false_or_eq_true (decide (x.2.2 = y.2.2)) with hd | hd
      rotate_left
      · have HD2 : Hid (decide (x.2.2 = y.2.2) = false) := hd
        rw [hd]
        clear hd
        go_wp2
        go_ret
        exact ⟨Ints.ret_bool (by simp only [HD0.out, HD1.out, HD2.out, Bool.true_and]), B3.out⟩
      · have HD2 : Hid (decide (x.2.2 = y.2.2) = true) := hd
        rw [hd]
        clear hd
        go_wp2
        go_ret
        exact ⟨Ints.ret_bool (by simp only [HD0.out, HD1.out, HD2.out, Bool.true_and]), B3.out⟩

set_option maxRecDepth 8000 in
set_option maxHeartbeats 1600000 in
theorem s_mark (u0 u1 u2 : Value) (r : D) (lo hi : Nat) (k : Int) (w : World) (h : SOwn w lo hi u0 u1 u2 r) (hk0 : 0 ≤ k) (hk1 : k ≤ 50000000) :
    Calls Try.prog 50 #[.agg #[u0, u1, u2], .int .i64 k] w fun e w' => ∃ nx, e = .returned (.int .i64 nx) ∧ 0 ≤ nx ∧ nx ≤ k + 8000000 ∧ SMarked w' lo hi u0 u1 u2 k nx ∧ Keeps lo hi w w' := by
  have his := sOwn_is h
  obtain ⟨a0, n0, c0, hu0⟩ := Krl.lIs_slice his.1; subst hu0
  obtain ⟨a1, n1, c1, hu1⟩ := Krl.iIs_slice his.2.1; subst hu1
  obtain ⟨a2, n2, c2, hu2⟩ := Krl.iIs_slice his.2.2; subst hu2
  clear his
  obtain ⟨s0, s1, s2, hp, h0, h1, h2⟩ := h
  obtain ⟨p0, hq0⟩ : ∃ q, q = cut s0 lo hi w.heap.size := ⟨_, rfl⟩
  replace h0 : Kfp.LF w lo hi p0 (.slice a0 n0 c0) (r.1) := by rw [hq0]; exact Kfp.lF_cut h0
  have IN0 : Hid (∀ b, p0 b → lo ≤ b ∧ b < hi) := by rw [hq0]; exact fun b hb => ⟨hb.2.1, hb.2.2.1⟩
  have BP0 : Hid (¬ p0 w.heap.size) := by rw [hq0]; exact fun hb => Nat.lt_irrefl _ hb.2.2.2
  obtain ⟨p1, hq1⟩ : ∃ q, q = cut s1 lo hi w.heap.size := ⟨_, rfl⟩
  replace h1 : Kfp.IF w lo hi p1 (.slice a1 n1 c1) (r.2.1) := by rw [hq1]; exact Kfp.iF_cut h1
  have IN1 : Hid (∀ b, p1 b → lo ≤ b ∧ b < hi) := by rw [hq1]; exact fun b hb => ⟨hb.2.1, hb.2.2.1⟩
  have BP1 : Hid (¬ p1 w.heap.size) := by rw [hq1]; exact fun hb => Nat.lt_irrefl _ hb.2.2.2
  obtain ⟨p2, hq2⟩ : ∃ q, q = cut s2 lo hi w.heap.size := ⟨_, rfl⟩
  replace h2 : Kfp.IF w lo hi p2 (.slice a2 n2 c2) (r.2.2) := by rw [hq2]; exact Kfp.iF_cut h2
  have IN2 : Hid (∀ b, p2 b → lo ≤ b ∧ b < hi) := by rw [hq2]; exact fun b hb => ⟨hb.2.1, hb.2.2.1⟩
  have BP2 : Hid (¬ p2 w.heap.size) := by rw [hq2]; exact fun hb => Nat.lt_irrefl _ hb.2.2.2
  have HP : Hid (Dis p0 p1 p2) := by rw [hq0, hq1, hq2]; exact ⟨fun b x y => hp.1 b x.1 y.1, fun b x y => hp.2.1 b x.1 y.1, fun b x y => hp.2.2 b x.1 y.1⟩
  clear hp hq0 hq1 hq2
  have b0 : Below w.heap.size w (w.alloc (.cells #[.slice a0 n0 c0, .slice a1 n1 c1, .slice a2 n2 c2] 26)) := (Below.refl w.heap.size w).alloc (Nat.le_refl _) _
  have O0 : Hid (Kfp.LF (w.alloc (.cells #[.slice a0 n0 c0, .slice a1 n1 c1, .slice a2 n2 c2] 26)) lo hi p0 (.slice a0 n0 c0) (r.1)) := Kfp.lF_below h0 b0
  have O1 : Hid (Kfp.IF (w.alloc (.cells #[.slice a0 n0 c0, .slice a1 n1 c1, .slice a2 n2 c2] 26)) lo hi p1 (.slice a1 n1 c1) (r.2.1)) := Kfp.iF_below h1 b0
  have O2 : Hid (Kfp.IF (w.alloc (.cells #[.slice a0 n0 c0, .slice a1 n1 c1, .slice a2 n2 c2] 26)) lo hi p2 (.slice a2 n2 c2) (r.2.2)) := Kfp.iF_below h2 b0
  have KP : Hid (Keeps lo hi w (w.alloc (.cells #[.slice a0 n0 c0, .slice a1 n1 c1, .slice a2 n2 c2] 26))) := Keeps.of_below b0
  clear b0 h0 h1 h2
  go_enter Try.func50, Try.ntmps50
  go_wp2_with fail
  refine (Kfp.lF_mark _ (r.1) lo hi p0 k _ O0.out (by omega) (by omega)).mono ?_
  rintro e w1 ⟨k_1, rfl, hl1, hu1, hm1, kf1⟩
  have F1 : Hid (w1.cell? ⟨w.heap.size, 1, none⟩ = some (.slice a1 n1 c1) ∧ w1.cell? ⟨w.heap.size, 2, none⟩ = some (.slice a2 n2 c2)) := ⟨KeepsF.cell kf1 (by go_simp) BP0.out, KeepsF.cell kf1 (by go_simp) BP0.out⟩
  have M0_1 : Hid (Kfp.LM w1 lo hi p0 (.slice a0 n0 c0) k k_1) := hm1
  have O1_1 : Hid (Kfp.IF w1 lo hi p1 (.slice a1 n1 c1) (r.2.1)) := Kfp.iF_keepsF O1.out kf1 (fun x hx hy => HP.out.1 x hy hx)
  have O2_1 : Hid (Kfp.IF w1 lo hi p2 (.slice a2 n2 c2) (r.2.2)) := Kfp.iF_keepsF O2.out kf1 (fun x hx hy => HP.out.2.1 x hy hx)
  have KP1 : Hid (Keeps lo hi w w1) := Krl.keeps_trans KP.out (kf1.keeps IN0.out)
  clear hm1 kf1
  obtain ⟨q0, q1⟩ := F1.out
  go_wp2_with fail
  refine (Kfp.iF_mark _ (r.2.1) lo hi p1 k_1 _ O1_1.out (by omega) (by omega)).mono ?_
  rintro e w2 ⟨k_2, rfl, hl2, hu2, hm2, kf2⟩
  clear q0 q1
  have F2 : Hid (w2.cell? ⟨w.heap.size, 2, none⟩ = some (.slice a2 n2 c2)) := KeepsF.cell kf2 (F1.out.2) BP1.out
  have M0_2 : Hid (Kfp.LM w2 lo hi p0 (.slice a0 n0 c0) k k_1) := Kfp.lM_keepsF M0_1.out kf2 HP.out.1
  have M1_2 : Hid (Kfp.IM w2 lo hi p1 (.slice a1 n1 c1) k_1 k_2) := hm2
  have O2_2 : Hid (Kfp.IF w2 lo hi p2 (.slice a2 n2 c2) (r.2.2)) := Kfp.iF_keepsF O2_1.out kf2 (fun x hx hy => HP.out.2.2 x hy hx)
  have KP2 : Hid (Keeps lo hi w w2) := Krl.keeps_trans KP1.out (kf2.keeps IN1.out)
  clear hm2 kf2
  have q0 := F2.out
  go_wp2_with fail
  refine (Kfp.iF_mark _ (r.2.2) lo hi p2 k_2 _ O2_2.out (by omega) (by omega)).mono ?_
  rintro e w3 ⟨k_3, rfl, hl3, hu3, hm3, kf3⟩
  clear q0
  have M0_3 : Hid (Kfp.LM w3 lo hi p0 (.slice a0 n0 c0) k k_1) := Kfp.lM_keepsF M0_2.out kf3 HP.out.2.1
  have M1_3 : Hid (Kfp.IM w3 lo hi p1 (.slice a1 n1 c1) k_1 k_2) := Kfp.iM_keepsF M1_2.out kf3 HP.out.2.2
  have M2_3 : Hid (Kfp.IM w3 lo hi p2 (.slice a2 n2 c2) k_2 k_3) := hm3
  have KP3 : Hid (Keeps lo hi w w3) := Krl.keeps_trans KP2.out (kf3.keeps IN2.out)
  clear hm3 kf3
  go_wp2
  go_ret
  exact ⟨_, rfl, by omega, by omega, ⟨p0, p1, p2, k_1, k_2, HP.out, M0_3.out, M1_3.out, M2_3.out⟩, KP3.out⟩

set_option maxRecDepth 8000 in
set_option maxHeartbeats 1600000 in
theorem s_held (u0 u1 u2 : Value)  (lo hi : Nat) (k nx : Int) (w : World) (h : SMarked w lo hi u0 u1 u2 k nx) :
    Calls Try.prog 51 #[.agg #[u0, u1, u2], .int .i64 k] w fun e w' => e = .returned (.int .i64 nx) ∧ Below w.heap.size w w' := by
  obtain ⟨p0, p1, p2, k1, k2, _, h0, h1, h2⟩ := h
  obtain ⟨a0, n0, c0, hu0⟩ := Kfp.lM_slice h0; subst hu0
  obtain ⟨a1, n1, c1, hu1⟩ := Kfp.iM_slice h1; subst hu1
  obtain ⟨a2, n2, c2, hu2⟩ := Kfp.iM_slice h2; subst hu2
  have b0 : Below w.heap.size w (w.alloc (.cells #[.slice a0 n0 c0, .slice a1 n1 c1, .slice a2 n2 c2] 26)) := (Below.refl w.heap.size w).alloc (Nat.le_refl _) _
  have M0 : Hid (Kfp.LM (w.alloc (.cells #[.slice a0 n0 c0, .slice a1 n1 c1, .slice a2 n2 c2] 26)) lo hi p0 (.slice a0 n0 c0) k k1) := Kfp.lM_below h0 b0
  have hx0 := Kfp.lM_nx h0
  have hz : 0 ≤ k := Kfp.lM_k h0
  have M1 : Hid (Kfp.IM (w.alloc (.cells #[.slice a0 n0 c0, .slice a1 n1 c1, .slice a2 n2 c2] 26)) lo hi p1 (.slice a1 n1 c1) k1 k2) := Kfp.iM_below h1 b0
  have hx1 := Kfp.iM_nx h1
  have M2 : Hid (Kfp.IM (w.alloc (.cells #[.slice a0 n0 c0, .slice a1 n1 c1, .slice a2 n2 c2] 26)) lo hi p2 (.slice a2 n2 c2) k2 nx) := Kfp.iM_below h2 b0
  have hx2 := Kfp.iM_nx h2
  have B0 : Hid (Below w.heap.size w (w.alloc (.cells #[.slice a0 n0 c0, .slice a1 n1 c1, .slice a2 n2 c2] 26))) := b0
  have g0 : ¬ k1 < 0 := by omega
  have g1 : ¬ k2 < 0 := by omega
  have g2 : ¬ nx < 0 := by omega
  clear b0 hz hx0 hx1 hx2 h0 h1 h2
  go_enter Try.func51, Try.ntmps51
  go_wp2_with fail
  refine (Kfp.lF_held _ lo hi p0 k k1 _ M0.out).mono ?_
  rintro e w' ⟨rfl, hw'⟩; have hw'' := hw'.symm; clear hw'; subst hw''
  go_wp2_with fail
  refine (Kfp.iF_held _ lo hi p1 k1 k2 _ M1.out).mono ?_
  rintro e w' ⟨rfl, hw'⟩; have hw'' := hw'.symm; clear hw'; subst hw''
  go_wp2_with fail
  refine (Kfp.iF_held _ lo hi p2 k2 nx _ M2.out).mono ?_
  rintro e w' ⟨rfl, hw'⟩; have hw'' := hw'.symm; clear hw'; subst hw''
  go_wp2
  go_ret
  exact ⟨rfl, B0.out⟩

theorem s_to9 (u0 u1 u2 : Value) (r : D) (w : World) (h : SIs w u0 u1 u2 r) :
    Calls Try.prog 47 #[.agg #[u0, u1, u2]] w fun e w' => ∃ a0 n0 c0 a1 n1 c1 a2 n2 c2, e = .returned (.agg #[.slice a0 n0 c0, .slice a1 n1 c1, .slice a2 n2 c2]) ∧ SOwn w' w.heap.size w'.heap.size (.slice a0 n0 c0) (.slice a1 n1 c1) (.slice a2 n2 c2) r ∧ Below w.heap.size w w' := by
  refine (s_to u0 u1 u2 r w h).mono ?_
  rintro e w' ⟨v0, v1, v2, rfl, ho, hb⟩
  have hi := sOwn_is ho
  obtain ⟨a0, n0, c0, hu0⟩ := Krl.lIs_slice hi.1; subst hu0
  obtain ⟨a1, n1, c1, hu1⟩ := Krl.iIs_slice hi.2.1; subst hu1
  obtain ⟨a2, n2, c2, hu2⟩ := Krl.iIs_slice hi.2.2; subst hu2
  exact ⟨a0, n0, c0, a1, n1, c1, a2, n2, c2, rfl, ho, hb⟩


end Go.Proofs.Ytkondmnkmbdncaa.SLocks
