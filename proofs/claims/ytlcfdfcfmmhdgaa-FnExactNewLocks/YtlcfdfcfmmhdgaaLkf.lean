/-
  Contracts of NewLocks, of the program and of the model.
-/
import Derived.Test.YtlcfdfcfmmhdgaaLat
import Derived.Test.YtlcfdfcfmmhdgaaLkb
import Derived.Deep.RegionHeld3
import Derived.Deep.OwnRows
namespace Go.Proofs.Ytlcfdfcfmmhdgaa.Lkf
open Go.RowKit Go.Deep
open Go.Proofs.Ytlcfdfcfmmhdgaa.Frame Go.Proofs.Ytlcfdfcfmmhdgaa.Mem Go.Proofs.Ytlcfdfcfmmhdgaa.Kep Go.Proofs.Ytlcfdfcfmmhdgaa.Kfp
open Go.Proofs.Ytlcfdfcfmmhdgaa.SLocks (D SIs SOwn)

def newD : D := ([[], [], [], []], [-1, -1, -1, -1], [])
def r4 : List Lls.LV := List.replicate 4 Lls.ld
/-- What the first statement leaves: the readers at g0, the writers at g1, the box at gb. -/
structure New (w W : World) (g0 g1 gb : Nat) : Prop where
  own0 : Lls.OwnLs W (w.heap.size + 1) (some ⟨g0, 0, none⟩) 4 4 r4
  own1 : W.ownsRow (w.heap.size + 1) 3 1 (.slice (some ⟨g1, 0, none⟩) 4 4) 4 (ints .i64 (([-1, -1, -1, -1] : List Int).take 0) ++ List.replicate (4 - 0) (Value.int .i64 0))
  box0 : W.cell? ⟨gb, 0, none⟩ = some (.slice (some ⟨g0, 0, none⟩) 4 4)
  box1 : W.cell? ⟨gb, 1, none⟩ = some (.slice (some ⟨g1, 0, none⟩) 4 4)
  box2 : W.cell? ⟨gb, 2, none⟩ = some (.slice none 0 0)
  res : (W.cell? ⟨w.heap.size, 0, none⟩ = some (.slice none 0 0) ∧ W.cell? ⟨w.heap.size, 1, none⟩ = some (.slice none 0 0) ∧ W.cell? ⟨w.heap.size, 2, none⟩ = some (.slice none 0 0)) ∧ W.frozen? ⟨w.heap.size, 0, none⟩ = false ∧ W.frozen? ⟨w.heap.size, 1, none⟩ = false ∧ W.frozen? ⟨w.heap.size, 2, none⟩ = false
  ne01 : g0 ≠ g1
  ne0b : g0 ≠ gb
  ne1b : g1 ≠ gb
  lo0 : w.heap.size + 1 ≤ g0
  lo1 : w.heap.size + 1 ≤ g1
  lob : w.heap.size + 1 ≤ gb
  below : Below w.heap.size w W
  size : w.heap.size + 1 ≤ W.heap.size

theorem own0_made (V : World) (base : Nat) (hb : base ≤ V.heap.size) : Lls.OwnLs (V.alloc (.cells (madeCells #[.slice none 0 0] 4) 24)) base (some ⟨V.heap.size, 0, none⟩) 4 4 r4 :=
  Lls.own_made (Lat.made_own V base _ _ 4 hb (by unfold maxLen; omega) (by simp [madeCells]))
theorem own1_made (V : World) (base : Nat) (hb : base ≤ V.heap.size) : (V.alloc (.cells (madeCells #[.int .i64 0] 4) 3)).ownsRow base 3 1 (.slice (some ⟨V.heap.size, 0, none⟩) 4 4) 4 (ints .i64 (([-1, -1, -1, -1] : List Int).take 0) ++ List.replicate (4 - 0) (Value.int .i64 0)) := by
  have e : (madeCells #[Value.int .i64 0] 4).toList = ints .i64 (([-1, -1, -1, -1] : List Int).take 0) ++ List.replicate (4 - 0) (Value.int .i64 0) := by rw [toList_madeCells_one]; simp [ints]
  rw [← e]
  exact Lat.made_own V base _ _ 4 hb (by unfold maxLen; omega) (by simp [madeCells])
theorem bw_one (V : World) (o : Obj) : Below V.heap.size V (V.alloc o) := (Below.refl _ _).alloc (Nat.le_refl _) _

set_option maxRecDepth 8000 in
set_option maxHeartbeats 3200000 in
theorem impl_NewLocks (w : World) :
    Calls Try.prog 24 #[] w fun e w' => ∃ a0 n0 c0 a1 n1 c1 a2 n2 c2, e = .returned (.agg #[.slice a0 n0 c0, .slice a1 n1 c1, .slice a2 n2 c2]) ∧ SOwn w' w.heap.size w'.heap.size (.slice a0 n0 c0) (.slice a1 n1 c1) (.slice a2 n2 c2) newD ∧ Below w.heap.size w w' := by
  have hmk0 : ∀ w : World, (Instr.makeSlice 23 (.int .i64 4) (.int .i64 4)).run Try.prog w = .ok (.slice (some ⟨w.heap.size, 0, none⟩) 4 4) (w.alloc (.cells (madeCells #[.slice none 0 0] 4) 24)) := fun w => run_make_row' 23 24 (.slice none 0 0) 24 Try.underlying23 Lls.infoL rfl .i64 .i64 4 (by omega) (by omega) w
  have hmk1 : ∀ w : World, (Instr.makeSlice 24 (.int .i64 4) (.int .i64 4)).run Try.prog w = .ok (.slice (some ⟨w.heap.size, 0, none⟩) 4 4) (w.alloc (.cells (madeCells #[.int .i64 0] 4) 3)) := fun w => run_make_row' 24 3 (.int .i64 0) 8 Try.underlying24 Ints.info rfl .i64 .i64 4 (by omega) (by omega) w
  have FRIB : Hid (New w ((((w.alloc (.cells #[.slice none 0 0, .slice none 0 0, .slice none 0 0] 26)).alloc (.cells (madeCells #[.slice none 0 0] 4) 24)).alloc (.cells (madeCells #[.int .i64 0] 4) 3)).alloc (.cells #[.slice (some ⟨w.heap.size + 1, 0, none⟩) 4 4, .slice (some ⟨w.heap.size + 1 + 1, 0, none⟩) 4 4, .slice none 0 0] 26)).drew (w.heap.size + 1) (w.heap.size + 1 + 1) (w.heap.size + 1 + 1 + 1)) := by
    have e0 : (w.alloc (.cells #[.slice none 0 0, .slice none 0 0, .slice none 0 0] 26)).heap.size = w.heap.size + 1 := by simp
    have e1 : ((w.alloc (.cells #[.slice none 0 0, .slice none 0 0, .slice none 0 0] 26)).alloc (.cells (madeCells #[.slice none 0 0] 4) 24)).heap.size = w.heap.size + 1 + 1 := by simp
    refine ⟨by have h := (Lls.OwnLs.below (Lls.OwnLs.below (Lls.OwnLs.below (own0_made (w.alloc (.cells #[.slice none 0 0, .slice none 0 0, .slice none 0 0] 26)) (w.heap.size + 1) (by simp; try omega)) (bw_one ((w.alloc (.cells #[.slice none 0 0, .slice none 0 0, .slice none 0 0] 26)).alloc (.cells (madeCells #[.slice none 0 0] 4) 24)) (.cells (madeCells #[.int .i64 0] 4) 3))) (bw_one (((w.alloc (.cells #[.slice none 0 0, .slice none 0 0, .slice none 0 0] 26)).alloc (.cells (madeCells #[.slice none 0 0] 4) 24)).alloc (.cells (madeCells #[.int .i64 0] 4) 3)) (.cells #[.slice (some ⟨w.heap.size + 1, 0, none⟩) 4 4, .slice (some ⟨w.heap.size + 1 + 1, 0, none⟩) 4 4, .slice none 0 0] 26))) ((Below.refl _ _).drew)); rw [e0] at h; exact h, by have h := (own_below (own_below (own1_made ((w.alloc (.cells #[.slice none 0 0, .slice none 0 0, .slice none 0 0] 26)).alloc (.cells (madeCells #[.slice none 0 0] 4) 24)) (w.heap.size + 1) (by simp; try omega)) (bw_one (((w.alloc (.cells #[.slice none 0 0, .slice none 0 0, .slice none 0 0] 26)).alloc (.cells (madeCells #[.slice none 0 0] 4) 24)).alloc (.cells (madeCells #[.int .i64 0] 4) 3)) (.cells #[.slice (some ⟨w.heap.size + 1, 0, none⟩) 4 4, .slice (some ⟨w.heap.size + 1 + 1, 0, none⟩) 4 4, .slice none 0 0] 26))) ((Below.refl _ _).drew)); rw [e1] at h; exact h, ?_, ?_, ?_, ⟨⟨?_, ?_, ?_⟩, ?_, ?_, ?_⟩, by omega, by omega, by omega, by omega, by omega, by omega, ?_, ?_⟩
    · rw [World.cell?_drew]; go_simp
    · rw [World.cell?_drew]; go_simp
    · rw [World.cell?_drew]; go_simp
    · rw [World.cell?_drew]; go_simp
    · rw [World.cell?_drew]; go_simp
    · rw [World.cell?_drew]; go_simp
    · rw [World.frozen?_drew]; go_simp
    · rw [World.frozen?_drew]; go_simp
    · rw [World.frozen?_drew]; go_simp
    · exact (((((Below.refl _ _).alloc (Nat.le_refl _) _).alloc (by simp) _).alloc (by simp; omega) _).alloc (by simp; omega) _).drew
    · simp; try omega
  have FRBI : Hid (New w ((((w.alloc (.cells #[.slice none 0 0, .slice none 0 0, .slice none 0 0] 26)).alloc (.cells (madeCells #[.slice none 0 0] 4) 24)).alloc (.cells #[.slice (some ⟨w.heap.size + 1, 0, none⟩) 4 4, .slice (some ⟨w.heap.size + 1 + 1 + 1, 0, none⟩) 4 4, .slice none 0 0] 26)).alloc (.cells (madeCells #[.int .i64 0] 4) 3)).drew (w.heap.size + 1) (w.heap.size + 1 + 1 + 1) (w.heap.size + 1 + 1)) := by
    have e0 : (w.alloc (.cells #[.slice none 0 0, .slice none 0 0, .slice none 0 0] 26)).heap.size = w.heap.size + 1 := by simp
    have e1 : (((w.alloc (.cells #[.slice none 0 0, .slice none 0 0, .slice none 0 0] 26)).alloc (.cells (madeCells #[.slice none 0 0] 4) 24)).alloc (.cells #[.slice (some ⟨w.heap.size + 1, 0, none⟩) 4 4, .slice (some ⟨w.heap.size + 1 + 1 + 1, 0, none⟩) 4 4, .slice none 0 0] 26)).heap.size = w.heap.size + 1 + 1 + 1 := by simp
    refine ⟨by have h := (Lls.OwnLs.below (Lls.OwnLs.below (Lls.OwnLs.below (own0_made (w.alloc (.cells #[.slice none 0 0, .slice none 0 0, .slice none 0 0] 26)) (w.heap.size + 1) (by simp; try omega)) (bw_one ((w.alloc (.cells #[.slice none 0 0, .slice none 0 0, .slice none 0 0] 26)).alloc (.cells (madeCells #[.slice none 0 0] 4) 24)) (.cells #[.slice (some ⟨w.heap.size + 1, 0, none⟩) 4 4, .slice (some ⟨w.heap.size + 1 + 1 + 1, 0, none⟩) 4 4, .slice none 0 0] 26))) (bw_one (((w.alloc (.cells #[.slice none 0 0, .slice none 0 0, .slice none 0 0] 26)).alloc (.cells (madeCells #[.slice none 0 0] 4) 24)).alloc (.cells #[.slice (some ⟨w.heap.size + 1, 0, none⟩) 4 4, .slice (some ⟨w.heap.size + 1 + 1 + 1, 0, none⟩) 4 4, .slice none 0 0] 26)) (.cells (madeCells #[.int .i64 0] 4) 3))) ((Below.refl _ _).drew)); rw [e0] at h; exact h, by have h := (own_below (own1_made (((w.alloc (.cells #[.slice none 0 0, .slice none 0 0, .slice none 0 0] 26)).alloc (.cells (madeCells #[.slice none 0 0] 4) 24)).alloc (.cells #[.slice (some ⟨w.heap.size + 1, 0, none⟩) 4 4, .slice (some ⟨w.heap.size + 1 + 1 + 1, 0, none⟩) 4 4, .slice none 0 0] 26)) (w.heap.size + 1) (by simp; try omega)) ((Below.refl _ _).drew)); rw [e1] at h; exact h, ?_, ?_, ?_, ⟨⟨?_, ?_, ?_⟩, ?_, ?_, ?_⟩, by omega, by omega, by omega, by omega, by omega, by omega, ?_, ?_⟩
    · rw [World.cell?_drew]; go_simp
    · rw [World.cell?_drew]; go_simp
    · rw [World.cell?_drew]; go_simp
    · rw [World.cell?_drew]; go_simp
    · rw [World.cell?_drew]; go_simp
    · rw [World.cell?_drew]; go_simp
    · rw [World.frozen?_drew]; go_simp
    · rw [World.frozen?_drew]; go_simp
    · rw [World.frozen?_drew]; go_simp
    · exact (((((Below.refl _ _).alloc (Nat.le_refl _) _).alloc (by simp) _).alloc (by simp; omega) _).alloc (by simp; omega) _).drew
    · simp; try omega
  have FIRB : Hid (New w ((((w.alloc (.cells #[.slice none 0 0, .slice none 0 0, .slice none 0 0] 26)).alloc (.cells (madeCells #[.int .i64 0] 4) 3)).alloc (.cells (madeCells #[.slice none 0 0] 4) 24)).alloc (.cells #[.slice (some ⟨w.heap.size + 1 + 1, 0, none⟩) 4 4, .slice (some ⟨w.heap.size + 1, 0, none⟩) 4 4, .slice none 0 0] 26)).drew (w.heap.size + 1 + 1) (w.heap.size + 1) (w.heap.size + 1 + 1 + 1)) := by
    have e0 : ((w.alloc (.cells #[.slice none 0 0, .slice none 0 0, .slice none 0 0] 26)).alloc (.cells (madeCells #[.int .i64 0] 4) 3)).heap.size = w.heap.size + 1 + 1 := by simp
    have e1 : (w.alloc (.cells #[.slice none 0 0, .slice none 0 0, .slice none 0 0] 26)).heap.size = w.heap.size + 1 := by simp
    refine ⟨by have h := (Lls.OwnLs.below (Lls.OwnLs.below (own0_made ((w.alloc (.cells #[.slice none 0 0, .slice none 0 0, .slice none 0 0] 26)).alloc (.cells (madeCells #[.int .i64 0] 4) 3)) (w.heap.size + 1) (by simp; try omega)) (bw_one (((w.alloc (.cells #[.slice none 0 0, .slice none 0 0, .slice none 0 0] 26)).alloc (.cells (madeCells #[.int .i64 0] 4) 3)).alloc (.cells (madeCells #[.slice none 0 0] 4) 24)) (.cells #[.slice (some ⟨w.heap.size + 1 + 1, 0, none⟩) 4 4, .slice (some ⟨w.heap.size + 1, 0, none⟩) 4 4, .slice none 0 0] 26))) ((Below.refl _ _).drew)); rw [e0] at h; exact h, by have h := (own_below (own_below (own_below (own1_made (w.alloc (.cells #[.slice none 0 0, .slice none 0 0, .slice none 0 0] 26)) (w.heap.size + 1) (by simp; try omega)) (bw_one ((w.alloc (.cells #[.slice none 0 0, .slice none 0 0, .slice none 0 0] 26)).alloc (.cells (madeCells #[.int .i64 0] 4) 3)) (.cells (madeCells #[.slice none 0 0] 4) 24))) (bw_one (((w.alloc (.cells #[.slice none 0 0, .slice none 0 0, .slice none 0 0] 26)).alloc (.cells (madeCells #[.int .i64 0] 4) 3)).alloc (.cells (madeCells #[.slice none 0 0] 4) 24)) (.cells #[.slice (some ⟨w.heap.size + 1 + 1, 0, none⟩) 4 4, .slice (some ⟨w.heap.size + 1, 0, none⟩) 4 4, .slice none 0 0] 26))) ((Below.refl _ _).drew)); rw [e1] at h; exact h, ?_, ?_, ?_, ⟨⟨?_, ?_, ?_⟩, ?_, ?_, ?_⟩, by omega, by omega, by omega, by omega, by omega, by omega, ?_, ?_⟩
    · rw [World.cell?_drew]; go_simp
    · rw [World.cell?_drew]; go_simp
    · rw [World.cell?_drew]; go_simp
    · rw [World.cell?_drew]; go_simp
    · rw [World.cell?_drew]; go_simp
    · rw [World.cell?_drew]; go_simp
    · rw [World.frozen?_drew]; go_simp
    · rw [World.frozen?_drew]; go_simp
    · rw [World.frozen?_drew]; go_simp
    · exact (((((Below.refl _ _).alloc (Nat.le_refl _) _).alloc (by simp) _).alloc (by simp; omega) _).alloc (by simp; omega) _).drew
    · simp; try omega
  have FIBR : Hid (New w ((((w.alloc (.cells #[.slice none 0 0, .slice none 0 0, .slice none 0 0] 26)).alloc (.cells (madeCells #[.int .i64 0] 4) 3)).alloc (.cells #[.slice (some ⟨w.heap.size + 1 + 1 + 1, 0, none⟩) 4 4, .slice (some ⟨w.heap.size + 1, 0, none⟩) 4 4, .slice none 0 0] 26)).alloc (.cells (madeCells #[.slice none 0 0] 4) 24)).drew (w.heap.size + 1 + 1 + 1) (w.heap.size + 1) (w.heap.size + 1 + 1)) := by
    have e0 : (((w.alloc (.cells #[.slice none 0 0, .slice none 0 0, .slice none 0 0] 26)).alloc (.cells (madeCells #[.int .i64 0] 4) 3)).alloc (.cells #[.slice (some ⟨w.heap.size + 1 + 1 + 1, 0, none⟩) 4 4, .slice (some ⟨w.heap.size + 1, 0, none⟩) 4 4, .slice none 0 0] 26)).heap.size = w.heap.size + 1 + 1 + 1 := by simp
    have e1 : (w.alloc (.cells #[.slice none 0 0, .slice none 0 0, .slice none 0 0] 26)).heap.size = w.heap.size + 1 := by simp
    refine ⟨by have h := (Lls.OwnLs.below (own0_made (((w.alloc (.cells #[.slice none 0 0, .slice none 0 0, .slice none 0 0] 26)).alloc (.cells (madeCells #[.int .i64 0] 4) 3)).alloc (.cells #[.slice (some ⟨w.heap.size + 1 + 1 + 1, 0, none⟩) 4 4, .slice (some ⟨w.heap.size + 1, 0, none⟩) 4 4, .slice none 0 0] 26)) (w.heap.size + 1) (by simp; try omega)) ((Below.refl _ _).drew)); rw [e0] at h; exact h, by have h := (own_below (own_below (own_below (own1_made (w.alloc (.cells #[.slice none 0 0, .slice none 0 0, .slice none 0 0] 26)) (w.heap.size + 1) (by simp; try omega)) (bw_one ((w.alloc (.cells #[.slice none 0 0, .slice none 0 0, .slice none 0 0] 26)).alloc (.cells (madeCells #[.int .i64 0] 4) 3)) (.cells #[.slice (some ⟨w.heap.size + 1 + 1 + 1, 0, none⟩) 4 4, .slice (some ⟨w.heap.size + 1, 0, none⟩) 4 4, .slice none 0 0] 26))) (bw_one (((w.alloc (.cells #[.slice none 0 0, .slice none 0 0, .slice none 0 0] 26)).alloc (.cells (madeCells #[.int .i64 0] 4) 3)).alloc (.cells #[.slice (some ⟨w.heap.size + 1 + 1 + 1, 0, none⟩) 4 4, .slice (some ⟨w.heap.size + 1, 0, none⟩) 4 4, .slice none 0 0] 26)) (.cells (madeCells #[.slice none 0 0] 4) 24))) ((Below.refl _ _).drew)); rw [e1] at h; exact h, ?_, ?_, ?_, ⟨⟨?_, ?_, ?_⟩, ?_, ?_, ?_⟩, by omega, by omega, by omega, by omega, by omega, by omega, ?_, ?_⟩
    · rw [World.cell?_drew]; go_simp
    · rw [World.cell?_drew]; go_simp
    · rw [World.cell?_drew]; go_simp
    · rw [World.cell?_drew]; go_simp
    · rw [World.cell?_drew]; go_simp
    · rw [World.cell?_drew]; go_simp
    · rw [World.frozen?_drew]; go_simp
    · rw [World.frozen?_drew]; go_simp
    · rw [World.frozen?_drew]; go_simp
    · exact (((((Below.refl _ _).alloc (Nat.le_refl _) _).alloc (by simp) _).alloc (by simp; omega) _).alloc (by simp; omega) _).drew
    · simp; try omega
  have FBRI : Hid (New w ((((w.alloc (.cells #[.slice none 0 0, .slice none 0 0, .slice none 0 0] 26)).alloc (.cells #[.slice (some ⟨w.heap.size + 1 + 1, 0, none⟩) 4 4, .slice (some ⟨w.heap.size + 1 + 1 + 1, 0, none⟩) 4 4, .slice none 0 0] 26)).alloc (.cells (madeCells #[.slice none 0 0] 4) 24)).alloc (.cells (madeCells #[.int .i64 0] 4) 3)).drew (w.heap.size + 1 + 1) (w.heap.size + 1 + 1 + 1) (w.heap.size + 1)) := by
    have e0 : ((w.alloc (.cells #[.slice none 0 0, .slice none 0 0, .slice none 0 0] 26)).alloc (.cells #[.slice (some ⟨w.heap.size + 1 + 1, 0, none⟩) 4 4, .slice (some ⟨w.heap.size + 1 + 1 + 1, 0, none⟩) 4 4, .slice none 0 0] 26)).heap.size = w.heap.size + 1 + 1 := by simp
    have e1 : (((w.alloc (.cells #[.slice none 0 0, .slice none 0 0, .slice none 0 0] 26)).alloc (.cells #[.slice (some ⟨w.heap.size + 1 + 1, 0, none⟩) 4 4, .slice (some ⟨w.heap.size + 1 + 1 + 1, 0, none⟩) 4 4, .slice none 0 0] 26)).alloc (.cells (madeCells #[.slice none 0 0] 4) 24)).heap.size = w.heap.size + 1 + 1 + 1 := by simp
    refine ⟨by have h := (Lls.OwnLs.below (Lls.OwnLs.below (own0_made ((w.alloc (.cells #[.slice none 0 0, .slice none 0 0, .slice none 0 0] 26)).alloc (.cells #[.slice (some ⟨w.heap.size + 1 + 1, 0, none⟩) 4 4, .slice (some ⟨w.heap.size + 1 + 1 + 1, 0, none⟩) 4 4, .slice none 0 0] 26)) (w.heap.size + 1) (by simp; try omega)) (bw_one (((w.alloc (.cells #[.slice none 0 0, .slice none 0 0, .slice none 0 0] 26)).alloc (.cells #[.slice (some ⟨w.heap.size + 1 + 1, 0, none⟩) 4 4, .slice (some ⟨w.heap.size + 1 + 1 + 1, 0, none⟩) 4 4, .slice none 0 0] 26)).alloc (.cells (madeCells #[.slice none 0 0] 4) 24)) (.cells (madeCells #[.int .i64 0] 4) 3))) ((Below.refl _ _).drew)); rw [e0] at h; exact h, by have h := (own_below (own1_made (((w.alloc (.cells #[.slice none 0 0, .slice none 0 0, .slice none 0 0] 26)).alloc (.cells #[.slice (some ⟨w.heap.size + 1 + 1, 0, none⟩) 4 4, .slice (some ⟨w.heap.size + 1 + 1 + 1, 0, none⟩) 4 4, .slice none 0 0] 26)).alloc (.cells (madeCells #[.slice none 0 0] 4) 24)) (w.heap.size + 1) (by simp; try omega)) ((Below.refl _ _).drew)); rw [e1] at h; exact h, ?_, ?_, ?_, ⟨⟨?_, ?_, ?_⟩, ?_, ?_, ?_⟩, by omega, by omega, by omega, by omega, by omega, by omega, ?_, ?_⟩
    · rw [World.cell?_drew]; go_simp
    · rw [World.cell?_drew]; go_simp
    · rw [World.cell?_drew]; go_simp
    · rw [World.cell?_drew]; go_simp
    · rw [World.cell?_drew]; go_simp
    · rw [World.cell?_drew]; go_simp
    · rw [World.frozen?_drew]; go_simp
    · rw [World.frozen?_drew]; go_simp
    · rw [World.frozen?_drew]; go_simp
    · exact (((((Below.refl _ _).alloc (Nat.le_refl _) _).alloc (by simp) _).alloc (by simp; omega) _).alloc (by simp; omega) _).drew
    · simp; try omega
  have FBIR : Hid (New w ((((w.alloc (.cells #[.slice none 0 0, .slice none 0 0, .slice none 0 0] 26)).alloc (.cells #[.slice (some ⟨w.heap.size + 1 + 1 + 1, 0, none⟩) 4 4, .slice (some ⟨w.heap.size + 1 + 1, 0, none⟩) 4 4, .slice none 0 0] 26)).alloc (.cells (madeCells #[.int .i64 0] 4) 3)).alloc (.cells (madeCells #[.slice none 0 0] 4) 24)).drew (w.heap.size + 1 + 1 + 1) (w.heap.size + 1 + 1) (w.heap.size + 1)) := by
    have e0 : (((w.alloc (.cells #[.slice none 0 0, .slice none 0 0, .slice none 0 0] 26)).alloc (.cells #[.slice (some ⟨w.heap.size + 1 + 1 + 1, 0, none⟩) 4 4, .slice (some ⟨w.heap.size + 1 + 1, 0, none⟩) 4 4, .slice none 0 0] 26)).alloc (.cells (madeCells #[.int .i64 0] 4) 3)).heap.size = w.heap.size + 1 + 1 + 1 := by simp
    have e1 : ((w.alloc (.cells #[.slice none 0 0, .slice none 0 0, .slice none 0 0] 26)).alloc (.cells #[.slice (some ⟨w.heap.size + 1 + 1 + 1, 0, none⟩) 4 4, .slice (some ⟨w.heap.size + 1 + 1, 0, none⟩) 4 4, .slice none 0 0] 26)).heap.size = w.heap.size + 1 + 1 := by simp
    refine ⟨by have h := (Lls.OwnLs.below (own0_made (((w.alloc (.cells #[.slice none 0 0, .slice none 0 0, .slice none 0 0] 26)).alloc (.cells #[.slice (some ⟨w.heap.size + 1 + 1 + 1, 0, none⟩) 4 4, .slice (some ⟨w.heap.size + 1 + 1, 0, none⟩) 4 4, .slice none 0 0] 26)).alloc (.cells (madeCells #[.int .i64 0] 4) 3)) (w.heap.size + 1) (by simp; try omega)) ((Below.refl _ _).drew)); rw [e0] at h; exact h, by have h := (own_below (own_below (own1_made ((w.alloc (.cells #[.slice none 0 0, .slice none 0 0, .slice none 0 0] 26)).alloc (.cells #[.slice (some ⟨w.heap.size + 1 + 1 + 1, 0, none⟩) 4 4, .slice (some ⟨w.heap.size + 1 + 1, 0, none⟩) 4 4, .slice none 0 0] 26)) (w.heap.size + 1) (by simp; try omega)) (bw_one (((w.alloc (.cells #[.slice none 0 0, .slice none 0 0, .slice none 0 0] 26)).alloc (.cells #[.slice (some ⟨w.heap.size + 1 + 1 + 1, 0, none⟩) 4 4, .slice (some ⟨w.heap.size + 1 + 1, 0, none⟩) 4 4, .slice none 0 0] 26)).alloc (.cells (madeCells #[.int .i64 0] 4) 3)) (.cells (madeCells #[.slice none 0 0] 4) 24))) ((Below.refl _ _).drew)); rw [e1] at h; exact h, ?_, ?_, ?_, ⟨⟨?_, ?_, ?_⟩, ?_, ?_, ?_⟩, by omega, by omega, by omega, by omega, by omega, by omega, ?_, ?_⟩
    · rw [World.cell?_drew]; go_simp
    · rw [World.cell?_drew]; go_simp
    · rw [World.cell?_drew]; go_simp
    · rw [World.cell?_drew]; go_simp
    · rw [World.cell?_drew]; go_simp
    · rw [World.cell?_drew]; go_simp
    · rw [World.frozen?_drew]; go_simp
    · rw [World.frozen?_drew]; go_simp
    · rw [World.frozen?_drew]; go_simp
    · exact (((((Below.refl _ _).alloc (Nat.le_refl _) _).alloc (by simp) _).alloc (by simp; omega) _).alloc (by simp; omega) _).drew
    · simp; try omega
  go_enter Try.func24, Try.ntmps24
  go_wp2_with fail
  apply Lat.later3 (New w)
  · intro common
    go_region_held3 (fun _ => True) (trivial) (fail)
    · have FF := FRIB.out
      generalize hW : ((((w.alloc (.cells #[.slice none 0 0, .slice none 0 0, .slice none 0 0] 26)).alloc (.cells (madeCells #[.slice none 0 0] 4) 24)).alloc (.cells (madeCells #[.int .i64 0] 4) 3)).alloc (.cells #[.slice (some ⟨w.heap.size + 1, 0, none⟩) 4 4, .slice (some ⟨w.heap.size + 1 + 1, 0, none⟩) 4 4, .slice none 0 0] 26)).drew = WW at FF ⊢
      generalize h3 : w.heap.size + 1 + 1 + 1 = x3 at FF ⊢
      generalize h2 : w.heap.size + 1 + 1 = x2 at FF ⊢
      generalize h1 : w.heap.size + 1 = x1 at FF ⊢
      exact common.out WW x1 x2 x3 FF
    · have FF := FRBI.out
      generalize hW : ((((w.alloc (.cells #[.slice none 0 0, .slice none 0 0, .slice none 0 0] 26)).alloc (.cells (madeCells #[.slice none 0 0] 4) 24)).alloc (.cells #[.slice (some ⟨w.heap.size + 1, 0, none⟩) 4 4, .slice (some ⟨w.heap.size + 1 + 1 + 1, 0, none⟩) 4 4, .slice none 0 0] 26)).alloc (.cells (madeCells #[.int .i64 0] 4) 3)).drew = WW at FF ⊢
      generalize h3 : w.heap.size + 1 + 1 + 1 = x3 at FF ⊢
      generalize h2 : w.heap.size + 1 + 1 = x2 at FF ⊢
      generalize h1 : w.heap.size + 1 = x1 at FF ⊢
      exact common.out WW x1 x3 x2 FF
    · have FF := FIRB.out
      generalize hW : ((((w.alloc (.cells #[.slice none 0 0, .slice none 0 0, .slice none 0 0] 26)).alloc (.cells (madeCells #[.int .i64 0] 4) 3)).alloc (.cells (madeCells #[.slice none 0 0] 4) 24)).alloc (.cells #[.slice (some ⟨w.heap.size + 1 + 1, 0, none⟩) 4 4, .slice (some ⟨w.heap.size + 1, 0, none⟩) 4 4, .slice none 0 0] 26)).drew = WW at FF ⊢
      generalize h3 : w.heap.size + 1 + 1 + 1 = x3 at FF ⊢
      generalize h2 : w.heap.size + 1 + 1 = x2 at FF ⊢
      generalize h1 : w.heap.size + 1 = x1 at FF ⊢
      exact common.out WW x2 x1 x3 FF
    · have FF := FIBR.out
      generalize hW : ((((w.alloc (.cells #[.slice none 0 0, .slice none 0 0, .slice none 0 0] 26)).alloc (.cells (madeCells #[.int .i64 0] 4) 3)).alloc (.cells #[.slice (some ⟨w.heap.size + 1 + 1 + 1, 0, none⟩) 4 4, .slice (some ⟨w.heap.size + 1, 0, none⟩) 4 4, .slice none 0 0] 26)).alloc (.cells (madeCells #[.slice none 0 0] 4) 24)).drew = WW at FF ⊢
      generalize h3 : w.heap.size + 1 + 1 + 1 = x3 at FF ⊢
      generalize h2 : w.heap.size + 1 + 1 = x2 at FF ⊢
      generalize h1 : w.heap.size + 1 = x1 at FF ⊢
      exact common.out WW x3 x1 x2 FF
    · have FF := FBRI.out
      generalize hW : ((((w.alloc (.cells #[.slice none 0 0, .slice none 0 0, .slice none 0 0] 26)).alloc (.cells #[.slice (some ⟨w.heap.size + 1 + 1, 0, none⟩) 4 4, .slice (some ⟨w.heap.size + 1 + 1 + 1, 0, none⟩) 4 4, .slice none 0 0] 26)).alloc (.cells (madeCells #[.slice none 0 0] 4) 24)).alloc (.cells (madeCells #[.int .i64 0] 4) 3)).drew = WW at FF ⊢
      generalize h3 : w.heap.size + 1 + 1 + 1 = x3 at FF ⊢
      generalize h2 : w.heap.size + 1 + 1 = x2 at FF ⊢
      generalize h1 : w.heap.size + 1 = x1 at FF ⊢
      exact common.out WW x2 x3 x1 FF
    · have FF := FBIR.out
      generalize hW : ((((w.alloc (.cells #[.slice none 0 0, .slice none 0 0, .slice none 0 0] 26)).alloc (.cells #[.slice (some ⟨w.heap.size + 1 + 1 + 1, 0, none⟩) 4 4, .slice (some ⟨w.heap.size + 1 + 1, 0, none⟩) 4 4, .slice none 0 0] 26)).alloc (.cells (madeCells #[.int .i64 0] 4) 3)).alloc (.cells (madeCells #[.slice none 0 0] 4) 24)).drew = WW at FF ⊢
      generalize h3 : w.heap.size + 1 + 1 + 1 = x3 at FF ⊢
      generalize h2 : w.heap.size + 1 + 1 = x2 at FF ⊢
      generalize h1 : w.heap.size + 1 = x1 at FF ⊢
      exact common.out WW x3 x2 x1 FF
  intro W g0 g1 gb hN
  have HN : Hid (New w W g0 g1 gb) := hN
  have hb1 := hN.box1
  clear hN
  go_wp2_with fail
  clear hb1
  go_loopw [9] (fun i wr => ∃ k : Nat, k ≤ 4 ∧ i = .int .i64 k ∧ wr.ownsRow (w.heap.size + 1) 3 1 (.slice (some ⟨g1, 0, none⟩) 4 4) 4 (ints .i64 (([-1, -1, -1, -1] : List Int).take k) ++ List.replicate (4 - k) (Value.int .i64 0)) ∧ Keeps g1 (g1 + 1) W wr) (fun i _ => 4 - (intOf i).toNat)
  case atStart => exact ⟨0, by omega, rfl, HN.out.own1, ⟨rfl, rfl, rfl, Nat.le_refl _, fun _ _ _ => rfl⟩⟩
  case round =>
    obtain ⟨k, hk, rfl, ho, hkp⟩ := hrel
    have HO : Hid (wr.ownsRow (w.heap.size + 1) 3 1 (.slice (some ⟨g1, 0, none⟩) 4 4) 4 (ints .i64 (([-1, -1, -1, -1] : List Int).take k) ++ List.replicate (4 - k) (Value.int .i64 0))) := ho
    have HK : Hid (Keeps g1 (g1 + 1) W wr) := hkp
    have n1b := HN.out.ne1b
    have n0b := HN.out.ne0b
    have q1 : wr.cell? ⟨gb, 1, none⟩ = some (.slice (some ⟨g1, 0, none⟩) 4 4) := Keeps.cell hkp HN.out.box1 (by omega)
    by_cases hlt : k < 4
    · have hset := Ints.set_part ([-1, -1, -1, -1] : List Int) 4 k hlt rfl
      rw [show ([-1, -1, -1, -1] : List Int).getD k 0 = -1 from (by match k, hlt with | 0, _ => rfl | 1, _ => rfl | 2, _ => rfl | 3, _ => rfl)] at hset
      have hst := (ho.stored k (.int .i64 (-1))).1
      rw [hset] at hst
      have Hst : Hid _ := hst
      have hfz := ho.frozenAt k
      obtain ⟨old, hold⟩ : ∃ old, wr.cell? ⟨g1, k, none⟩ = some old := by
        have hl : (ints .i64 (([-1, -1, -1, -1] : List Int).take k) ++ List.replicate (4 - k) (Value.int .i64 0)).length = 4 := by
          rw [List.length_append, ints_length, List.length_take, List.length_replicate]; simp; omega
        rw [ho.cellAt k (by omega)]
        exact ⟨_, List.getElem?_eq_getElem (by omega)⟩
      have hkI : (k : Int) < 4 := by omega
      have K2 : Hid (Keeps g1 (g1 + 1) W (wr.setCell ⟨g1, k, none⟩ (.int .i64 (-1)))) := Krl.keeps_trans hkp (Krl.keeps_set (lo := g1) (hi := g1 + 1) wr k _ (by omega))
      clear hst ho hset hkp
      go_wp2
      go_roundw
      case rel => exact ⟨k + 1, by omega, by go_num, Hst.out, K2.out⟩
      case measure => simp [intOf]; omega
    · obtain rfl : k = 4 := by omega
      have O1 : Hid (wr.ownsRow (w.heap.size + 1) 3 1 (.slice (some ⟨g1, 0, none⟩) 4 4) 4 (ints .i64 [-1, -1, -1, -1])) := by
        show World.ownsRow _ _ _ _ _ _ _
        have := HO.out
        simpa using this
      have h01 := HN.out.ne01
      have O0 : Hid (Lls.OwnLs wr (w.heap.size + 1) (some ⟨g0, 0, none⟩) 4 4 r4) := ⟨own_keeps (lo := g0) (hi := g0 + 1) HN.out.own0.outer (fun x hx => by cases hx; exact ⟨Nat.le_refl _, Nat.lt_succ_self _⟩) hkp (by omega), fun r hr => by rw [show r = Lls.ld from (List.mem_replicate.1 hr).2]; exact World.ownsRow_nil _ _ _ _, HN.out.own0.wf, HN.out.own0.apart, HN.out.own0.apart0⟩
      have q0 : wr.cell? ⟨gb, 0, none⟩ = some (.slice (some ⟨g0, 0, none⟩) 4 4) := Keeps.cell hkp HN.out.box0 (by omega)
      have q2 : wr.cell? ⟨gb, 2, none⟩ = some (.slice none 0 0) := Keeps.cell hkp HN.out.box2 (by omega)
      have l0 := HN.out.lo0
      have l1 := HN.out.lo1
      have lb := HN.out.lob
      obtain ⟨⟨r0, r1, r2⟩, f0, f1, f2⟩ := HN.out.res
      have s0 : wr.cell? ⟨w.heap.size, 0, none⟩ = some (.slice none 0 0) := Keeps.cell hkp r0 (by omega)
      have s1 : wr.cell? ⟨w.heap.size, 1, none⟩ = some (.slice none 0 0) := Keeps.cell hkp r1 (by omega)
      have s2 : wr.cell? ⟨w.heap.size, 2, none⟩ = some (.slice none 0 0) := Keeps.cell hkp r2 (by omega)
      have fz : ∀ o, wr.frozen? ⟨w.heap.size, o, none⟩ = W.frozen? ⟨w.heap.size, o, none⟩ := fun o => by
        unfold World.frozen?
        rw [hkp.block w.heap.size (Frame.cell_lt r0) (by omega)]
      have t0 : wr.frozen? ⟨w.heap.size, 0, none⟩ = false := (fz 0).trans f0
      have t1 : wr.frozen? ⟨w.heap.size, 1, none⟩ = false := (fz 1).trans f1
      have t2 : wr.frozen? ⟨w.heap.size, 2, none⟩ = false := (fz 2).trans f2
      have BW : Hid (Below w.heap.size w wr) := Keeps.below HN.out.below hkp (by omega) HN.out.below.size
      have HS : Hid (w.heap.size + 1 ≤ wr.heap.size) := Nat.le_trans HN.out.size hkp.size
      have G0 : Hid (∀ x, (some ⟨g0, 0, none⟩ : Option Addr) = some x → x.block < wr.heap.size) := fun x hx => (own_block O0.out.outer x hx).2
      have G1 : Hid (∀ x, (some ⟨g1, 0, none⟩ : Option Addr) = some x → x.block < wr.heap.size) := fun x hx => (own_block O1.out x hx).2
      have OWN : Hid (SOwn wr (w.heap.size + 1) wr.heap.size (.slice (some ⟨g0, 0, none⟩) 4 4) (.slice (some ⟨g1, 0, none⟩) 4 4) (.slice none 0 0) newD) := by
        refine ⟨fun b => b = g0, fun b => b = g1, fun _ => False, ⟨fun b e1 e2 => h01 (e1.symm.trans e2), fun _ _ h => h, fun _ _ h => h⟩, ⟨r4, ⟨_, _, _, rfl, O0.out, by decide, fun x hx => by have := G0.out x hx; cases hx; exact ⟨l0, this⟩, fun r hr x hx => by rw [show r = Lls.ld from (List.mem_replicate.1 hr).2] at hx; cases hx⟩, rfl, fun x hx => by cases hx; rfl, fun r hr x hx => by rw [show r = Lls.ld from (List.mem_replicate.1 hr).2] at hx; cases hx⟩, ⟨⟨_, _, _, rfl, O1.out, by decide, by omega, fun x hx => by have := G1.out x hx; cases hx; exact ⟨l1, this⟩⟩, fun x hx => by cases hx; rfl⟩, ⟨⟨_, _, _, rfl, World.ownsRow_nil _ _ _ _, by simp [newD], by omega, fun x hx => by cases hx⟩, fun x hx => by cases hx⟩⟩
      have nb : gb ≠ w.heap.size := by omega
      clear ho hkp r0 r1 r2 f0 f1 f2 fz q1
      have q1 : wr.cell? ⟨gb, 1, none⟩ = some (.slice (some ⟨g1, 0, none⟩) 4 4) := Keeps.cell HK.out HN.out.box1 (by omega)
      go_wp2
      refine bodyPost_ret (v := .agg #[.slice (some ⟨g0, 0, none⟩) 4 4, .slice (some ⟨g1, 0, none⟩) 4 4, .slice none 0 0]) (by simp [results, Try.results24, go_sem, s0, s1, s2]) rfl ?_
      exact ⟨_, _, _, _, _, _, _, _, _, rfl, SLocks.sOwn_wide (SLocks.sOwn_set (SLocks.sOwn_set (SLocks.sOwn_set OWN.out _ _ (by omega)) _ _ (by omega)) _ _ (by omega)) (by omega) (by simp), ((BW.out.setCell (Nat.le_refl _) _).setCell (Nat.le_refl _) _).setCell (Nat.le_refl _) _⟩

set_option maxRecDepth 8000 in
set_option maxHeartbeats 3200000 in
theorem spec_NewLocks (w : World) :
    Calls Try.prog 23 #[] w fun e w' => ∃ a0 n0 c0 a1 n1 c1 a2 n2 c2, e = .returned (.agg #[.slice a0 n0 c0, .slice a1 n1 c1, .slice a2 n2 c2]) ∧ SOwn w' w.heap.size w'.heap.size (.slice a0 n0 c0) (.slice a1 n1 c1) (.slice a2 n2 c2) newD ∧ Below w.heap.size w w' := by
  have hmk0 : ∀ w : World, (Instr.makeSlice 23 (.int .i64 4) (.int .i64 4)).run Try.prog w = .ok (.slice (some ⟨w.heap.size, 0, none⟩) 4 4) (w.alloc (.cells (madeCells #[.slice none 0 0] 4) 24)) := fun w => run_make_row' 23 24 (.slice none 0 0) 24 Try.underlying23 Lls.infoL rfl .i64 .i64 4 (by omega) (by omega) w
  have O0 : Hid (Lls.OwnLs (((w.alloc (.cells #[.slice (some ⟨w.heap.size + 1, 0, none⟩) 4 4, .slice (some ⟨w.heap.size + 1 + 1, 0, none⟩) 4 4, .slice none 0 0] 26)).alloc (.cells (madeCells #[.slice none 0 0] 4) 24)).alloc (.cells #[.int .i64 (-1), .int .i64 (-1), .int .i64 (-1), .int .i64 (-1)] 3)) (w.heap.size + 1) (some ⟨w.heap.size + 1, 0, none⟩) 4 4 r4) := by
    have e0 : (w.alloc (.cells #[.slice (some ⟨w.heap.size + 1, 0, none⟩) 4 4, .slice (some ⟨w.heap.size + 1 + 1, 0, none⟩) 4 4, .slice none 0 0] 26)).heap.size = w.heap.size + 1 := by simp
    have h := Lls.OwnLs.below (own0_made (w.alloc (.cells #[.slice (some ⟨w.heap.size + 1, 0, none⟩) 4 4, .slice (some ⟨w.heap.size + 1 + 1, 0, none⟩) 4 4, .slice none 0 0] 26)) (w.heap.size + 1) (by simp)) (bw_one _ (.cells #[.int .i64 (-1), .int .i64 (-1), .int .i64 (-1), .int .i64 (-1)] 3))
    rw [e0] at h
    exact h
  have O1 : Hid ((((w.alloc (.cells #[.slice (some ⟨w.heap.size + 1, 0, none⟩) 4 4, .slice (some ⟨w.heap.size + 1 + 1, 0, none⟩) 4 4, .slice none 0 0] 26)).alloc (.cells (madeCells #[.slice none 0 0] 4) 24)).alloc (.cells #[.int .i64 (-1), .int .i64 (-1), .int .i64 (-1), .int .i64 (-1)] 3)).ownsRow (w.heap.size + 1) 3 1 (.slice (some ⟨w.heap.size + 1 + 1, 0, none⟩) 4 4) 4 (ints .i64 [-1, -1, -1, -1])) := by
    have e1 : ((w.alloc (.cells #[.slice (some ⟨w.heap.size + 1, 0, none⟩) 4 4, .slice (some ⟨w.heap.size + 1 + 1, 0, none⟩) 4 4, .slice none 0 0] 26)).alloc (.cells (madeCells #[.slice none 0 0] 4) 24)).heap.size = w.heap.size + 1 + 1 := by simp
    refine ⟨rfl, .inr ⟨w.heap.size + 1 + 1, 4, #[.int .i64 (-1), .int .i64 (-1), .int .i64 (-1), .int .i64 (-1)], rfl, by omega, ?_, Nat.le_refl _, by unfold maxLen; omega, rfl, rfl⟩⟩
    have h := heap_alloc_new ((w.alloc (.cells #[.slice (some ⟨w.heap.size + 1, 0, none⟩) 4 4, .slice (some ⟨w.heap.size + 1 + 1, 0, none⟩) 4 4, .slice none 0 0] 26)).alloc (.cells (madeCells #[.slice none 0 0] 4) 24)) (.cells #[.int .i64 (-1), .int .i64 (-1), .int .i64 (-1), .int .i64 (-1)] 3)
    rw [e1] at h
    exact h
  have OWN : Hid (SOwn (((w.alloc (.cells #[.slice (some ⟨w.heap.size + 1, 0, none⟩) 4 4, .slice (some ⟨w.heap.size + 1 + 1, 0, none⟩) 4 4, .slice none 0 0] 26)).alloc (.cells (madeCells #[.slice none 0 0] 4) 24)).alloc (.cells #[.int .i64 (-1), .int .i64 (-1), .int .i64 (-1), .int .i64 (-1)] 3)) (w.heap.size + 1) (w.heap.size + 3) (.slice (some ⟨w.heap.size + 1, 0, none⟩) 4 4) (.slice (some ⟨w.heap.size + 1 + 1, 0, none⟩) 4 4) (.slice none 0 0) newD) := by
    refine ⟨fun b => b = w.heap.size + 1, fun b => b = w.heap.size + 1 + 1, fun _ => False, ⟨fun b e1 e2 => by omega, fun _ _ h => h, fun _ _ h => h⟩, ⟨r4, ⟨_, _, _, rfl, O0.out, by decide, fun x hx => by cases hx; exact ⟨by show w.heap.size + 1 ≤ w.heap.size + 1; omega, by show w.heap.size + 1 < _; omega⟩, fun r hr x hx => by rw [show r = Lls.ld from (List.mem_replicate.1 hr).2] at hx; cases hx⟩, rfl, fun x hx => by cases hx; rfl, fun r hr x hx => by rw [show r = Lls.ld from (List.mem_replicate.1 hr).2] at hx; cases hx⟩, ⟨⟨_, _, _, rfl, O1.out, by decide, by omega, fun x hx => by cases hx; exact ⟨by show w.heap.size + 1 ≤ w.heap.size + 1 + 1; omega, by show w.heap.size + 1 + 1 < _; omega⟩⟩, fun x hx => by cases hx; rfl⟩, ⟨⟨_, _, _, rfl, World.ownsRow_nil _ _ _ _, by simp [newD], by omega, fun x hx => by cases hx⟩, fun x hx => by cases hx⟩⟩
  have BW : Hid (Below w.heap.size w (((w.alloc (.cells #[.slice (some ⟨w.heap.size + 1, 0, none⟩) 4 4, .slice (some ⟨w.heap.size + 1 + 1, 0, none⟩) 4 4, .slice none 0 0] 26)).alloc (.cells (madeCells #[.slice none 0 0] 4) 24)).alloc (.cells #[.int .i64 (-1), .int .i64 (-1), .int .i64 (-1), .int .i64 (-1)] 3))) := ((((Below.refl _ _).alloc (Nat.le_refl _) _).alloc (by simp) _).alloc (by simp; omega) _)
  clear O0 O1
  go_enter Try.func23, Try.ntmps23
  go_wp2
  refine bodyPost_ret (v := .agg #[.slice (some ⟨w.heap.size + 1, 0, none⟩) 4 4, .slice (some ⟨w.heap.size + 1 + 1, 0, none⟩) 4 4, .slice none 0 0]) (by simp [results, Try.results23, go_sem]) rfl ?_
  exact ⟨_, _, _, _, _, _, _, _, _, rfl, SLocks.sOwn_wide OWN.out (by omega) (by simp), BW.out⟩


end Go.Proofs.Ytlcfdfcfmmhdgaa.Lkf
