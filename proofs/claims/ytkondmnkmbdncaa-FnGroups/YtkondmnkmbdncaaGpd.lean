/-
  What a walk reaches that goes on only from where it has not been (no program).
-/
import Derived.Test.YtkondmnkmbdncaaGpu
namespace Go.Proofs.Ytkondmnkmbdncaa.Gpd
open Go.Proofs.Ytkondmnkmbdncaa.Rel Go.Proofs.Ytkondmnkmbdncaa.Gpu

abbrev Rs := Nat → Bool
def upd (R : Rs) (k : Nat) : Rs := fun i => if i = k then true else R i
theorem upd_same (R : Rs) (k : Nat) : upd R k k = true := by simp [upd]
theorem upd_other (R : Rs) {k i : Nat} (h : i ≠ k) : upd R k i = R i := by simp [upd, h]
theorem upd_of {R : Rs} {k i : Nat} (h : R i = true) : upd R k i = true := by unfold upd; split <;> simp_all

structure Dfs (xs : Ll) (R : Rs) (x : Nat) (R' : Rs) : Prop where
  mono : ∀ y, R y = true → R' y = true
  here : R' x = true
  since : ∀ y, R' y = true → R y = false → Rch xs (x : Int) (y : Int)
  closed : ∀ y, R' y = true → R y = false → ∀ z ∈ gRow xs (y : Int), R' z.toNat = true
structure Mid (xs : Ll) (R : Rs) (x : Nat) (j : Nat) (S : Rs) : Prop where
  mono : ∀ y, upd R x y = true → S y = true
  since : ∀ y, S y = true → R y = false → Rch xs (x : Int) (y : Int)
  closed : ∀ y, S y = true → R y = false → y ≠ x → ∀ z ∈ gRow xs (y : Int), S z.toNat = true
  done : ∀ i, i < j → S ((gRow xs (x : Int)).getD i 0).toNat = true

theorem dfs_already {xs : Ll} {R : Rs} {x : Nat} (h : R x = true) : Dfs xs R x R :=
  ⟨fun _ h => h, h, fun y h1 h2 => (by rw [h1] at h2; cases h2), fun y h1 h2 => (by rw [h1] at h2; cases h2)⟩
theorem mid_start {xs : Ll} {R : Rs} {x : Nat} : Mid xs R x 0 (upd R x) := by
  refine ⟨fun _ h => h, fun y h1 h2 => ?_, fun y h1 h2 h3 => ?_, fun i hi => absurd hi (by omega)⟩
  · by_cases e : y = x
    · subst e; exact .refl
    · rw [upd_other R e, h2] at h1; cases h1
  · rw [upd_other R h3, h2] at h1; cases h1
theorem mid_step {xs : Ll} {R S S' : Rs} {x j : Nat} (h : Mid xs R x j S) (hj : j < (gRow xs (x : Int)).length) (h0 : 0 ≤ (gRow xs (x : Int)).getD j 0) (d : Dfs xs S ((gRow xs (x : Int)).getD j 0).toNat S') : Mid xs R x (j + 1) S' := by
  have he : (gRow xs (x : Int)).getD j 0 ∈ gRow xs (x : Int) := Mem.getD_mem hj
  have hc : (((gRow xs (x : Int)).getD j 0).toNat : Int) = (gRow xs (x : Int)).getD j 0 := by omega
  refine ⟨fun y hy => d.mono y (h.mono y hy), fun y h1 h2 => ?_, fun y h1 h2 h3 z hz => ?_, fun i hi => ?_⟩
  · cases hs : S y
    · have := d.since y h1 hs
      rw [hc] at this
      exact (Rch.one he).trans this
    · exact h.since y hs h2
  · cases hs : S y
    · exact d.closed y h1 hs z hz
    · exact d.mono _ (h.closed y hs h2 h3 z hz)
  · by_cases e : i = j
    · subst e; exact d.here
    · exact d.mono _ (h.done i (by omega))
theorem mid_end {xs : Ll} {R S : Rs} {x : Nat} (h : Mid xs R x (gRow xs (x : Int)).length S) : Dfs xs R x S := by
  refine ⟨fun y hy => h.mono y (upd_of hy), h.mono x (upd_same R x), h.since, fun y h1 h2 z hz => ?_⟩
  by_cases e : y = x
  · subst e
    obtain ⟨i, hi, rfl⟩ := List.getElem_of_mem hz
    have := h.done i hi
    rwa [show (gRow xs (y : Int)).getD i 0 = (gRow xs (y : Int))[i] by simp [List.getD, hi]] at this
  · exact h.closed y h1 h2 e z hz

def bn (b : Bool) : Nat := if b then 0 else 1
def cnt (R : Rs) : Nat := bn (R 0) + bn (R 1) + bn (R 2) + bn (R 3) + bn (R 4) + bn (R 5) + bn (R 6) + bn (R 7) + bn (R 8) + bn (R 9) + bn (R 10) + bn (R 11)
theorem bn_le {a b : Bool} (h : a = true → b = true) : bn b ≤ bn a := by cases a <;> cases b <;> simp_all [bn]
theorem cnt_mono {R S : Rs} (h : ∀ y, R y = true → S y = true) : cnt S ≤ cnt R := by
  have g := fun i => bn_le (h i)
  have := g 0; have := g 1; have := g 2; have := g 3; have := g 4; have := g 5; have := g 6; have := g 7; have := g 8; have := g 9; have := g 10; have := g 11
  unfold cnt
  omega
theorem cnt_upd {R : Rs} {x : Nat} (hx : x < 12) (h : R x = false) : cnt (upd R x) < cnt R := by
  have h1 : bn (R x) = 1 := by rw [h]; rfl
  have h0 : bn (upd R x x) = 0 := by rw [upd_same]; rfl
  have g : ∀ i, i ≠ x → bn (upd R x i) = bn (R i) := fun i hi => by rw [upd_other R hi]
  unfold cnt
  have hc : x = 0 ∨ x = 1 ∨ x = 2 ∨ x = 3 ∨ x = 4 ∨ x = 5 ∨ x = 6 ∨ x = 7 ∨ x = 8 ∨ x = 9 ∨ x = 10 ∨ x = 11 := by omega
  rcases hc with rfl | rfl | rfl | rfl | rfl | rfl | rfl | rfl | rfl | rfl | rfl | rfl <;> simp (config := { decide := true }) only [g, h1, h0, ne_eq] <;> omega
theorem cnt_le (R : Rs) : cnt R ≤ 12 := by
  have g : ∀ b, bn b ≤ 1 := fun b => by cases b <;> simp [bn]
  have := g (R 0); have := g (R 1); have := g (R 2); have := g (R 3); have := g (R 4); have := g (R 5); have := g (R 6); have := g (R 7); have := g (R 8); have := g (R 9); have := g (R 10); have := g (R 11)
  unfold cnt
  omega

theorem dfs_is {xs : Ll} (hg : GoodP xs) {x : Nat} {R : Rs} (h : Dfs xs (fun _ => false) x R) {z : Int} (hz : z ∈ numN xs.length) : R z.toNat = rB xs (x : Int) z := by
  have hz' := mem_numN.1 hz
  rw [Bool.eq_iff_iff, rB_iff]
  constructor
  · intro hr
    have := h.since z.toNat hr rfl
    rwa [show (z.toNat : Int) = z by omega] at this
  · intro hr
    have := hr.closed (S := fun y => 0 ≤ y ∧ R y.toNat = true) ⟨by omega, by rw [show ((x : Int)).toNat = x by omega]; exact h.here⟩ (fun y hy u hu => ⟨(row_in hg hu).1, h.closed y.toNat hy.2 rfl u (by rwa [show (y.toNat : Int) = y by omega])⟩)
    exact this.2
theorem dfs_told {xs : Ll} (hg : GoodP xs) {x : Nat} {R : Rs} (h : Dfs xs (fun _ => false) x R) : (numN xs.length).filter (fun z => R z.toNat) = reachN xs (x : Int) :=
  List.filter_congr (fun _ hz => dfs_is hg h hz)


end Go.Proofs.Ytkondmnkmbdncaa.Gpd
