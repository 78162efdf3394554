/-
  What chapter 1's drawn arguments may be: some numbers, some values, some lists; which ones nothing asks.
-/
import Derived.Test.YtekheacbmbbpmaaCur
import Derived.Test.YtekheacbmbbpmaaInts
namespace Go.Proofs.Ytekheacbmbbpmaa.Draw1
open Go.RowKit
open Go.Proofs.Ytekheacbmbbpmaa.Frame Go.Proofs.Ytekheacbmbbpmaa.Mem Go.Proofs.Ytekheacbmbbpmaa.Cur

/-- A list that has just been laid. -/
theorem isRow_lit (w : World) (t : TypeId) (zs : List Int) (h : zs.length ≤ 1000) (hw : ∀ z ∈ zs, (Lit.int .i64 z).wf = true) :
    IsRow .i64 (w.alloc (.cells (ints .i64 zs).toArray t)) (some ⟨w.heap.size, 0, none⟩) zs.length zs.length zs := by
  refine ⟨rfl, Nat.le_refl _, by unfold maxLen; omega, hw, fun _ => ⟨w.heap.size, 0, rfl, by simp, fun i hi => ?_⟩⟩
  rw [Nat.zero_add, World.cell?_alloc_at _ _ _ _ rfl]
  simpa using ints_get .i64 zs i hi

theorem lit_wf {zs : List Int} (h : (zs.all fun z => decide (-2000 ≤ z ∧ z ≤ 2000)) = true) : ∀ z ∈ zs, (Lit.int .i64 z).wf = true := by
  intro z hz
  have := List.all_eq_true.1 h z hz
  simp only [decide_eq_true_eq] at this
  exact int_wf z (by omega) (by omega)

theorem below_alloc (w : World) (o : Obj) : Below w.heap.size w (w.alloc o) := (Below.refl _ _).alloc (Nat.le_refl _) o

/-- A reader that has just been made over what came in. -/
theorem is_new {w : World} {a : Option Addr} {n cap : Nat} {zs : List Int} (h : IsRow .u8 w a n cap zs) (tt : TypeId) : Is w.heap.size 0 (w.alloc (.cells #[.slice a n cap, .int .i64 0, .int .u64 0] tt)) := by
  refine ⟨a, n, cap, zs, 0, 0, IsRow.below h (below_alloc _ _), fun x hx h0 => ?_, by simp, by simp, by simp, by omega, by omega, by decide, ?_, ?_⟩
  · obtain ⟨c, off, rfl, hlt, _⟩ := h.cells h0
    cases hx
    exact hlt
  · exact World.frozen?_alloc_at _ _ _ _ rfl
  · exact World.frozen?_alloc_at _ _ _ _ rfl

theorem left_below {w w' : World} {o : Obj} {t : Int} (h : Moved w.heap.size t (w.alloc o) w') : Below w.heap.size w w' :=
  below_touch (below_alloc w o) h.2 (fun x hx => by cases hx; exact Nat.le_refl _) (by simp)

/-- A reader stays where its own block and all below it stay. -/
theorem is_blocks {b : Nat} {t : Int} {w w' : World} (h : Is b t w) (hk : ∀ k, k ≤ b → w'.heap[k]? = w.heap[k]?) (hs : w.heap.size ≤ w'.heap.size) : Is b t w' := by
  obtain ⟨a, len, cap, zs, at_, seed, hr, hne, c0, c1, c2, ha0, hat, hsd, f1, f2⟩ := h
  have hb := hk b (Nat.le_refl _)
  refine ⟨a, len, cap, zs, at_, seed, ⟨hr.len, hr.fits, hr.max, hr.wf, fun h0 => ?_⟩, hne, ?_, ?_, ?_, ha0, hat, hsd, ?_, ?_⟩
  · obtain ⟨bb, off, ha, hlt, hc⟩ := hr.cells h0
    refine ⟨bb, off, ha, Nat.lt_of_lt_of_le hlt hs, fun i hi => ?_⟩
    rw [World.cell?_of_block (w := w) (hk bb (Nat.le_of_lt (hne _ ha h0)))]
    exact hc i hi
  · rw [World.cell?_of_block (w := w) hb]; exact c0
  · rw [World.cell?_of_block (w := w) hb]; exact c1
  · rw [World.cell?_of_block (w := w) hb]; exact c2
  · rw [World.frozen?_of_block (w := w) hb]; exact f1
  · rw [World.frozen?_of_block (w := w) hb]; exact f2

theorem own_left {w w' : World} {b : Nat} {t : Int} {base : Nat} {e : TypeId} {size : Nat} {a : Option Addr} {n cap : Nat} {xs : List Value} (h : w.ownsRow base e size (.slice a n cap) n xs) (hb : b < base) (m : Moved b t w w') : w'.ownsRow base e size (.slice a n cap) n xs :=
  own_touch h m.2 (fun x y hx hy => by cases hy; have := (own_block h x hx).1; show x.block ≠ b; omega)


end Go.Proofs.Ytekheacbmbbpmaa.Draw1
