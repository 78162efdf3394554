/-
  Contracts of the program's isSame, haveSameNames and SameTuples.
-/
import Derived.Test.YtekheacbmbbpmaaOb
namespace Go.Proofs.Ytekheacbmbbpmaa.Oh
open Go.RowKit
open Go.Proofs.Ytekheacbmbbpmaa.Frame Go.Proofs.Ytekheacbmbbpmaa.Mem Go.Proofs.Ytekheacbmbbpmaa.Ints Go.Proofs.Ytekheacbmbbpmaa.Kep Go.Proofs.Ytekheacbmbbpmaa.Lls Go.Proofs.Ytekheacbmbbpmaa.Rpu Go.Proofs.Ytekheacbmbbpmaa.Krl Go.Proofs.Ytekheacbmbbpmaa.Oa Go.Proofs.Ytekheacbmbbpmaa.Ob Go.Proofs.Ytekheacbmbbpmaa.Rel

def CmpTo (p : Prop) (w : World) (e : Ending) (w' : World) : Prop := ∃ c : Int, e = .returned (.int .i64 c) ∧ (c = 0 ↔ p) ∧ w' = w
theorem ne_long {xs ys : List LV} {n m : Nat} (hx : xs.length = n) (hy : ys.length = m) (h : n ≠ m) : lplain xs ≠ lplain ys := fun e => h (by rw [← hx, ← hy, ← Oa.lplain_length xs, ← Oa.lplain_length ys, e])

/-- Two relations in boxes: what is read of them later. -/
theorem start_two {w w1 : World} {ua ta va sa : Option Addr} {un uc tn tc vn vc sn sc : Nat} (hb : Below ((w.alloc (.cells #[.slice ua un uc, .slice ta tn tc] 42)).alloc (.cells #[.slice va vn vc, .slice sa sn sc] 42)).heap.size ((w.alloc (.cells #[.slice ua un uc, .slice ta tn tc] 42)).alloc (.cells #[.slice va vn vc, .slice sa sn sc] 42)) w1) :
    (w1.cell? ⟨w.heap.size, 0, none⟩ = some (.slice ua un uc) ∧ w1.cell? ⟨w.heap.size, 1, none⟩ = some (.slice ta tn tc) ∧ w1.cell? ⟨w.heap.size + 1, 0, none⟩ = some (.slice va vn vc) ∧ w1.cell? ⟨w.heap.size + 1, 1, none⟩ = some (.slice sa sn sc)) ∧ Below w.heap.size w w1 := by
  have hs2 : ((w.alloc (.cells #[.slice ua un uc, .slice ta tn tc] 42)).alloc (.cells #[.slice va vn vc, .slice sa sn sc] 42)).heap.size = w.heap.size + 2 := by simp
  have B2 : Below w.heap.size w ((w.alloc (.cells #[.slice ua un uc, .slice ta tn tc] 42)).alloc (.cells #[.slice va vn vc, .slice sa sn sc] 42)) := ((Below.refl _ _).alloc (Nat.le_refl _) _).alloc (by simp) _
  have bc := Frame.bcell hb
  rw [hs2] at bc
  refine ⟨⟨?_, ?_, ?_, ?_⟩, Frame.next B2 hb B2.size⟩
  · rw [bc.1 _ _ (by omega)]; go_simp
  · rw [bc.1 _ _ (by omega)]; go_simp
  · rw [bc.1 _ _ (by omega)]; go_simp
  · rw [bc.1 _ _ (by omega)]; go_simp
theorem two_kept {w w1 w2 : World} {x0 x1 y0 y1 : Value} (h : w1.cell? ⟨w.heap.size, 0, none⟩ = some x0 ∧ w1.cell? ⟨w.heap.size, 1, none⟩ = some x1 ∧ w1.cell? ⟨w.heap.size + 1, 0, none⟩ = some y0 ∧ w1.cell? ⟨w.heap.size + 1, 1, none⟩ = some y1) (hb : Below w1.heap.size w1 w2) : w2.cell? ⟨w.heap.size, 0, none⟩ = some x0 ∧ w2.cell? ⟨w.heap.size, 1, none⟩ = some x1 ∧ w2.cell? ⟨w.heap.size + 1, 0, none⟩ = some y0 ∧ w2.cell? ⟨w.heap.size + 1, 1, none⟩ = some y1 :=
  ⟨Frame.held_cell hb h.1, Frame.held_cell hb h.2.1, Frame.held_cell hb h.2.2.1, Frame.held_cell hb h.2.2.2⟩


end Go.Proofs.Ytekheacbmbbpmaa.Oh
