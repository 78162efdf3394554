/-
  Contract of the program's WithoutOf.
-/
import Derived.Test.YtekheacbmbbpmaaOi
import Derived.Test.YtekheacbmbbpmaaOg
namespace Go.Proofs.Ytekheacbmbbpmaa.Oj
open Go.RowKit
open Go.Proofs.Ytekheacbmbbpmaa.Frame Go.Proofs.Ytekheacbmbbpmaa.Mem Go.Proofs.Ytekheacbmbbpmaa.Ints Go.Proofs.Ytekheacbmbbpmaa.Kep Go.Proofs.Ytekheacbmbbpmaa.Lls Go.Proofs.Ytekheacbmbbpmaa.Rpu Go.Proofs.Ytekheacbmbbpmaa.Krl Go.Proofs.Ytekheacbmbbpmaa.Oa Go.Proofs.Ytekheacbmbbpmaa.Ob Go.Proofs.Ytekheacbmbbpmaa.Oe Go.Proofs.Ytekheacbmbbpmaa.Og Go.Proofs.Ytekheacbmbbpmaa.Oh Go.Proofs.Ytekheacbmbbpmaa.Oi Go.Proofs.Ytekheacbmbbpmaa.Mis Go.Proofs.Ytekheacbmbbpmaa.Told Go.Proofs.Ytekheacbmbbpmaa.Rel

def outOf (qs rs : List LV) : List LV := rs.filter fun r => !decide (r.zs ∈ lplain qs)
theorem out_in {qs rs : List LV} {k : Nat} (h : k < rs.length) (e : (!decide ((rs.getD k ld).zs ∈ lplain qs)) = true) : outOf qs (rs.take (k + 1)) = outOf qs (rs.take k) ++ [rs.getD k ld] := by
  rw [take_succ_ld h]
  unfold outOf
  rw [List.filter_append, List.filter_cons, if_pos e]
  rfl
theorem out_out {qs rs : List LV} {k : Nat} (h : k < rs.length) (e : (!decide ((rs.getD k ld).zs ∈ lplain qs)) = false) : outOf qs (rs.take (k + 1)) = outOf qs (rs.take k) := by
  rw [take_succ_ld h]
  unfold outOf
  rw [List.filter_append, List.filter_cons, if_neg (by rw [e]; exact Bool.false_ne_true)]
  simp
theorem lplain_out (qs rs : List LV) : lplain (outOf qs rs) = (lplain rs).filter fun t => !decide (t ∈ lplain qs) := by
  unfold outOf lplain
  rw [List.filter_map]
  rfl

theorem start3 {w w1 : World} {ua ta va sa : Option Addr} {un uc tn tc vn vc sn sc : Nat} (hb : Below (((w.alloc (.cells #[.slice ua un uc, .slice ta tn tc] 42)).alloc (.cells #[.slice va vn vc, .slice sa sn sc] 42)).alloc (.cells #[.slice none 0 0, .slice none 0 0] 42)).heap.size (((w.alloc (.cells #[.slice ua un uc, .slice ta tn tc] 42)).alloc (.cells #[.slice va vn vc, .slice sa sn sc] 42)).alloc (.cells #[.slice none 0 0, .slice none 0 0] 42)) w1) :
    (w1.cell? ⟨w.heap.size, 0, none⟩ = some (.slice ua un uc) ∧ w1.cell? ⟨w.heap.size, 1, none⟩ = some (.slice ta tn tc) ∧ w1.cell? ⟨w.heap.size + 1, 0, none⟩ = some (.slice va vn vc) ∧ w1.cell? ⟨w.heap.size + 1, 1, none⟩ = some (.slice sa sn sc)) ∧ (w1.cell? ⟨w.heap.size + 2, 0, none⟩ = some (.slice none 0 0) ∧ w1.cell? ⟨w.heap.size + 2, 1, none⟩ = some (.slice none 0 0) ∧ w1.frozen? ⟨w.heap.size + 2, 0, none⟩ = false ∧ w1.frozen? ⟨w.heap.size + 2, 1, none⟩ = false ∧ w.heap.size + 2 + 1 ≤ w1.heap.size) ∧ Below w.heap.size w w1 := by
  have hs2 : (((w.alloc (.cells #[.slice ua un uc, .slice ta tn tc] 42)).alloc (.cells #[.slice va vn vc, .slice sa sn sc] 42)).alloc (.cells #[.slice none 0 0, .slice none 0 0] 42)).heap.size = w.heap.size + 3 := by simp
  have B2 : Below w.heap.size w (((w.alloc (.cells #[.slice ua un uc, .slice ta tn tc] 42)).alloc (.cells #[.slice va vn vc, .slice sa sn sc] 42)).alloc (.cells #[.slice none 0 0, .slice none 0 0] 42)) := (((Below.refl _ _).alloc (Nat.le_refl _) _).alloc (by simp) _).alloc (by simp; omega) _
  have bc := Frame.bcell hb
  rw [hs2] at bc
  refine ⟨⟨?_, ?_, ?_, ?_⟩, ⟨?_, ?_, ?_, ?_, bc.2.2⟩, Frame.next B2 hb B2.size⟩
  · rw [bc.1 _ _ (by omega)]; go_simp
  · rw [bc.1 _ _ (by omega)]; go_simp
  · rw [bc.1 _ _ (by omega)]; go_simp
  · rw [bc.1 _ _ (by omega)]; go_simp
  · rw [bc.1 _ _ (by omega)]; go_simp
  · rw [bc.1 _ _ (by omega)]; go_simp
  · rw [bc.2.1 _ _ (by omega)]; go_simp
  · rw [bc.2.1 _ _ (by omega)]; go_simp
theorem without_no {a b : Rl} (h : twoB a b = false) : withoutV a b = ([], []) ∧ withoutG a b = false := by
  unfold withoutV withoutG
  rw [h]
  exact ⟨rfl, rfl⟩
theorem without_yes {a b : Rl} (h : twoB a b = true) : withoutV a b = tellV a.1 (withoutL a b) ∧ withoutG a b = tellG a.1 (withoutL a b) := by
  unfold withoutV withoutG
  rw [h]
  exact ⟨rfl, rfl⟩
theorem two_good {a b : Rl} (h : twoB a b = true) : Rel.Good a.1 a.2 ∧ Rel.Good b.1 b.2 ∧ a.1 = b.1 := by
  unfold twoB at h
  rw [Bool.and_eq_true, Bool.and_eq_true, decide_eq_true_eq] at h
  exact ⟨good_iff.1 h.1.1, good_iff.1 h.1.2, h.2⟩


end Go.Proofs.Ytekheacbmbbpmaa.Oj
