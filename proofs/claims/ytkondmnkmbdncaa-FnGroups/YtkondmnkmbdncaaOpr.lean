/-
  From what a law is told of its arguments to relations.
-/
import Derived.Test.YtkondmnkmbdncaaKrl
import Derived.Deep.Slices
namespace Go.Proofs.Ytkondmnkmbdncaa.Opr
open Go.ChangeShapes Go.WideShapes Go.ChangeAt Go.RowKit Go.Deep
open Go.Proofs.Ytkondmnkmbdncaa.Frame Go.Proofs.Ytkondmnkmbdncaa.Mem Go.Proofs.Ytkondmnkmbdncaa.Lls

theorem add_at (b off j : Nat) : (⟨b, off, none⟩ : Addr).add j = ⟨b, off + j, none⟩ := by unfold Addr.add; split <;> simp_all
theorem getD_map_range {α : Type} (n : Nat) (f : Nat → α) (d : α) (i : Nat) (h : i < n) : ((List.range n).map f).getD i d = f i := by simp [List.getD, h]

/-- A slice of elements of one cell each. -/
theorem slice_ones {H : Type} {enc : TypeId × Value → H} {P : Program} {t e : TypeId} {W : World} {fuel : Nat} {cs : List Value} {x : DataW H × List MemPlace}
    (ht : P.underlying t = some (.slice e)) (hC : P.cellsOf e = 1)
    (h : DataW.trod enc P W 0 (fun _ => true) true fuel t cs = some x) :
    ∃ a len cap, cs = [.slice a len cap] ∧ len ≤ cap ∧ cap ≤ maxLen ∧ ∃ V : Nat → Value,
      (∀ i, i < len → ∃ n y, DataW.trod enc P W 0 (fun _ => true) true n e [V i] = some y) ∧
      (0 < len → ∃ b off, a = some ⟨b, off, none⟩ ∧ b < W.heap.size ∧ ∀ i, i < len → W.cell? ⟨b, off + i, none⟩ = some (V i)) := by
  rcases open_slice ht h with ⟨rfl, _⟩ | ⟨a, len, cap, m, n, D, Pl, rfl, hb, hl, hm, hmm, _, hel⟩
  · exact ⟨none, 0, 0, rfl, Nat.le_refl _, by simp [maxLen], fun _ => .bool false, fun i hi => absurd hi (by omega), fun h0 => absurd h0 (by omega)⟩
  · have hm' : m = cap := by simpa using hmm
    subst hm'
    have each : ∀ i, i < m → ∃ v : Value, (∃ n y, DataW.trod enc P W 0 (fun _ => true) true n e [v] = some y) ∧ W.cell? (a.add i) = some v := by
      intro i hi
      obtain ⟨cs', hcs, htr⟩ := hel i hi
      rw [hC, Nat.mul_one] at hcs
      have hc := World.cells?_some hcs
      match cs', hc.1 with
      | [v], _ =>
        refine ⟨v, ⟨_, _, htr⟩, ?_⟩
        have := hc.2.2 0 (by omega)
        rw [add_add, Nat.add_zero] at this
        exact this
    haveI : Inhabited Value := ⟨.bool false⟩
    obtain ⟨V, hV⟩ := choose_lt each
    refine ⟨some a, len, m, rfl, hl, hm, V, fun i hi => (hV i (by omega)).1, fun h0 => ?_⟩
    obtain ⟨b, off, spot⟩ := a
    have h00 := (hV 0 (by omega)).2
    have hspot : spot = none := by simpa [Addr.add] using World.cell?_spot h00
    subst hspot
    refine ⟨b, off, rfl, by simpa [Addr.add] using cell_lt h00, fun i hi => ?_⟩
    have := (hV i (by omega)).2
    rw [add_at] at this
    exact this

theorem slice_any {H : Type} {enc : TypeId × Value → H} {P : Program} {t e : TypeId} {W : World} {fuel : Nat} {cs : List Value} {x : DataW H × List MemPlace}
    (ht : P.underlying t = some (.slice e)) (h : DataW.trod enc P W 0 (fun _ => true) true fuel t cs = some x) : ∃ a len cap, cs = [.slice a len cap] ∧ True := by
  rcases open_slice ht h with ⟨rfl, _⟩ | ⟨a, len, cap, m, n, D, Pl, rfl, _⟩
  · exact ⟨none, 0, 0, rfl, trivial⟩
  · exact ⟨some a, len, cap, rfl, trivial⟩

theorem ints_of {H : Type} {enc : TypeId × Value → H} {P : Program} {t e : TypeId} {W : World} {fuel : Nat} {v : Value} {x : DataW H × List MemPlace}
    (ht : P.underlying t = some (.slice e)) (he : P.underlying e = some (.int .i64)) (hc : P.cellsOf e = 1)
    (h : DataW.trod enc P W 0 (fun _ => true) true fuel t [v] = some x) : ∃ a n c zs, v = .slice a n c ∧ IsRow .i64 W a n c zs := by
  obtain ⟨a, n, c, e1, hl, hm, _⟩ := slice_ones ht hc h
  simp only [List.cons.injEq, and_true] at e1
  subst e1
  obtain ⟨d, p⟩ := x
  obtain ⟨zs, hz⟩ := isRow_of (H := H) (enc := enc) (d := d) (p := p) ht he hc ⟨fuel, by simpa [Value.cells] using h⟩
  exact ⟨a, n, c, zs, rfl, hz⟩

/-- A slice of slices of integers. -/
theorem ls_of {H : Type} {enc : TypeId × Value → H} {P : Program} {t e i : TypeId} {W : World} {fuel : Nat} {v : Value} {x : DataW H × List MemPlace}
    (ht : P.underlying t = some (.slice e)) (hC : P.cellsOf e = 1) (he : P.underlying e = some (.slice i)) (hi : P.underlying i = some (.int .i64)) (hc : P.cellsOf i = 1)
    (h : DataW.trod enc P W 0 (fun _ => true) true fuel t [v] = some x) : ∃ a n c rs, v = .slice a n c ∧ IsLs W a n c rs := by
  obtain ⟨a, n, c, e1, hl, hm, V, hV, hcell⟩ := slice_ones ht hC h
  simp only [List.cons.injEq, and_true] at e1
  subst e1
  have each : ∀ j, j < n → ∃ r : LV, V j = .slice r.a r.n r.c ∧ IsRow .i64 W r.a r.n r.c r.zs := by
    intro j hj
    obtain ⟨m, y, hy⟩ := hV j hj
    obtain ⟨ra, rn, rc, zs, e2, hz⟩ := ints_of he hi hc hy
    exact ⟨⟨ra, rn, rc, zs⟩, e2, hz⟩
  haveI : Inhabited LV := ⟨ld⟩
  obtain ⟨f, hf⟩ := choose_lt each
  refine ⟨a, n, c, (List.range n).map f, rfl, by simp, hl, hm, ?_, fun h0 => ?_⟩
  · intro r hr
    obtain ⟨j, hj, rfl⟩ := List.mem_map.1 hr
    exact (hf j (List.mem_range.1 hj)).2
  · obtain ⟨b, off, ha, hlt, hcc⟩ := hcell h0
    refine ⟨b, off, ha, hlt, fun j hj => ?_⟩
    rw [getD_map_range _ _ _ _ hj, hcc j hj, (hf j hj).1]


end Go.Proofs.Ytkondmnkmbdncaa.Opr
