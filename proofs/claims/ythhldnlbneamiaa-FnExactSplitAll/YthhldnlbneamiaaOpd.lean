/-
  From what a law is told of its arguments to sentences.
-/
import Derived.Test.YthhldnlbneamiaaDls
import Derived.Test.YthhldnlbneamiaaOpr
import Derived.Deep.Slices
namespace Go.Proofs.Ythhldnlbneamiaa.Opd
open Go.ChangeShapes Go.WideShapes Go.ChangeAt Go.RowKit Go.Deep
open Go.Proofs.Ythhldnlbneamiaa.Frame Go.Proofs.Ythhldnlbneamiaa.Mem Go.Proofs.Ythhldnlbneamiaa.Lls Go.Proofs.Ythhldnlbneamiaa.Dls Go.Proofs.Ythhldnlbneamiaa.Opr

/-- A slice of structs of two fields, each of one cell. -/
theorem slice_pairs {H : Type} {enc : TypeId × Value → H} {P : Program} {t e : TypeId} {f0 f1 : Field} {W : World} {fuel : Nat} {cs : List Value} {x : DataW H × List MemPlace}
    (ht : P.underlying t = some (.slice e)) (hs : P.underlying e = some (.struct #[f0, f1])) (hC : P.cellsOf e = 2) (o0 : f0.offset = 0) (o1 : f1.offset = 1) (c0 : P.cellsOf f0.type = 1) (c1 : P.cellsOf f1.type = 1)
    (h : DataW.trod enc P W 0 (fun _ => true) true fuel t cs = some x) :
    ∃ a len cap, cs = [.slice a len cap] ∧ len ≤ cap ∧ cap ≤ maxLen ∧ ∃ V : Nat → Value × Value,
      (∀ i, i < len → ∃ n y0 y1, DataW.trod enc P W 0 (fun _ => true) true n f0.type [(V i).1] = some y0 ∧ DataW.trod enc P W 0 (fun _ => true) true n f1.type [(V i).2] = some y1) ∧
      (0 < len → ∃ b off, a = some ⟨b, off, none⟩ ∧ b < W.heap.size ∧ ∀ i, i < len → W.cell? ⟨b, off + i * 2, none⟩ = some (V i).1 ∧ W.cell? ⟨b, off + i * 2 + 1, none⟩ = some (V i).2) := by
  rcases open_slice ht h with ⟨rfl, _⟩ | ⟨a, len, cap, m, n, D, Pl, rfl, hb, hl, hm, hmm, _, hel⟩
  · exact ⟨none, 0, 0, rfl, Nat.le_refl _, by simp [maxLen], fun _ => (.bool false, .bool false), fun i hi => absurd hi (by omega), fun h0 => absurd h0 (by omega)⟩
  · have hm' : m = cap := by simpa using hmm
    subst hm'
    have each : ∀ i, i < m → ∃ v : Value × Value, (∃ n y0 y1, DataW.trod enc P W 0 (fun _ => true) true n f0.type [v.1] = some y0 ∧ DataW.trod enc P W 0 (fun _ => true) true n f1.type [v.2] = some y1) ∧
        W.cell? (a.add (i * 2)) = some v.1 ∧ W.cell? (a.add (i * 2 + 1)) = some v.2 := by
      intro i hi
      obtain ⟨cs', hcs, htr⟩ := hel i hi
      rw [hC] at hcs
      obtain ⟨y0, y1, n', _, hlen, h0, h1⟩ := trod_struct2 hs htr
      rw [hC] at hlen
      rw [o0, c0] at h0
      rw [o1, c1] at h1
      match cs', hlen with
      | [u, v], _ =>
        have hc := World.cells?_some hcs
        refine ⟨(u, v), ⟨n', y0, y1, by simpa using h0, by simpa using h1⟩, ?_, ?_⟩
        · have := hc.2.2 0 (by omega)
          rw [add_add, Nat.add_zero] at this
          exact this
        · have := hc.2.2 1 (by omega)
          rw [add_add] at this
          exact this
    haveI : Inhabited (Value × Value) := ⟨(.bool false, .bool false)⟩
    obtain ⟨V, hV⟩ := choose_lt each
    refine ⟨some a, len, m, rfl, hl, hm, V, fun i hi => (hV i (by omega)).1, fun h0 => ?_⟩
    obtain ⟨b, off, spot⟩ := a
    have h00 := (hV 0 (by omega)).2.1
    have hspot : spot = none := by simpa [Addr.add] using World.cell?_spot h00
    subst hspot
    refine ⟨b, off, rfl, by simpa [Addr.add] using cell_lt h00, fun i hi => ?_⟩
    have := (hV i (by omega)).2
    rw [add_at, add_at] at this
    exact this

/-- A slice of structs of two slices of integers. -/
theorem deps_of {H : Type} {enc : TypeId × Value → H} {P : Program} {t e tv i : TypeId} {f0 f1 : Field} {W : World} {fuel : Nat} {v : Value} {x : DataW H × List MemPlace}
    (ht : P.underlying t = some (.slice e)) (hs : P.underlying e = some (.struct #[f0, f1])) (hC : P.cellsOf e = 2) (o0 : f0.offset = 0) (o1 : f1.offset = 1) (c0 : P.cellsOf f0.type = 1) (c1 : P.cellsOf f1.type = 1)
    (t0 : f0.type = tv) (t1 : f1.type = tv) (he : P.underlying tv = some (.slice i)) (hi : P.underlying i = some (.int .i64)) (hc : P.cellsOf i = 1)
    (h : DataW.trod enc P W 0 (fun _ => true) true fuel t [v] = some x) : ∃ a n c rs, v = .slice a n c ∧ IsG W a n c rs := by
  obtain ⟨a, n, c, e1, hl, hm, V, hV, hcell⟩ := slice_pairs ht hs hC o0 o1 c0 c1 h
  simp only [List.cons.injEq, and_true] at e1
  subst e1
  have each : ∀ j, j < n → ∃ r : LV × LV, ((V j).1 = .slice r.1.a r.1.n r.1.c ∧ IsRow .i64 W r.1.a r.1.n r.1.c r.1.zs) ∧ (V j).2 = .slice r.2.a r.2.n r.2.c ∧ IsRow .i64 W r.2.a r.2.n r.2.c r.2.zs := by
    intro j hj
    obtain ⟨m, y0, y1, h0, h1⟩ := hV j hj
    rw [t0] at h0
    rw [t1] at h1
    obtain ⟨ra, rn, rc, zs, e2, hz⟩ := ints_of he hi hc h0
    obtain ⟨qa, qn, qc, ys, e3, hy⟩ := ints_of he hi hc h1
    exact ⟨(⟨ra, rn, rc, zs⟩, ⟨qa, qn, qc, ys⟩), ⟨e2, hz⟩, e3, hy⟩
  haveI : Inhabited (LV × LV) := ⟨(ld, ld)⟩
  obtain ⟨f, hf⟩ := choose_lt each
  have g0 : ∀ j, j < n → ((List.range (n * 2)).map fun k => if k % 2 = 0 then (f (k / 2)).1 else (f (k / 2)).2).getD (j * 2) ld = (f j).1 := fun j hj => by
    rw [getD_map_range _ _ _ _ (by omega), if_pos (by omega), show j * 2 / 2 = j by omega]
  have g1 : ∀ j, j < n → ((List.range (n * 2)).map fun k => if k % 2 = 0 then (f (k / 2)).1 else (f (k / 2)).2).getD (j * 2 + 1) ld = (f j).2 := fun j hj => by
    rw [getD_map_range _ _ _ _ (by omega), if_neg (by omega), show (j * 2 + 1) / 2 = j by omega]
  refine ⟨a, n, c, (List.range (n * 2)).map fun k => if k % 2 = 0 then (f (k / 2)).1 else (f (k / 2)).2, rfl, by simp, hl, hm, ?_, fun h0 => ?_⟩
  · intro r hr
    obtain ⟨j, hj, rfl⟩ := List.mem_map.1 hr
    have hj2 : j / 2 < n := by have := List.mem_range.1 hj; omega
    split
    · exact (hf _ hj2).1.2
    · exact (hf _ hj2).2.2
  · obtain ⟨b, off, ha, hlt, hcc⟩ := hcell h0
    refine ⟨b, off, ha, hlt, fun j hj => ?_⟩
    rw [g0 j hj, g1 j hj, (hcc j hj).1, (hcc j hj).2, (hf j hj).1.1, (hf j hj).2.1]
    exact ⟨rfl, rfl⟩

set_option maxRecDepth 4000 in
theorem isG_of {H : Type} {enc : TypeId × Value → H} {W : World} {a : Option Addr} {len cap : Nat} {d : DataW H} {p : List MemPlace}
    (h : DataW.Trod enc Try.prog W 0 (fun _ => true) true 73 (.slice a len cap) d p) : ∃ rs, IsG W a len cap rs := by
  obtain ⟨fuel, hf⟩ := h
  obtain ⟨a', len', cap', rs, e, hr⟩ := deps_of (v := .slice a len cap) Try.underlying73 Try.underlying145 (by kernel_rfl) rfl rfl (by kernel_rfl) (by kernel_rfl) rfl rfl Try.underlying24 Try.underlying3 (by kernel_rfl) (by simpa [Value.cells] using hf)
  simp only [Value.slice.injEq] at e
  obtain ⟨rfl, rfl, rfl⟩ := e
  exact ⟨rs, hr⟩

set_option maxRecDepth 4000 in
/-- A sentence by value. -/
theorem dep_of {H : Type} {enc : TypeId × Value → H} {W : World} {base : Nat} {v : Value} {d : DataW H} {p : List MemPlace}
    (hv : Value.okWide Try.prog W .any base 145 v) (h : DataW.Trod enc Try.prog W 0 (fun _ => true) true 145 v d p) : ∃ ua un uc ns ta tn tc ms, v = .agg #[.slice ua un uc, .slice ta tn tc] ∧ IsRow .i64 W ua un uc ns ∧ IsRow .i64 W ta tn tc ms := by
  obtain ⟨v0, v1, y0, y1, m, rfl, rfl, rfl, h0, h1⟩ := Joins.open_agg2 Try.underlying145 (by kernel_rfl) (by kernel_rfl) hv h
  obtain ⟨ua, un, uc, ns, rfl, hn⟩ := ints_of Try.underlying24 Try.underlying3 (by kernel_rfl) h0
  obtain ⟨ta, tn, tc, ms, rfl, hr⟩ := ints_of Try.underlying24 Try.underlying3 (by kernel_rfl) h1
  exact ⟨ua, un, uc, ns, ta, tn, tc, ms, rfl, hn, hr⟩


end Go.Proofs.Ythhldnlbneamiaa.Opd
