/-
  From what a law is told of its arguments to IsVals, IsRows.
-/
import Derived.Test.YtdlcjcobfckncaaDoorRws
import Derived.Deep.Slices
namespace Go.Proofs.YtdlcjcobfckncaaDoor.Opn
open Go.ChangeShapes Go.WideShapes Go.ChangeAt Go.RowKit Go.Deep
open Go.Proofs.YtdlcjcobfckncaaDoor.Frame Go.Proofs.YtdlcjcobfckncaaDoor.Mem Go.Proofs.YtdlcjcobfckncaaDoor.Vals Go.Proofs.YtdlcjcobfckncaaDoor.Rws Go.Proofs.YtdlcjcobfckncaaDoor.Val

theorem add_at (b off j : Nat) : (⟨b, off, none⟩ : Addr).add j = ⟨b, off + j, none⟩ := by unfold Addr.add; split <;> simp_all

/-- A slice of structs of two fields, each of one cell. -/
theorem slice_pairs {H : Type} {enc : TypeId × Value → H} {P : Program} {t e : TypeId} {f0 f1 : Field} {W : World} {fuel : Nat} {cs : List Value} {x : DataW H × List MemPlace}
    (ht : P.underlying t = some (.slice e)) (hs : P.underlying e = some (.struct #[f0, f1])) (hC : P.cellsOf e = 2) (o0 : f0.offset = 0) (o1 : f1.offset = 1) (c0 : P.cellsOf f0.type = 1) (c1 : P.cellsOf f1.type = 1)
    (h : DataW.trod enc P W 0 (fun _ => true) true fuel t cs = some x) :
    ∃ a len cap, cs = [.slice a len cap] ∧ len ≤ cap ∧ cap ≤ maxLen ∧ ∃ V : Nat → Value × Value,
      (∀ i, i < len → ∃ n y0 y1, DataW.trod enc P W 0 (fun _ => true) true n f0.type [(V i).1] = some y0 ∧ DataW.trod enc P W 0 (fun _ => true) true n f1.type [(V i).2] = some y1) ∧
      (0 < len → ∃ b off, a = some ⟨b, off, none⟩ ∧ b < W.heap.size ∧ ∀ i, i < len → W.cell? ⟨b, off + i * 2, none⟩ = some (V i).1 ∧ W.cell? ⟨b, off + i * 2 + 1, none⟩ = some (V i).2) := by
  rcases open_slice ht h with ⟨rfl, _⟩ | ⟨a, len, cap, m, n, D, Pl, rfl, hb, hl, hm, hmm, _, hel⟩
  · exact ⟨none, 0, 0, rfl, Nat.le_refl _, by simp [maxLen], fun _ => (.bool false, .bool false), fun i hi => absurd hi (by omega), fun h0 => absurd h0 (by omega)⟩
  · have hm' : m = cap := by simpa using hmm
    subst hm'
    have each : ∀ i, i < m → ∃ v : Value × Value, (∃ n y0 y1, DataW.trod enc P W 0 (fun _ => true) true n f0.type [v.1] = some y0 ∧ DataW.trod enc P W 0 (fun _ => true) true n f1.type [v.2] = some y1) ∧
        W.cell? (a.add (i * 2)) = some v.1 ∧ W.cell? (a.add (i * 2 + 1)) = some v.2 := by
      intro i hi
      obtain ⟨cs', hcs, htr⟩ := hel i hi
      rw [hC] at hcs
      obtain ⟨y0, y1, n', _, hlen, h0, h1⟩ := trod_struct2 hs htr
      rw [hC] at hlen
      rw [o0, c0] at h0
      rw [o1, c1] at h1
      match cs', hlen with
      | [u, v], _ =>
        have hc := World.cells?_some hcs
        refine ⟨(u, v), ⟨n', y0, y1, by simpa using h0, by simpa using h1⟩, ?_, ?_⟩
        · have := hc.2.2 0 (by omega)
          rw [add_add, Nat.add_zero] at this
          exact this
        · have := hc.2.2 1 (by omega)
          rw [add_add] at this
          exact this
    haveI : Inhabited (Value × Value) := ⟨(.bool false, .bool false)⟩
    obtain ⟨V, hV⟩ := choose_lt each
    refine ⟨some a, len, m, rfl, hl, hm, V, fun i hi => (hV i (by omega)).1, fun h0 => ?_⟩
    obtain ⟨b, off, spot⟩ := a
    have h00 := (hV 0 (by omega)).2.1
    have hspot : spot = none := by simpa [Addr.add] using World.cell?_spot h00
    subst hspot
    refine ⟨b, off, rfl, by simpa [Addr.add] using cell_lt h00, fun i hi => ?_⟩
    have := (hV i (by omega)).2
    rw [add_at, add_at] at this
    exact this

theorem getD_map_range {α : Type} (n : Nat) (f : Nat → α) (d : α) (i : Nat) (h : i < n) : ((List.range n).map f).getD i d = f i := by simp [List.getD, h]

/-- A slice of structs of a bool and an int. -/
theorem vals_of {H : Type} {enc : TypeId × Value → H} {P : Program} {t e : TypeId} {f0 f1 : Field} {W : World} {fuel : Nat} {cs : List Value} {x : DataW H × List MemPlace}
    (ht : P.underlying t = some (.slice e)) (hs : P.underlying e = some (.struct #[f0, f1])) (hC : P.cellsOf e = 2) (o0 : f0.offset = 0) (o1 : f1.offset = 1) (c0 : P.cellsOf f0.type = 1) (c1 : P.cellsOf f1.type = 1)
    (hb : P.underlying f0.type = some .bool) (hi : P.underlying f1.type = some (.int .i64))
    (h : DataW.trod enc P W 0 (fun _ => true) true fuel t cs = some x) : ∃ a len cap vs, cs = [.slice a len cap] ∧ IsVals W a len cap vs := by
  obtain ⟨a, len, cap, rfl, hl, hm, V, hV, hc⟩ := slice_pairs ht hs hC o0 o1 c0 c1 h
  have each : ∀ i, i < len → ∃ v : Bool × Int, (V i).1 = .bool v.1 ∧ (V i).2 = .int .i64 v.2 ∧ (Lit.int .i64 v.2).wf = true := by
    intro i hi'
    obtain ⟨n, y0, y1, h0, h1⟩ := hV i hi'
    obtain ⟨b, e0, _⟩ := DataW.trod_bool hb h0
    obtain ⟨z, e1, _, wz⟩ := DataW.trod_int hi h1
    simp only [List.cons.injEq, and_true] at e0 e1
    exact ⟨(b, z), e0, e1, wz⟩
  obtain ⟨f, hf⟩ := choose_lt each
  refine ⟨a, len, cap, (List.range len).map f, rfl, by simp, hl, hm, ?_, fun h0 => ?_⟩
  · intro v hv
    obtain ⟨i, hi', rfl⟩ := List.mem_map.1 hv
    exact (hf i (List.mem_range.1 hi')).2.2
  · obtain ⟨b, off, ha, hlt, hcc⟩ := hc h0
    refine ⟨b, off, ha, hlt, fun i hi' => ?_⟩
    rw [getD_map_range _ _ _ _ hi', (hcc i hi').1, (hcc i hi').2, (hf i hi').1, (hf i hi').2.1]
    exact ⟨rfl, rfl⟩

/-- A slice of rows: structs of an int and a slice of values. -/
theorem rows_of {H : Type} {enc : TypeId × Value → H} {P : Program} {t e tv ev : TypeId} {f0 f1 g0 g1 : Field} {W : World} {fuel : Nat} {cs : List Value} {x : DataW H × List MemPlace}
    (ht : P.underlying t = some (.slice e)) (hs : P.underlying e = some (.struct #[f0, f1])) (hC : P.cellsOf e = 2) (o0 : f0.offset = 0) (o1 : f1.offset = 1) (c0 : P.cellsOf f0.type = 1) (c1 : P.cellsOf f1.type = 1)
    (hi : P.underlying f0.type = some (.int .i64)) (hfv : f1.type = tv) (htv : P.underlying tv = some (.slice ev)) (hsv : P.underlying ev = some (.struct #[g0, g1])) (hCv : P.cellsOf ev = 2) (p0 : g0.offset = 0) (p1 : g1.offset = 1) (d0 : P.cellsOf g0.type = 1) (d1 : P.cellsOf g1.type = 1)
    (hbv : P.underlying g0.type = some .bool) (hiv : P.underlying g1.type = some (.int .i64))
    (h : DataW.trod enc P W 0 (fun _ => true) true fuel t cs = some x) : ∃ a len cap rs, cs = [.slice a len cap] ∧ IsRows W a len cap rs := by
  obtain ⟨a, len, cap, rfl, hl, hm, V, hV, hc⟩ := slice_pairs ht hs hC o0 o1 c0 c1 h
  have each : ∀ i, i < len → ∃ r : RowV, (V i).1 = .int .i64 r.key ∧ (V i).2 = .slice r.a r.n r.c ∧ (Lit.int .i64 r.key).wf = true ∧ IsVals W r.a r.n r.c r.vs := by
    intro i hi'
    obtain ⟨n, y0, y1, h0, h1⟩ := hV i hi'
    rw [hfv] at h1
    obtain ⟨z, e0, _, wz⟩ := DataW.trod_int hi h0
    obtain ⟨ra, rn, rc, vs, e1, hv⟩ := vals_of htv hsv hCv p0 p1 d0 d1 hbv hiv h1
    simp only [List.cons.injEq, and_true] at e0 e1
    exact ⟨⟨z, ra, rn, rc, vs⟩, e0, e1, wz, hv⟩
  haveI : Inhabited RowV := ⟨rd⟩
  obtain ⟨f, hf⟩ := choose_lt each
  refine ⟨a, len, cap, (List.range len).map f, rfl, by simp, hl, hm, ?_, fun h0 => ?_⟩
  · intro r hr
    obtain ⟨i, hi', rfl⟩ := List.mem_map.1 hr
    exact (hf i (List.mem_range.1 hi')).2.2
  · obtain ⟨b, off, ha, hlt, hcc⟩ := hc h0
    refine ⟨b, off, ha, hlt, fun i hi' => ?_⟩
    rw [getD_map_range _ _ _ _ hi', (hcc i hi').1, (hcc i hi').2, (hf i hi').1, (hf i hi').2.1]
    exact ⟨rfl, rfl⟩

set_option maxRecDepth 4000 in
theorem isVals_of {H : Type} {enc : TypeId × Value → H} {W : World} {a : Option Addr} {len cap : Nat} {d : DataW H} {p : List MemPlace}
    (h : DataW.Trod enc Tryd.prog W 0 (fun _ => true) true 67 (.slice a len cap) d p) : ∃ vs, IsVals W a len cap vs := by
  obtain ⟨fuel, hf⟩ := h
  obtain ⟨a', len', cap', vs, e, hr⟩ := vals_of Tryd.underlying67 Tryd.underlying73 (by kernel_rfl) rfl rfl (by kernel_rfl) (by kernel_rfl) Tryd.underlying4 Tryd.underlying3 hf
  simp [Value.cells] at e
  obtain ⟨rfl, rfl, rfl⟩ := e
  exact ⟨vs, hr⟩

set_option maxRecDepth 4000 in
theorem isRows_of {H : Type} {enc : TypeId × Value → H} {W : World} {a : Option Addr} {len cap : Nat} {d : DataW H} {p : List MemPlace}
    (h : DataW.Trod enc Tryd.prog W 0 (fun _ => true) true 78 (.slice a len cap) d p) : ∃ rs, IsRows W a len cap rs := by
  obtain ⟨fuel, hf⟩ := h
  obtain ⟨a', len', cap', rs, e, hr⟩ := rows_of Tryd.underlying78 Tryd.underlying129 (by kernel_rfl) rfl rfl (by kernel_rfl) (by kernel_rfl) Tryd.underlying3 rfl Tryd.underlying67 Tryd.underlying73 (by kernel_rfl) rfl rfl (by kernel_rfl) (by kernel_rfl) Tryd.underlying4 Tryd.underlying3 hf
  simp [Value.cells] at e
  obtain ⟨rfl, rfl, rfl⟩ := e
  exact ⟨rs, hr⟩

set_option maxRecDepth 4000 in
/-- A row by value. -/
theorem row_of {H : Type} {enc : TypeId × Value → H} {W : World} {base : Nat} {v : Value} {d : DataW H} {p : List MemPlace}
    (hv : Value.okWide Tryd.prog W .any base 129 v) (h : DataW.Trod enc Tryd.prog W 0 (fun _ => true) true 129 v d p) : ∃ key a n cap vs, v = .agg #[.int .i64 key, .slice a n cap] ∧ (Lit.int .i64 key).wf = true ∧ IsVals W a n cap vs := by
  obtain ⟨v0, v1, y0, y1, m, rfl, rfl, rfl, h0, h1⟩ := Joins.open_agg2 Tryd.underlying129 (by kernel_rfl) (by kernel_rfl) hv h
  obtain ⟨key, e0, _, wk⟩ := DataW.trod_int Tryd.underlying3 h0
  obtain ⟨a, n, cap, vs, e1, hvs⟩ := vals_of Tryd.underlying67 Tryd.underlying73 (by kernel_rfl) rfl rfl (by kernel_rfl) (by kernel_rfl) Tryd.underlying4 Tryd.underlying3 h1
  simp at e0 e1
  subst e0 e1
  exact ⟨key, a, n, cap, vs, rfl, wk, hvs⟩


end Go.Proofs.YtdlcjcobfckncaaDoor.Opn
