/-
  The frame that every law of this seat shares: what the arguments and the named variables read as behind a call that turned nothing old. It speaks of no program.
-/
import Derived.Test.YtekheacbmbbpmaaRows
import Derived.WalkKit
import Derived.ProofKit
import Derived.OpenShut
import Derived.ShutString
import Derived.ChangeOld
import Derived.Below
import Derived.WalkSmall
import Derived.Deep.DeepHandedRow
import Derived.Lib.LaidTab
import Derived.MakeChecks
import Derived.Lib.SmallJoins
namespace Go.Proofs.Ytekheacbmbbpmaa.Frame
open Go.ChangeShapes Go.WideShapes Go.ChangeAt Go.RowKit

/-- Behind a call that turned nothing old: every old cell and mark reads as it did; no block has gone. -/
theorem bcell {W w1 : World} (hb : Below W.heap.size W w1) : (∀ b o, b < W.heap.size → w1.cell? ⟨b, o, none⟩ = W.cell? ⟨b, o, none⟩) ∧ (∀ b o, b < W.heap.size → w1.frozen? ⟨b, o, none⟩ = W.frozen? ⟨b, o, none⟩) ∧ W.heap.size ≤ w1.heap.size :=
  ⟨fun b o h => hb.cell (p := ⟨b, o, none⟩) h, fun b o h => hb.frozen (p := ⟨b, o, none⟩) h, hb.size⟩

theorem next {B : Nat} {a w w' : World} (h : Below B a w) (h' : Below w.heap.size w w') (hB : B ≤ w.heap.size) : Below B a w' := h.trans (h'.mono hB)

theorem cell_lt {w : World} {a : Addr} {v : Value} (h : w.cell? a = some v) : a.block < w.heap.size := by
  by_cases hb : a.block < w.heap.size
  · exact hb
  · exfalso
    have : w.heap[a.block]? = none := Array.getElem?_eq_none (by omega)
    simp [World.cell?, this] at h

/-- For a region that draws its order and calls what makes memory: what is kept from call to call. -/
theorem held_next {W w1 w2 : World} {R : Prop} (h : Below W.heap.size W w1 ∧ R) (hb : Below w1.heap.size w1 w2) : Below W.heap.size W w2 := next h.1 hb h.1.size
theorem held_cell {W w' : World} (h : Below W.heap.size W w') {b o : Nat} {v : Value} (hc : W.cell? ⟨b, o, none⟩ = some v) : w'.cell? ⟨b, o, none⟩ = some v := by
  rw [h.cell (p := ⟨b, o, none⟩) (cell_lt hc)]; exact hc

/-- A type that can be read. -/
def okType (P : Program) (t : TypeId) : Bool := P.readableRec t && decide (t < P.types.size)
def okVar (P : Program) (n : String) : Bool := match P.globalNamed n with
  | some g => match (P.globals[g]?).map (·.type) with
    | some t => okType P t
    | none => false
  | none => false

theorem okType_at {P : Program} {t : TypeId} (h : okType P t = true) : P.readableRec t = true ∧ t < P.types.size := by
  unfold okType at h
  simpa using h

theorem trodAll_below {H : Type} {enc : TypeId × Value → H} {P : Program} (hl : laidOutB P = true) {W W' : World} (hb : Below W.heap.size W W') :
    ∀ {ts : List TypeId} {vs : List Value} {ds : List (DataW H)} {ps : List MemPlace}, (∀ t ∈ ts, okType P t = true) → DataW.TrodAll enc P W 0 (fun _ => true) true ts vs ds ps →
      DataW.TrodAll enc P W' 0 (fun b => decide (b < W.heap.size)) true ts vs ds ps := by
  intro ts
  induction ts with
  | nil =>
    intro vs ds ps _ h
    match vs, ds, h with
    | [], [], h => exact h
  | cons t ts ih =>
    intro vs ds ps hk h
    match vs, ds, h with
    | v :: vs, d :: ds, h =>
      obtain ⟨p, q, h1, h2, e⟩ := h
      have ht := okType_at (hk t (by simp))
      refine ⟨p, q, Below.trod hl ht.1 ht.2 h1 hb ?_, ih (fun u hu => hk u (by simp [hu])) h2, e⟩
      obtain ⟨m, hm⟩ := h1
      exact DataW.trod_lt m _ _ _ hm

theorem var_block {P : Program} {W : World} {n : String} {g : Nat} {cs : Array Value} (hg : P.globalNamed n = some g) (hv : W.var? P n = some cs) : g < W.heap.size := by
  unfold World.var? at hv
  simp only [hg, Option.bind_some] at hv
  by_cases h : g < W.heap.size
  · exact h
  · rw [Array.getElem?_eq_none (by omega)] at hv
    simp at hv

theorem trodVars_below {H : Type} {enc : TypeId × Value → H} {P : Program} (hl : laidOutB P = true) {W W' : World} (hb : Below W.heap.size W W') :
    ∀ {ns : List String} {gs : List (DataW H)} {ps : List MemPlace}, (∀ n ∈ ns, okVar P n = true) → DataW.TrodVars enc P W (fun _ => true) ns gs ps →
      DataW.TrodVars enc P W' (fun b => decide (b < W.heap.size)) ns gs ps := by
  intro ns
  induction ns with
  | nil =>
    intro gs ps _ h
    match gs, h with
    | [], h => exact h
  | cons n ns ih =>
    intro gs ps hk h
    match gs, h with
    | d :: gs, h =>
      obtain ⟨g, t, cs, fuel, p, q, h1, h2, h3, h4, h5, e⟩ := h
      have hn := hk n (by simp)
      unfold okVar at hn
      simp only [h1, h2] at hn
      have ht := okType_at hn
      have htrod : DataW.Trod enc P W 0 (fun _ => true) true t (.agg cs) d p := ⟨fuel, by simpa [Value.cells] using h4⟩
      have hlt : ∀ x ∈ p, x.block < W.heap.size := DataW.trod_lt fuel _ _ _ h4
      obtain ⟨m, hm⟩ := Below.trod hl ht.1 ht.2 htrod hb hlt
      exact ⟨g, t, cs, m, p, q, h1, h2, var?_below hb h1 (var_block h1 h3) h3, by simpa [Value.cells] using hm, ih (fun u hu => hk u (by simp [hu])) h5, e⟩

theorem trodAll_length {H : Type} {enc : TypeId × Value → H} {P : Program} {W : World} {b : Nat} {sp : Nat → Bool} {hd : Bool} :
    ∀ {ts : List TypeId} {vs : List Value} {ds : List (DataW H)} {ps : List MemPlace}, DataW.TrodAll enc P W b sp hd ts vs ds ps → vs.length = ts.length ∧ ds.length = ts.length := by
  intro ts
  induction ts with
  | nil =>
    intro vs ds ps h
    match vs, ds, h with
    | [], [], h => exact ⟨rfl, rfl⟩
  | cons t ts ih =>
    intro vs ds ps h
    match vs, ds, h with
    | v :: vs, d :: ds, h =>
      obtain ⟨p, q, _, h2, _⟩ := h
      have := ih h2
      simp only [List.length_cons]
      omega

theorem trodVars_length {H : Type} {enc : TypeId × Value → H} {P : Program} {W : World} {sp : Nat → Bool} :
    ∀ {ns : List String} {gs : List (DataW H)} {ps : List MemPlace}, DataW.TrodVars enc P W sp ns gs ps → gs.length = ns.length := by
  intro ns
  induction ns with
  | nil =>
    intro gs ps h
    match gs, h with
    | [], h => rfl
  | cons n ns ih =>
    intro gs ps h
    match gs, h with
    | d :: gs, h =>
      obtain ⟨g, t, cs, fuel, p, q, _, _, _, _, h5, _⟩ := h
      have := ih h5
      simp only [List.length_cons]
      omega

/-- What a law's row asks behind the call, where it answered true and turned nothing that was there. -/
theorem post_law {H : Type} {enc : TypeId × Value → H} {P : Program} {s : ChangeSpec} {f : Func} {tb : TypeId} {W W' : World} {args : Array Value} {ds gs : List (DataW H)} {before : List MemPlace}
    (hl : laidOutB P = true) (hts : ∀ t ∈ f.params.toList, okType P t = true) (hvs : ∀ n ∈ s.vars, okVar P n = true) (hres : f.resultTypes = #[tb]) (htb : P.underlying tb = some .bool)
    (hW : DataW.Whole enc P f.params.toList s.vars false W args.toList ds gs before) (hb : Below W.heap.size W W')
    (hfn : ∀ ds gs : List (DataW H), ds.length = f.params.toList.length → gs.length = s.vars.length → s.fn H (ds ++ gs) = { results := [.lit (.bool true)], args := ds, vars := gs }) :
    s.post enc P f false true false false W args (.bool true) W' := by
  have hW' := hW
  obtain ⟨p, q, hA, hV, e, _, _⟩ := hW
  have e1 := hfn ds gs (trodAll_length hA).2 (trodVars_length hV)
  refine ⟨ds, gs, before, [], p, q, hW', ?_, ?_, ?_, hb.frame _, fun h => by cases h⟩
  · rw [e1, hres]
    exact trodAll_mk1 (shut_bool htb _)
  · rw [e1]
    exact trodAll_below hl hb hts hA
  · rw [e1]
    exact trodVars_below hl hb hvs hV

/-- THE SAME AS A CALL's CONTRACT. -/
theorem law_calls {H : Type} {enc : TypeId × Value → H} {P : Program} {s : ChangeSpec} {f : Func} {k : FuncId} {tb : TypeId} {W : World} {args : Array Value} {ds gs : List (DataW H)} {before : List MemPlace}
    (hl : laidOutB P = true) (hts : (f.params.toList.all fun t => okType P t) = true) (hvs : (s.vars.all fun n => okVar P n) = true) (hres : f.resultTypes = #[tb]) (htb : P.underlying tb = some .bool)
    (hW : DataW.Whole enc P f.params.toList s.vars false W args.toList ds gs before)
    (hfn : ∀ ds gs : List (DataW H), ds.length = f.params.toList.length → gs.length = s.vars.length → s.fn H (ds ++ gs) = { results := [.lit (.bool true)], args := ds, vars := gs })
    (h : Calls P k args W fun e W' => e = .returned (.bool true) ∧ Below W.heap.size W W') :
    Calls P k args W fun e W' => ∃ v, e = .returned v ∧ s.post enc P f false true false false W args v W' :=
  h.mono fun _ _ ⟨he, hb⟩ => ⟨.bool true, he, post_law hl (List.all_eq_true.1 hts) (List.all_eq_true.1 hvs) hres htb hW hb hfn⟩

theorem laidVars_at {P : Program} {w : World} {n : String} {d : DataW Unit} : ∀ {laid : List (String × DataW Unit)} {ps : List MemPlace}, DataW.LaidVars P w laid ps → (n, d) ∈ laid →
    ∃ g t cs fuel p, P.globalNamed n = some g ∧ (P.globals[g]?).map (·.type) = some t ∧ w.var? P n = some cs ∧ DataW.trod (fun _ => ()) P w 0 (fun _ => true) false fuel t cs.toList = some (d, p) := by
  intro laid
  induction laid with
  | nil => intro ps _ hm; cases hm
  | cons x r ih =>
    intro ps h hm
    obtain ⟨g, t, cs, fuel, p, q, h1, h2, h3, h4, h5, _⟩ := h
    rcases List.mem_cons.1 hm with rfl | hm'
    · exact ⟨g, t, cs, fuel, p, h1, h2, h3, h4⟩
    · exact ih h5 hm'

/-- A listed array of integers: its cells. -/
theorem tab1_cell {P : Program} {laid : List (String × DataW Unit)} {W : World} {n : String} {k : IntKind} {zs : List Int} {g : Nat} {t e : TypeId} {m : Nat}
    (h : laidMetH P laid W) (hp : (laid.all fun x => x.2.handleName?.isNone) = true) (hm : (n, Lib.tabData k zs) ∈ laid)
    (hg : P.globalNamed n = some g) (hty : (P.globals[g]?).map (·.type) = some t) (ht : P.underlying t = some (.array m e)) (he : P.underlying e = some (.int k)) (hce : P.cellsOf e = 1) (hct : P.cellsOf t = m) :
    ∀ i, i < zs.length → W.cell? ⟨g, i, none⟩ = some (.int k (zs.getD i 0)) := by
  rw [MakeChecks.laidMetH_plain _ _ _ hp] at h
  obtain ⟨ps, hv, _⟩ := h
  obtain ⟨g', t', cs, fuel, p, hg', ht', hvar, hd⟩ := laidVars_at hv hm
  obtain rfl := Option.some.inj (hg.symm.trans hg')
  obtain rfl := Option.some.inj (hty.symm.trans ht')
  have hcs := Lib.cells_of_tab ht he hce hct hd
  intro i hi
  have := World.var?_cell hg hvar i
  rw [this]
  obtain ⟨l⟩ := cs
  simp only at hcs
  subst hcs
  simp [List.getD, hi]

/-- A listed array of arrays of integers: its cells. -/
theorem tab2_cell {P : Program} {laid : List (String × DataW Unit)} {W : World} {n : String} {k : IntKind} {zss : List (List Int)} {g : Nat} {t e u : TypeId} {m r : Nat}
    (h : laidMetH P laid W) (hp : (laid.all fun x => x.2.handleName?.isNone) = true) (hm : (n, DataW.agg (zss.map fun zs => Lib.tabData k zs)) ∈ laid)
    (hg : P.globalNamed n = some g) (hty : (P.globals[g]?).map (·.type) = some t) (ht : P.underlying t = some (.array r e)) (he : P.underlying e = some (.array m u)) (hu : P.underlying u = some (.int k)) (hcu : P.cellsOf u = 1) (hce : P.cellsOf e = m) :
    ∀ i j, i < zss.length → j < (zss.getD i []).length → j < m → W.cell? ⟨g, i * m + j, none⟩ = some (.int k ((zss.getD i []).getD j 0)) := by
  rw [MakeChecks.laidMetH_plain _ _ _ hp] at h
  obtain ⟨ps, hv, _⟩ := h
  obtain ⟨g', t', cs, fuel, p, hg', ht', hvar, hd⟩ := laidVars_at hv hm
  obtain rfl := Option.some.inj (hg.symm.trans hg')
  obtain rfl := Option.some.inj (hty.symm.trans ht')
  obtain ⟨xs, f1, rfl, hx, hlen, hr, hel⟩ := DataW.trod_array ht hd
  simp only [Prod.mk.injEq, DataW.agg.injEq] at hx
  intro i j hi hj hjm
  have hxl : xs.length = zss.length := by
    have := congrArg List.length hx.1
    simpa using this.symm
  have h1 := hel i (by omega)
  have hxi : xs[i]? = some xs[i] := by simp [hxl, hi]
  have hz : xs[i].1 = Lib.tabData k (zss.getD i []) := by
    have h2 := congrArg (·[i]?) hx.1
    simp [hi, hxl] at h2
    simp [List.getD, hi, h2]
  rw [hxi] at h1
  generalize hy : xs[i] = y at h1 hz
  obtain ⟨y1, y2⟩ := y
  simp only at hz
  subst hz
  rw [hce] at h1
  have h3 := Lib.cells_of_tab (cs := (cs.toList.drop (i * m)).take m) he hu hcu hce h1
  have h4 := congrArg (·[j]?) h3
  have := World.var?_cell hg hvar (i * m + j)
  rw [this]
  obtain ⟨l⟩ := cs
  generalize zss.getD i [] = zs at h4 hj
  simp [hjm] at h4
  rw [List.getElem?_eq_getElem hj] at h4
  simpa [List.getD, hj] using h4

/-- WHAT THE WALK IS TOLD OF A SLICE OF INTEGERS: its elements are 'zs'; where it has some they lie in a row of cells. -/
structure IsRow (k : IntKind) (w : World) (a : Option Addr) (n cap : Nat) (zs : List Int) : Prop where
  len : zs.length = n
  fits : n ≤ cap
  max : cap ≤ maxLen
  wf : ∀ z ∈ zs, (Lit.int k z).wf = true
  cells : 0 < n → ∃ b off, a = some ⟨b, off, none⟩ ∧ b < w.heap.size ∧ ∀ i, i < n → w.cell? ⟨b, off + i, none⟩ = some (.int k (zs.getD i 0))

theorem isRow_of {H : Type} {enc : TypeId × Value → H} {P : Program} {t e : TypeId} {k : IntKind} {W : World} {a : Option Addr} {len cap : Nat} {d : DataW H} {p : List MemPlace}
    (ht : P.underlying t = some (.slice e)) (he : P.underlying e = some (.int k)) (hc : P.cellsOf e = 1)
    (h : DataW.Trod enc P W 0 (fun _ => true) true t (.slice a len cap) d p) : ∃ zs, IsRow k W a len cap zs := by
  obtain ⟨fuel, hf⟩ := h
  rcases open_ints ht he hc hf with ⟨hcs, _⟩ | ⟨x, l, c, zs, hcs, _, hl, hm, hz, _, hcell, hwz⟩
  · simp [Value.cells] at hcs
    obtain ⟨rfl, rfl, rfl⟩ := hcs
    exact ⟨[], rfl, Nat.le_refl _, by simp [maxLen], by simp, fun h => absurd h (by omega)⟩
  · simp [Value.cells] at hcs
    obtain ⟨rfl, rfl, rfl⟩ := hcs
    have hz' : zs.length = cap := by simpa using hz
    refine ⟨zs.take len, by simp; omega, hl, hm, fun n hn => hwz n (List.mem_of_mem_take hn), fun h0 => ?_⟩
    obtain ⟨b, off, spot⟩ := x
    have h00 := hcell 0 (by omega)
    have hspot : spot = none := by simpa [Addr.add] using World.cell?_spot h00
    subst hspot
    refine ⟨b, off, rfl, by simpa [Addr.add] using cell_lt h00, fun i hi => ?_⟩
    have hadd : (⟨b, off, none⟩ : Addr).add i = ⟨b, off + i, none⟩ := by unfold Addr.add; split <;> simp_all
    rw [← hadd, hcell i (by omega)]
    simp [List.getD, hi]

/-- A struct of a bool and an int, by value. -/
theorem value_of {H : Type} {enc : TypeId × Value → H} {P : Program} {t : TypeId} {f0 f1 : Field} {W : World} {base : Nat} {v : Value} {d : DataW H} {p : List MemPlace}
    (hs : P.underlying t = some (.struct #[f0, f1])) (hone : Deep.oneCellFields P #[f0, f1] = true) (hC : P.cellsOf t = 2) (hb : P.underlying f0.type = some .bool) (hi : P.underlying f1.type = some (.int .i64))
    (hv : Value.okWide P W .any base t v) (h : DataW.Trod enc P W 0 (fun _ => true) true t v d p) : ∃ b n, v = .agg #[.bool b, .int .i64 n] ∧ (Lit.int .i64 n).wf = true := by
  obtain ⟨v0, v1, y0, y1, m, rfl, rfl, rfl, h0, h1⟩ := Joins.open_agg2 hs hone hC hv h
  obtain ⟨b, e0, _⟩ := DataW.trod_bool hb h0
  obtain ⟨n, e1, _, wn⟩ := DataW.trod_int hi h1
  simp at e0 e1
  subst e0 e1
  exact ⟨b, n, rfl, wn⟩


end Go.Proofs.Ytekheacbmbbpmaa.Frame
