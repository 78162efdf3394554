/-
  A map that holds whatever values, read as themselves: laws at its operations; rows kept by their keys. It reaches the program by its types alone.
-/
import Derived.Test.YtciaegdgoabipaaDrp
import Derived.Maps.RangeWalk
import Derived.Maps.Ext
import Derived.Sort.OwnSortedInts
namespace Go.Proofs.Ytciaegdgoabipaa.Shf
open Go.RowKit Go.Maps
open Go.Proofs.Ytciaegdgoabipaa.Frame Go.Proofs.Ytciaegdgoabipaa.Mem Go.Proofs.Ytciaegdgoabipaa.Vals Go.Proofs.Ytciaegdgoabipaa.Rws Go.Proofs.Ytciaegdgoabipaa.Val Go.Proofs.Ytciaegdgoabipaa.Tab Go.Proofs.Ytciaegdgoabipaa.Reg Go.Proofs.Ytciaegdgoabipaa.Gtab Go.Proofs.Ytciaegdgoabipaa.Cpy Go.Proofs.Ytciaegdgoabipaa.Own Go.Proofs.Ytciaegdgoabipaa.Drp

/-- An element reads as itself. -/
def Rv (v : Value) : Option (DataW Value × List MemPlace) := some (.held v, [])

theorem rv_inv {v u : Value} {ps : List MemPlace} {d : DataW Value} (h : Rv v = some (d, ps)) (e : d = .held u) : v = u := by
  unfold Rv at h
  simp only [Option.some.injEq, Prod.mk.injEq] at h
  rw [← h.1] at e
  exact DataW.held.inj e

theorem wpList_lookup_held {P : Program} (w : World) {ops : Array Oper} {rest : List Oper} {o : Oper} {a : Act} {Q : Exit → Act → World → Prop} (hg : o.guard = none) (m x : Operand) (t : TypeId) (hop : o.op = Op.lookup t m x false)
    (k e : TypeId) (K : Keyed P k) (ht : P.underlying t = some (.map k e)) (z : Value) (hz : (zeroValue e).run P w = .ok z w) (b n : Nat) (D : DataW Value) (hm : a.eval m = .map (some b)) (hown : w.ownsMap P k Rv b n D) (key : Value) (kl : Lit) (hx : a.eval x = key) (hkey : keyOf P k key = some kl)
    (u : Value) (hat : D.atKey kl (.held z) = .held u) (hK : wpList P ops Q rest (a.put o.dst u) w) : wpList P ops Q (o :: rest) a w := by
  refine wpList_plain hg fun K' hK' => ?_
  obtain ⟨v, ps, hrun, hv⟩ := hown.lookup K ht hz (show Rv z = some (.held z, []) from rfl) hkey
  obtain rfl := rv_inv hv hat
  unfold Oper.wp
  simp [execOp, hop, hm, hx, hrun, Result.andThen]
  exact hK' _ _ hK

theorem wpList_lookup_held_ok {P : Program} (w : World) {ops : Array Oper} {rest : List Oper} {o : Oper} {a : Act} {Q : Exit → Act → World → Prop} (hg : o.guard = none) (m x : Operand) (t : TypeId) (hop : o.op = Op.lookup t m x true)
    (k e : TypeId) (K : Keyed P k) (ht : P.underlying t = some (.map k e)) (z : Value) (hz : (zeroValue e).run P w = .ok z w) (b n : Nat) (D : DataW Value) (hm : a.eval m = .map (some b)) (hown : w.ownsMap P k Rv b n D) (key : Value) (kl : Lit) (hx : a.eval x = key) (hkey : keyOf P k key = some kl)
    (u : Value) (hat : D.atKey kl (.held z) = .held u) (q : Bool) (hq : Maps.has D kl = q) (hK : wpList P ops Q rest (a.put o.dst (.tuple #[u, .bool q])) w) : wpList P ops Q (o :: rest) a w := by
  refine wpList_plain hg fun K' hK' => ?_
  obtain ⟨v, ps, hrun, hv⟩ := hown.look_ok K ht hz (show Rv z = some (.held z, []) from rfl) hkey
  obtain rfl := rv_inv hv hat
  rw [hq] at hrun
  unfold Oper.wp
  simp [execOp, hop, hm, hx, hrun, Result.andThen]
  exact hK' _ _ hK

/-! Integer keys that a range has met. -/
def Coll {H : Type} (D0 : DataW H) (left : Lit → Bool) (zs : List Int) : Prop := zs.Nodup ∧ ∀ x, x ∈ zs ↔ (has D0 (.int .i64 x) = true ∧ left (.int .i64 x) = false)

theorem Coll.start {H : Type} (D0 : DataW H) : Coll D0 (has D0) [] := ⟨List.nodup_nil, fun x => by cases has D0 (.int .i64 x) <;> simp⟩

theorem Coll.step {H : Type} {D0 : DataW H} {left : Lit → Bool} {zs : List Int} (h : Coll D0 left zs) {x : Int} {y : DataW H} (hlk : left (.int .i64 x) = true) (hat : ∀ zd, D0.atKey (.int .i64 x) zd = y) : Coll D0 (fun z => left z && !z.sameKey (.int .i64 x)) (zs ++ [x]) := by
  have hhas : has D0 (.int .i64 x) = true := has_true_of_atKey hat
  have hnew : x ∉ zs := fun hx => by have := ((h.2 x).1 hx).2; rw [hlk] at this; cases this
  refine ⟨List.nodup_append.2 ⟨h.1, by simp, fun a ha b hb => by simp at hb; subst hb; exact fun e => hnew (e ▸ ha)⟩, fun y => ?_⟩
  by_cases hy : y = x
  · subst hy; simp [hhas, Lit.sameKey]
  · simp [h.2 y, hy, Lit.sameKey]

/-! Rows by their keys. -/
def rowVal (r : RowV) : Value := .agg #[.int .i64 r.key, .slice r.a r.n r.c]
def ent (r : RowV) : Lit × DataW Value := (.int .i64 r.key, .held (rowVal r))
def shelf (qs : List RowV) : DataW Value := .map (qs.map ent)
def Rising (qs : List RowV) : Prop := qs.Pairwise fun r s => r.key < s.key

theorem has_shelf (qs : List RowV) (k : Int) : has (shelf qs) (.int .i64 k) = qs.any fun r => decide (r.key = k) := by
  simp only [shelf, has_eq, List.any_map]
  congr 1
  funext r
  simp [ent, Lit.sameKey]

theorem size_shelf (qs : List RowV) : Maps.size (shelf qs) = qs.length := by simp [shelf, Maps.size_eq]

theorem del_shelf (qs : List RowV) (k : Int) : (shelf qs).del (.int .i64 k) = shelf (dropK k qs) := by
  simp only [shelf, DataW.del, dropK, List.filter_map]
  congr 2
  congr 1
  funext r
  simp [ent, Lit.sameKey]

theorem atKey_shelf {qs : List RowV} (h : Rising qs) {r : RowV} (hr : r ∈ qs) (z : DataW Value) : (shelf qs).atKey (.int .i64 r.key) z = .held (rowVal r) := by
  simp only [shelf, DataW.atKey]
  induction qs with
  | nil => cases hr
  | cons q qs ih =>
    obtain ⟨h1, h2⟩ := List.pairwise_cons.1 h
    rw [List.map_cons, List.find?_cons]
    rcases List.mem_cons.1 hr with rfl | hr
    · simp [ent, Lit.sameKey]
    · have : q.key ≠ r.key := by have := h1 r hr; omega
      simp only [ent, Lit.sameKey, this, and_false, decide_false]
      exact ih h2 hr

theorem atKey_none {qs : List RowV} {k : Int} (h : ∀ r ∈ qs, r.key ≠ k) (z : DataW Value) : (shelf qs).atKey (.int .i64 k) z = z := by
  apply atKey_of_not_has
  rw [has_shelf, List.any_eq_false]
  intro r hr
  simpa using h r hr

/-- A row in its place. -/
def insR (r : RowV) : List RowV → List RowV
  | [] => [r]
  | y :: t => if r.key < y.key then r :: y :: t else y :: insR r t

theorem mem_insR {r s : RowV} {qs : List RowV} : s ∈ insR r qs ↔ s = r ∨ s ∈ qs := by
  induction qs with
  | nil => simp [insR]
  | cons q qs ih =>
    rw [insR]
    split
    · simp
    · simp [ih]; constructor
      · rintro (h | h | h) <;> simp [h]
      · rintro (h | h | h) <;> simp [h]

theorem insR_last {r : RowV} {qs : List RowV} (h : ∀ q ∈ qs, q.key < r.key) : insR r qs = qs ++ [r] := by
  induction qs with
  | nil => rfl
  | cons q qs ih =>
    have h0 := h q (by simp)
    rw [insR, if_neg (by omega), ih (fun x hx => h x (by simp [hx]))]
    rfl

theorem dropK_none {k : Int} {qs : List RowV} (h : ∀ q ∈ qs, q.key ≠ k) : dropK k qs = qs := by
  unfold dropK
  rw [List.filter_eq_self]
  intro q hq
  simpa using h q hq

theorem insR_pairwise {R : RowV → RowV → Prop} {r : RowV} {qs : List RowV} (h : qs.Pairwise R) (h1 : ∀ q ∈ qs, R q r ∧ R r q) : (insR r qs).Pairwise R := by
  induction qs with
  | nil => simp [insR]
  | cons q qs ih =>
    obtain ⟨p1, p2⟩ := List.pairwise_cons.1 h
    rw [insR]
    split
    · exact List.pairwise_cons.2 ⟨fun s hs => (h1 s hs).2, h⟩
    · refine List.pairwise_cons.2 ⟨fun s hs => ?_, ih p2 (fun s hs => h1 s (by simp [hs]))⟩
      rcases mem_insR.1 hs with rfl | hs
      · exact (h1 q (by simp)).1
      · exact p1 s hs

theorem insR_rising {r : RowV} {qs : List RowV} (h : Rising qs) (hn : ∀ q ∈ qs, q.key ≠ r.key) : Rising (insR r qs) := by
  unfold Rising at *
  induction qs with
  | nil => simp [insR]
  | cons q qs ih =>
    obtain ⟨p1, p2⟩ := List.pairwise_cons.1 h
    have h0 := hn q (by simp)
    rw [insR]
    split
    · rename_i hlt
      refine List.pairwise_cons.2 ⟨fun s hs => ?_, h⟩
      rcases List.mem_cons.1 hs with rfl | hs
      · exact hlt
      · have := p1 s hs; omega
    · rename_i hlt
      refine List.pairwise_cons.2 ⟨fun s hs => ?_, ih p2 (fun s hs => hn s (by simp [hs]))⟩
      rcases mem_insR.1 hs with rfl | hs
      · omega
      · exact p1 s hs

theorem insert_ent (r : RowV) (qs : List RowV) : DataW.insert (ent r) (qs.map ent) = (insR r qs).map ent := by
  induction qs with
  | nil => rfl
  | cons q qs ih =>
    rw [List.map_cons, DataW.insert, insR]
    by_cases h : r.key < q.key
    · rw [if_pos (by simpa [ent, Lit.before] using h), if_pos h]; rfl
    · rw [if_neg (by simpa [ent, Lit.before] using h), if_neg h, ih]; rfl

theorem put_shelf (qs : List RowV) (r : RowV) : (shelf qs).put (.int .i64 r.key) (.held (rowVal r)) = shelf (insR r (dropK r.key qs)) := by
  have e := del_shelf qs r.key
  simp only [shelf, DataW.del, DataW.map.injEq] at e
  simp only [shelf, DataW.put]
  rw [e, ← insert_ent]
  rfl

theorem put_last {qs : List RowV} {r : RowV} (h : ∀ q ∈ qs, q.key < r.key) : (shelf qs).put (.int .i64 r.key) (.held (rowVal r)) = shelf (qs ++ [r]) := by
  rw [put_shelf, dropK_none (fun q hq => by have := h q hq; omega), insR_last h]

theorem keys_sorted {qs : List RowV} {left : Lit → Bool} {zs : List Int} (h : Rising qs) (hc : Coll (shelf qs) left zs) (hl : ∀ kl, left kl = false) : zs.mergeSort (fun x y => decide (x ≤ y)) = qs.map (·.key) ∧ zs.length = qs.length := by
  have hp : zs.Perm (qs.map (·.key)) := by
    refine (List.perm_ext_iff_of_nodup hc.1 ?_).2 fun x => ?_
    · refine List.pairwise_map.2 (h.imp fun {a b} hab => ?_)
      omega
    · rw [hc.2 x, hl, has_shelf, List.any_eq_true, List.mem_map]
      simp
  refine ⟨?_, by simpa using hp.length_eq⟩
  refine List.Perm.eq_of_pairwise (le := fun a b => a ≤ b) (fun a b _ _ h1 h2 => by omega) ?_ ?_ ((List.mergeSort_perm zs _).trans hp)
  · have := List.pairwise_mergeSort (le := fun x y : Int => decide (x ≤ y)) (fun a b c h1 h2 => by simp only [decide_eq_true_eq] at *; omega) (fun a b => by simp only [Bool.or_eq_true, decide_eq_true_eq]; omega) zs
    exact this.imp (fun {a b} hab => by simpa using hab)
  · refine List.pairwise_map.2 (h.imp fun {a b} hab => ?_)
    omega

theorem law : Keyed Try.prog 3 := int_keyed Try.underlying3
theorem zeroR (w : World) : (zeroValue 26).run Try.prog w = .ok (.agg #[.int .i64 0, .slice none 0 0]) w := by kernel_rfl
theorem key_of {k : Int} (h : (Lit.int .i64 k).wf = true) : keyOf Try.prog 3 (.int .i64 k) = some (.int .i64 k) := keyOf_int_mk Try.underlying3 h

/-- Rows kept by their keys in a map of the call's own, each list a block of its own. -/
structure OwnShelf (w : World) (base b n : Nat) (qs : List RowV) : Prop where
  map : w.ownsMap Try.prog 3 Rv b n (shelf qs)
  low : base ≤ b
  inner : ∀ r ∈ qs, w.ownsRow base 45 2 (.slice r.a r.n r.c) r.n (vcells r.vs)
  wf : ∀ r ∈ qs, (Lit.int .i64 r.key).wf = true ∧ ∀ v ∈ r.vs, (Lit.int .i64 v.2).wf = true
  apart : qs.Pairwise fun r s => Far r.a s.a
  rising : Rising qs

theorem grown_of_below {w w' : World} (hb : Below w.heap.size w w') : w.grownBy w' none := ⟨hb.os, hb.tape, hb.output, hb.size, fun i hi _ => hb.block i hi⟩

theorem OwnShelf.below {w w' : World} {base b n : Nat} {qs : List RowV} (h : OwnShelf w base b n qs) (hb : Below w.heap.size w w') : OwnShelf w' base b n qs :=
  ⟨h.map.kept (grown_of_below hb) (by simp), h.low, fun r hr => own_below (h.inner r hr) hb, h.wf, h.apart, h.rising⟩

/-- A list's block is no map. -/
theorem ne_map {w : World} {base b n : Nat} {D : DataW Value} {P : Program} {k e : TypeId} {size : Nat} {v : Value} {m : Nat} {xs : List Value} (hm : w.ownsMap P k Rv b n D) (ho : w.ownsRow base e size v m xs) : ∀ g, v.ownBlock = some g → some g ≠ some b := by
  intro g hg e'
  cases e'
  obtain ⟨es, clock, hb, _⟩ := hm
  rcases ho.2 with ⟨rfl, _⟩ | ⟨g', cap, cur, rfl, _, hh, _⟩
  · simp [Value.ownBlock] at hg
  · simp [Value.ownBlock] at hg
    subst hg
    rw [hb] at hh
    cases hh


end Go.Proofs.Ytciaegdgoabipaa.Shf
