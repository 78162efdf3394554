/-
  slices.SortFunc on a list of the call's own, of numbers and of tuples: in order behind it, the same members.
-/
import Derived.Test.YtekheacbmbbpmaaOa
import Derived.Test.YtekheacbmbbpmaaLay3
namespace Go.Proofs.Ytekheacbmbbpmaa.Osr
open Go.RowKit Go.Sort
open Go.Proofs.Ytekheacbmbbpmaa.Frame Go.Proofs.Ytekheacbmbbpmaa.Mem Go.Proofs.Ytekheacbmbbpmaa.Ints Go.Proofs.Ytekheacbmbbpmaa.Kep Go.Proofs.Ytekheacbmbbpmaa.Lls Go.Proofs.Ytekheacbmbbpmaa.Rpu Go.Proofs.Ytekheacbmbbpmaa.Oa Go.Proofs.Ytekheacbmbbpmaa.Rel

section
variable {α : Type} [Inhabited α] {enc : α → Value} {w : World} {g : Nat} {cur : Array Value} {e : TypeId}

theorem holds_row {ds : List α} (hb : w.heap[g]? = some (.cells cur e (0, 0))) (ht : cur.toList.take ds.length = ds.map enc) : Holds enc w g 0 ds.toArray := by
  intro j hj
  have hj' : j < ds.length := by simpa using hj
  have h1 : (cur.toList.take ds.length)[j]? = (ds.map enc)[j]? := by rw [ht]
  rw [List.getElem?_take_of_lt hj', Array.getElem?_toList] at h1
  refine ⟨?_, by simp [World.frozen?, hb]⟩
  simp only [World.cell?, hb, Nat.zero_add, Option.isSome_none, Bool.false_eq_true, if_false]
  rw [h1]
  simp [hj']
theorem heap_put (n : Nat) (os : Array Obj) (d : Array α) (hb : w.heap[g]? = some (.cells cur e (0, 0))) : (sortWorld enc w g 0 n d os).heap[g]? = some (.cells (putCells enc 0 d cur) e (0, 0)) := by
  have hg : g < w.heap.size := (Array.getElem?_eq_some_iff.1 hb).1
  unfold sortWorld
  rw [heap_grow_old _ _ (by simpa [putRow, mapBlock, Sort.ahead] using hg)]
  simp [putRow, mapBlock, Sort.ahead, Array.getElem?_modify, hb, onCells]
theorem heap_other (n : Nat) (os : Array Obj) (d : Array α) {k : Nat} (hk : k < w.heap.size) (hne : k ≠ g) : (sortWorld enc w g 0 n d os).heap[k]? = w.heap[k]? := by
  unfold sortWorld
  rw [heap_grow_old _ _ (by simpa [putRow, mapBlock, Sort.ahead] using hk)]
  have : g ≠ k := fun e => hne e.symm
  simp [putRow, mapBlock, Sort.ahead, Array.getElem?_modify, this]
theorem size_put (n : Nat) (os : Array Obj) (d : Array α) : w.heap.size ≤ (sortWorld enc w g 0 n d os).heap.size := by
  unfold sortWorld
  rw [size_grow]
  simp [putRow, mapBlock, Sort.ahead]
theorem only_put (n : Nat) (os : Array Obj) (d : Array α) : OnlyAt (some ⟨g, 0, none⟩) w (sortWorld enc w g 0 n d os) :=
  ⟨rfl, rfl, rfl, size_put n os d, fun _ hk hne => heap_other n os d hk (hne _ rfl)⟩
theorem take_put (ts : List α) (h : ts.length ≤ cur.size) : (putCells enc 0 ts.toArray cur).toList.take ts.length = ts.map enc := by
  apply List.ext_getElem?
  intro j
  by_cases hj : j < ts.length
  · rw [List.getElem?_take_of_lt hj, Array.getElem?_toList]
    simp [putCells, hj, show j < cur.size by omega]
  · rw [List.getElem?_take_eq_none (by omega), List.getElem?_eq_none (by simp; omega)]
theorem own_put {base cap m n : Nat} {os : Array Obj} {ts : List α} (hl : ts.length = m) (hbase : base ≤ g) (hb : w.heap[g]? = some (.cells cur e (0, 0))) (h1 : m ≤ cap) (h2 : cap ≤ maxLen) (h3 : cur.size = cap * 1) :
    (sortWorld enc w g 0 n ts.toArray os).ownsRow base e 1 (.slice (some ⟨g, 0, none⟩) m cap) m (ts.map enc) :=
  ⟨by simp [hl], .inr ⟨g, cap, _, rfl, hbase, heap_put n os _ hb, h1, h2, by simp [putCells, h3], by rw [Nat.mul_one, ← hl]; exact take_put ts (by omega)⟩⟩
end

theorem perm_list {α : Type} [Inhabited α] {d d' : Array α} (h : PermIn 0 d.size d d') : d'.toList.Perm d.toList := by
  obtain ⟨h1, _, h3⟩ := h
  have e1 : d.extract 0 d.size = d := by simp
  have e2 : d'.extract 0 d.size = d' := by rw [← h1]; simp
  rwa [e1, e2] at h3

theorem ltI (x y : Int) : ltOf cmpI x y = decide (x < y) := by
  unfold ltOf
  rw [decide_eq_decide]
  exact cmpI_neg
theorem swoI : SWO (ltOf cmpI) where
  irrefl x := by rw [ltI]; simp
  trans x y z h1 h2 := by rw [ltI] at *; simp at *; omega
  ntrans x y z h1 h2 := by rw [ltI] at *; simp at *; omega

theorem get_list {α : Type} [Inhabited α] (d : Array α) {i : Nat} (h : i < d.size) : d[i]! = d.toList[i]'(by simpa using h) := by
  rw [getElem!_pos d i h]
  simp

/-- A list in order, some alike. -/
def Asc (zs : List Int) : Prop := zs.Pairwise (· ≤ ·)
def AscL (ts : Rel.Ll) : Prop := ts.Pairwise fun a b => ¬ cmpL b a < 0

theorem swoL {rs : List LV} : SWO (ltOf fun x y : { r // r ∈ rs } => cmpL x.1.zs y.1.zs) where
  irrefl x := by show decide (cmpL x.1.zs x.1.zs < 0) = false; rw [cmpL_self]; rfl
  trans x y z h1 h2 := by
    have h1' : cmpL x.1.zs y.1.zs < 0 := of_decide_eq_true h1
    have h2' : cmpL y.1.zs z.1.zs < 0 := of_decide_eq_true h2
    exact decide_eq_true (cmpL_trans h1' h2')
  ntrans x y z h1 h2 := by
    have h1' : ¬ cmpL x.1.zs y.1.zs < 0 := of_decide_eq_false h1
    have h2' : ¬ cmpL y.1.zs z.1.zs < 0 := of_decide_eq_false h2
    have h3 := cmpL_ntrans (a := x.1.zs) (b := y.1.zs) (c := z.1.zs) (by omega) (by omega)
    have h4 : ¬ cmpL x.1.zs z.1.zs < 0 := by omega
    exact decide_eq_false h4

theorem isRow_only {w0 w w' : World} {g : Nat} {r : LV} (h : IsRow .i64 w0 r.a r.n r.c r.zs) (hB : Below w0.heap.size w0 w) (t : OnlyAt (some ⟨g, 0, none⟩) w w') (hg : w0.heap.size ≤ g) : IsRow .i64 w' r.a r.n r.c r.zs :=
  IsRow.below h (below_touch hB t (fun x hx => by cases hx; exact hg) hB.size)


end Go.Proofs.Ytekheacbmbbpmaa.Osr
