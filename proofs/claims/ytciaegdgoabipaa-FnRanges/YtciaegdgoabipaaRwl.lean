/-
  The steps of chapter 2's drawn laws, as their walks want them.
-/
import Derived.Test.YtciaegdgoabipaaPus
import Derived.Test.YtciaegdgoabipaaSmt
namespace Go.Proofs.Ytciaegdgoabipaa.Rwl
open Go.RowKit
open Go.Proofs.Ytciaegdgoabipaa.Frame Go.Proofs.Ytciaegdgoabipaa.Mem Go.Proofs.Ytciaegdgoabipaa.Vals Go.Proofs.Ytciaegdgoabipaa.Rws Go.Proofs.Ytciaegdgoabipaa.Kep Go.Proofs.Ytciaegdgoabipaa.Knr Go.Proofs.Ytciaegdgoabipaa.Tfn

/-- A table beside a truth. -/
def TabB (X : Tb) (g : Bool) (w : World) (e : Ending) (w' : World) : Prop := ∃ u, e = .returned (.tuple #[u, .bool g]) ∧ RIs w' u X ∧ Below w.heap.size w w'

/-- A row beside a truth. -/
def RowB (k : Int) (vs : List (Bool × Int)) (g : Bool) (w : World) (e : Ending) (w' : World) : Prop := ∃ a n c, e = .returned (.tuple #[.agg #[.int .i64 k, .slice a n c], .bool g]) ∧ WIs w' a n c (k, vs) ∧ Below w.heap.size w w'

theorem tabB {X : Tb} {g g' : Bool} {w w' : World} {e : Ending} (h : ∃ u, e = .returned (.tuple #[u, .bool g]) ∧ ROwn w' w.heap.size w'.heap.size u X ∧ Below w.heap.size w w') (hg : g = g') : TabB X g' w e w' := by
  obtain ⟨u, rfl, ho, hb⟩ := h
  subst hg
  exact ⟨u, rfl, rOwn_is ho, hb⟩

theorem rowB {x : Int × List (Bool × Int)} {k : Int} {vs : List (Bool × Int)} {g g' : Bool} {w w' : World} {e : Ending} (h : ∃ a n c, e = .returned (.tuple #[.agg #[.int .i64 x.1, .slice a n c], .bool g]) ∧ WOwn w' w.heap.size w'.heap.size a n c x ∧ Below w.heap.size w w') (hx : x = (k, vs)) (hg : g = g') : RowB k vs g' w e w' := by
  obtain ⟨a, n, c, rfl, ho, hb⟩ := h
  subst hx
  subst hg
  exact ⟨a, n, c, rfl, wOwn_is ho, hb⟩

theorem impl_Put (v : Value) (xs : Tb) (k : Int) (vs : List (Bool × Int)) (ra : Option Addr) (rn rc : Nat) (g : Bool) (w : World) (h : RIs w v xs) (hk : (Lit.int .i64 k).wf = true) (hx : WIs w ra rn rc (k, vs)) (hg : pPutB (k, vs) xs = g) : Calls Try.prog 10 #[v, .agg #[.int .i64 k, .slice ra rn rc]] w (TabB (pPutV (k, vs) xs) g w) :=
  (impl_PutRow v xs (k, vs) ra rn rc w h hk hx).mono fun _ _ h => tabB h hg

theorem spec_Put (v : Value) (xs : Tb) (k : Int) (vs : List (Bool × Int)) (ra : Option Addr) (rn rc : Nat) (g : Bool) (w : World) (h : RIs w v xs) (hk : (Lit.int .i64 k).wf = true) (hx : WIs w ra rn rc (k, vs)) (hg : pPutB (k, vs) xs = g) : Calls Try.prog 11 #[v, .agg #[.int .i64 k, .slice ra rn rc]] w (TabB (pPutV (k, vs) xs) g w) :=
  (spec_PutRow v xs (k, vs) ra rn rc w h hk hx).mono fun _ _ h => tabB h hg

theorem impl_Drop (v : Value) (xs : Tb) (k : Int) (g : Bool) (w : World) (h : RIs w v xs) (hk : (Lit.int .i64 k).wf = true) (hg : pRowB k xs = g) : Calls Try.prog 16 #[v, .int .i64 k] w (TabB (pDropV k xs) g w) :=
  (impl_DropRow v xs k w h hk).mono fun _ _ h => tabB h (by rw [Pus.drop_found]; exact hg)

theorem spec_Drop (v : Value) (xs : Tb) (k : Int) (g : Bool) (w : World) (h : RIs w v xs) (hk : (Lit.int .i64 k).wf = true) (hg : pRowB k xs = g) : Calls Try.prog 19 #[v, .int .i64 k] w (TabB (pDropV k xs) g w) :=
  (spec_DropRow v xs k w h hk).mono fun _ _ h => tabB h (by rw [Pus.drop_found]; exact hg)

theorem impl_Find (v : Value) (xs : Tb) (k xk : Int) (xv : List (Bool × Int)) (g : Bool) (w : World) (h : RIs w v xs) (hk : (Lit.int .i64 k).wf = true) (hx : pRowV k xs = (xk, xv)) (hg : pRowB k xs = g) : Calls Try.prog 15 #[v, .int .i64 k] w (RowB xk xv g w) :=
  (impl_FindRow v xs k w h hk).mono fun _ _ h => rowB h hx hg

theorem spec_Find (v : Value) (xs : Tb) (k xk : Int) (xv : List (Bool × Int)) (g : Bool) (w : World) (h : RIs w v xs) (hk : (Lit.int .i64 k).wf = true) (hx : pRowV k xs = (xk, xv)) (hg : pRowB k xs = g) : Calls Try.prog 20 #[v, .int .i64 k] w (RowB xk xv g w) :=
  (spec_FindRow v xs k w h hk).mono fun _ _ h => rowB h hx hg

theorem impl_Good (v : Value) (xs : Tb) (g : Bool) (w : World) (h : RIs w v xs) (hg : pGood xs = g) : Calls Try.prog 13 #[v] w fun e w' => e = .returned (.bool g) ∧ Below w.heap.size w w' := by
  subst hg
  exact impl_GoodTable v xs w h

theorem spec_Good (v : Value) (xs : Tb) (g : Bool) (w : World) (h : RIs w v xs) (hg : pGood xs = g) : Calls Try.prog 14 #[v] w fun e w' => e = .returned (.bool g) ∧ Below w.heap.size w w' := by
  subst hg
  exact spec_GoodTable v xs w h

theorem same_table (u v : Value) (xs ys : Tb) (w : World) (h1 : RIs w u xs) (h2 : RIs w v ys) (e : xs = ys) : Calls Try.prog 12 #[u, v] w fun e w' => e = .returned (.bool true) ∧ Below w.heap.size w w' := by
  subst e
  have h := Smt.same_table u v xs xs w h1 h2
  rw [decide_eq_true rfl] at h
  exact h

theorem same_row (a b : Option Addr) (n ca m cb : Nat) (k l : Int) (vs us : List (Bool × Int)) (w : World) (h1 : WIs w a n ca (k, vs)) (h2 : WIs w b m cb (l, us)) (e : (k, vs) = (l, us)) : Calls Try.prog 17 #[.agg #[.int .i64 k, .slice a n ca], .agg #[.int .i64 l, .slice b m cb]] w fun e w' => e = .returned (.bool true) ∧ Below w.heap.size w w' := by
  cases e
  have h := Smt.same_row a b n ca m cb (k, vs) (k, vs) w h1 h2
  rw [decide_eq_true rfl] at h
  exact h

theorem gone_row (k : Int) (xs : Tb) (h : pRowB k xs = true) : pRowB k (pDropV k xs) = false ∧ pRowV k (pDropV k xs) = (0, []) := by
  have h1 := Pus.gone (key := k) (xs := xs) (by rw [Pus.drop_found]; exact h)
  exact ⟨h1, Pur.rowOut_no h1⟩

/-- What a box holds. -/
def Box (w : World) (b : Nat) (k : Int) (a : Option Addr) (n c : Nat) : Prop := w.cell? ⟨b, 0, none⟩ = some (.int .i64 k) ∧ w.cell? ⟨b, 1, none⟩ = some (.slice a n c)
theorem Box.below {w w' : World} {b : Nat} {k : Int} {a : Option Addr} {n c : Nat} (h : Box w b k a n c) (hb : Below w.heap.size w w') : Box w' b k a n c :=
  ⟨(hb.cell (p := ⟨b, 0, none⟩) (Frame.cell_lt h.1)).trans h.1, (hb.cell (p := ⟨b, 1, none⟩) (Frame.cell_lt h.2)).trans h.2⟩
theorem Box.new (w : World) (k : Int) (a : Option Addr) (n c : Nat) (t : TypeId) : Box (w.alloc (.cells #[.int .i64 k, .slice a n c] t)) w.heap.size k a n c := by
  refine ⟨?_, ?_⟩ <;> rw [World.cell?_alloc_at _ _ _ _ rfl] <;> rfl


end Go.Proofs.Ytciaegdgoabipaa.Rwl
