/-
  Contract of the model's l2Drop: the rows of another key, by append.
-/
import Derived.Test.YtciaegdgoabipabOwn
namespace Go.Proofs.Ytciaegdgoabipab.Drp
open Go.RowKit
open Go.Proofs.Ytciaegdgoabipab.Frame Go.Proofs.Ytciaegdgoabipab.Mem Go.Proofs.Ytciaegdgoabipab.Vals Go.Proofs.Ytciaegdgoabipab.Rws Go.Proofs.Ytciaegdgoabipab.Val Go.Proofs.Ytciaegdgoabipab.Tab Go.Proofs.Ytciaegdgoabipab.Reg Go.Proofs.Ytciaegdgoabipab.Gtab Go.Proofs.Ytciaegdgoabipab.Cpy Go.Proofs.Ytciaegdgoabipab.Own

theorem isRows_outer {w : World} {base : Nat} {a : Option Addr} {n cap : Nat} {rs : List RowV} (h0 : w.ownsRow base 50 2 (.slice a n cap) n (rcells rs)) (hrows : ∀ r ∈ rs, (Lit.int .i64 r.key).wf = true ∧ IsVals w r.a r.n r.c r.vs) : IsRows w a n cap rs := by
  have h00 := h0
  obtain ⟨h1, h2⟩ := h00
  have hn : rs.length = n := by rw [rcells_length] at h1; omega
  rcases h2 with ⟨hv, rfl⟩ | ⟨g, cap', cur, hv, hg, hh, hnc, hcap, hsz, htake⟩
  · simp only [Value.slice.injEq] at hv
    obtain ⟨rfl, _, rfl⟩ := hv
    exact ⟨hn, Nat.le_refl _, by simp [maxLen], hrows, fun h => absurd h (by omega)⟩
  · simp only [Value.slice.injEq] at hv
    obtain ⟨rfl, _, rfl⟩ := hv
    refine ⟨hn, hnc, hcap, hrows, fun _ => ⟨g, 0, rfl, ?_, fun i hi => ?_⟩⟩
    · by_cases hx : g < w.heap.size
      · exact hx
      · rw [Array.getElem?_eq_none (by omega)] at hh; cases hh
    · have := rcells_get rs i (by omega)
      rw [Nat.zero_add, h0.cellAt (i * 2) (by omega), h0.cellAt (i * 2 + 1) (by omega)]
      exact this

/-- An append to a list of the call's own leaves what was there. -/
theorem below_append {w W w1 : World} {base : Nat} {e : TypeId} {size : Nat} {a : Option Addr} {n c : Nat} {xs : List Value} (hb : Below base w W) (ho : W.ownsRow base e size (.slice a n c) n xs) (hg : W.grownBy w1 (Value.slice a n c).ownBlock) (hB : base ≤ W.heap.size) : Below base w w1 :=
  below_grown hb hg hB (fun g' hg' => by
    cases ha : a with
    | none => rw [ha] at hg'; simp [Value.ownBlock] at hg'
    | some x =>
      rw [ha] at hg'
      simp only [Value.ownBlock, Option.some.injEq] at hg'
      have := (own_block ho x ha).1
      omega)

def dropK (key : Int) (rs : List RowV) : List RowV := rs.filter fun r => decide (r.key ≠ key)

theorem dropK_le (key : Int) (rs : List RowV) : (dropK key rs).length ≤ rs.length := List.length_filter_le _ _

theorem dropK_take_same (key : Int) (rs : List RowV) (k : Nat) (h : k < rs.length) (e : (rs.getD k rd).key = key) : dropK key (rs.take (k + 1)) = dropK key (rs.take k) := by
  rw [take_succ_rd h]
  generalize rs.getD k rd = r at e ⊢
  unfold dropK
  rw [List.filter_append]
  simp [e]

theorem dropK_take_new (key : Int) (rs : List RowV) (k : Nat) (h : k < rs.length) (e : (rs.getD k rd).key ≠ key) : dropK key (rs.take (k + 1)) = dropK key (rs.take k) ++ [rs.getD k rd] := by
  rw [take_succ_rd h]
  generalize rs.getD k rd = r at e ⊢
  unfold dropK
  rw [List.filter_append]
  simp [e]


end Go.Proofs.Ytciaegdgoabipab.Drp
