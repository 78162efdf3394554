/-
  What stays where only blocks from one place to another are turned; integers and values in lists, by their place. It speaks of few of the program's functions: the laws' helpers on lists of integers.
-/
import Derived.Test.YtekheacbmbbpmaaInts
namespace Go.Proofs.Ytekheacbmbbpmaa.Kep
open Go.RowKit
open Go.Proofs.Ytekheacbmbbpmaa.Frame Go.Proofs.Ytekheacbmbbpmaa.Mem

/-- Nothing was turned but blocks from lo on up to hi, and what is new. -/
structure Keeps (lo hi : Nat) (w w' : World) : Prop where
  os : w'.os = w.os
  tape : w'.tape = w.tape
  output : w'.output = w.output
  size : w.heap.size ≤ w'.heap.size
  block : ∀ k, k < w.heap.size → k < lo ∨ hi ≤ k → w'.heap[k]? = w.heap[k]?

theorem Keeps.of_below {lo hi : Nat} {w w' : World} (h : Below w.heap.size w w') : Keeps lo hi w w' := ⟨h.os, h.tape, h.output, h.size, fun k hk _ => h.block k hk⟩
theorem Keeps.below {lo hi B : Nat} {w0 w w' : World} (h : Below B w0 w) (t : Keeps lo hi w w') (hB : B ≤ lo) (hs : B ≤ w.heap.size) : Below B w0 w' :=
  h.trans ⟨t.os, t.tape, t.output, t.size, fun k hk => t.block k (by omega) (Or.inl (by omega))⟩
theorem Keeps.of_only {lo hi : Nat} {a : Option Addr} {w w' : World} (t : OnlyAt a w w') (h : ∀ x, a = some x → lo ≤ x.block ∧ x.block < hi) : Keeps lo hi w w' :=
  ⟨t.os, t.tape, t.output, t.size, fun k hk hne => t.block k hk (fun x hx => by have := h x hx; omega)⟩
theorem Keeps.cell {lo hi : Nat} {w w' : World} (t : Keeps lo hi w w') {b o : Nat} {v : Value} (h : w.cell? ⟨b, o, none⟩ = some v) (hb : b < lo ∨ hi ≤ b) : w'.cell? ⟨b, o, none⟩ = some v :=
  (World.cell?_of_block (w := w) (t.block b (Frame.cell_lt h) hb)).trans h

theorem own_keeps {w w' : World} {base lo hi lo' hi' : Nat} {e : TypeId} {size : Nat} {a : Option Addr} {n cap : Nat} {xs : List Value} (h : w.ownsRow base e size (.slice a n cap) n xs) (hb : ∀ x, a = some x → lo ≤ x.block ∧ x.block < hi) (t : Keeps lo' hi' w w') (hd : hi ≤ lo' ∨ hi' ≤ lo) : w'.ownsRow base e size (.slice a n cap) n xs := by
  have hlt := own_block h
  obtain ⟨h1, h2⟩ := h
  refine ⟨h1, ?_⟩
  rcases h2 with h2 | ⟨g, cap', cur, hv, hg, hh, r⟩
  · exact .inl h2
  · refine .inr ⟨g, cap', cur, hv, hg, ?_, r⟩
    simp only [Value.slice.injEq] at hv
    have h3 := hb _ hv.1
    rw [t.block g (hlt _ hv.1).2 (by simp only at h3; omega)]
    exact hh

/-! Lists of integers. -/
def IIs (w : World) (v : Value) (zs : List Int) : Prop := ∃ a n cap, v = .slice a n cap ∧ IsRow .i64 w a n cap zs ∧ n ≤ 1048576
def IOwn (w : World) (lo hi : Nat) (v : Value) (zs : List Int) : Prop := ∃ a n cap, v = .slice a n cap ∧ w.ownsRow lo 3 1 (.slice a n cap) n (ints .i64 zs) ∧ (∀ z ∈ zs, (Lit.int .i64 z).wf = true) ∧ n ≤ 1048576 ∧ ∀ x, a = some x → lo ≤ x.block ∧ x.block < hi
def IMarked (w : World) (lo hi : Nat) (v : Value) (k nx : Int) : Prop := ∃ n : Nat, IOwn w lo hi v (marks k n) ∧ nx = k + (n : Int) ∧ 0 ≤ k ∧ k ≤ 50000000

theorem iOwn_of {w : World} {lo : Nat} {a : Option Addr} {n cap : Nat} {zs : List Int} (h : w.ownsRow lo 3 1 (.slice a n cap) n (ints .i64 zs)) (hw : ∀ z ∈ zs, (Lit.int .i64 z).wf = true) (hn : n ≤ 1048576) : IOwn w lo w.heap.size (.slice a n cap) zs :=
  ⟨a, n, cap, rfl, h, hw, hn, own_block h⟩
theorem iIs_below {w w' : World} {v : Value} {zs : List Int} (h : IIs w v zs) (hb : Below w.heap.size w w') : IIs w' v zs := by
  obtain ⟨a, n, cap, rfl, hr, hn⟩ := h
  exact ⟨a, n, cap, rfl, Mem.IsRow.below hr hb, hn⟩
theorem iOwn_is {w : World} {lo hi : Nat} {v : Value} {zs : List Int} (h : IOwn w lo hi v zs) : IIs w v zs := by
  obtain ⟨a, n, cap, rfl, ho, hw, hn, _⟩ := h
  obtain ⟨a', c', e, hr⟩ := isRow_own ho hw
  cases e
  exact ⟨_, _, _, rfl, hr, hn⟩
theorem iOwn_keeps {w w' : World} {lo hi lo' hi' : Nat} {v : Value} {zs : List Int} (h : IOwn w lo hi v zs) (t : Keeps lo' hi' w w') (hd : hi ≤ lo' ∨ hi' ≤ lo) : IOwn w' lo hi v zs := by
  obtain ⟨a, n, cap, rfl, ho, hw, hn, hb⟩ := h
  exact ⟨a, n, cap, rfl, own_keeps ho hb t hd, hw, hn, hb⟩
theorem iMarked_keeps {w w' : World} {lo hi lo' hi' : Nat} {v : Value} {k nx : Int} (h : IMarked w lo hi v k nx) (t : Keeps lo' hi' w w') (hd : hi ≤ lo' ∨ hi' ≤ lo) : IMarked w' lo hi v k nx := by
  obtain ⟨n, h1, h2⟩ := h
  exact ⟨n, iOwn_keeps h1 t hd, h2⟩
theorem iOwn_below {w w' : World} {lo hi : Nat} {v : Value} {zs : List Int} (h : IOwn w lo hi v zs) (hb : Below w.heap.size w w') : IOwn w' lo hi v zs := iOwn_keeps (lo' := hi) (hi' := hi) h (Keeps.of_below hb) (Or.inl (Nat.le_refl _))
theorem iMarked_below {w w' : World} {lo hi : Nat} {v : Value} {k nx : Int} (h : IMarked w lo hi v k nx) (hb : Below w.heap.size w w') : IMarked w' lo hi v k nx := iMarked_keeps (lo' := hi) (hi' := hi) h (Keeps.of_below hb) (Or.inl (Nat.le_refl _))


end Go.Proofs.Ytekheacbmbbpmaa.Kep
