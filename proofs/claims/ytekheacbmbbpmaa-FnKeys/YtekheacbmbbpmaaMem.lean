/-
  Slices of integers in memory: what came in, what the call owns, and how both stay. It speaks of no program.
-/
import Derived.Test.YtekheacbmbbpmaaFrame
import Derived.Deep.RegionHeld3
import Derived.Deep.QuietTactic
import Derived.BigQuiet
import Derived.Deep.DrawnRows
import Derived.Outline
namespace Go.Proofs.Ytekheacbmbbpmaa.Mem
open Go.RowKit
open Go.Proofs.Ytekheacbmbbpmaa.Frame

theorem IsRow.below {k : IntKind} {w w' : World} {a : Option Addr} {n cap : Nat} {zs : List Int} (h : IsRow k w a n cap zs) (hb : Below w.heap.size w w') : IsRow k w' a n cap zs := by
  refine ⟨h.len, h.fits, h.max, h.wf, fun h0 => ?_⟩
  obtain ⟨b, off, ha, hlt, hc⟩ := h.cells h0
  exact ⟨b, off, ha, Nat.lt_of_lt_of_le hlt hb.size, fun i hi => by rw [hb.cell (p := ⟨b, off + i, none⟩) hlt]; exact hc i hi⟩

theorem own_below {w w' : World} {base : Nat} {e : TypeId} {size : Nat} {v : Value} {n : Nat} {xs : List Value} (h : w.ownsRow base e size v n xs) (hb : Below w.heap.size w w') : w'.ownsRow base e size v n xs := by
  obtain ⟨h1, h2⟩ := h
  refine ⟨h1, ?_⟩
  rcases h2 with h2 | ⟨g, cap, cur, hv, hg, hh, r⟩
  · exact .inl h2
  · refine .inr ⟨g, cap, cur, hv, hg, ?_, r⟩
    have hlt : g < w.heap.size := by
      by_cases hx : g < w.heap.size
      · exact hx
      · rw [Array.getElem?_eq_none (by omega)] at hh; cases hh
    rw [hb.block g hlt]; exact hh

/-- A smaller base. -/
theorem own_base {w : World} {base base' : Nat} {e : TypeId} {size : Nat} {v : Value} {n : Nat} {xs : List Value} (h : w.ownsRow base e size v n xs) (hb : base' ≤ base) : w.ownsRow base' e size v n xs := by
  obtain ⟨h1, h2⟩ := h
  refine ⟨h1, ?_⟩
  rcases h2 with h2 | ⟨g, cap, cur, hv, hg, hh, r⟩
  · exact .inl h2
  · exact .inr ⟨g, cap, cur, hv, by omega, hh, r⟩

def ints (k : IntKind) (zs : List Int) : List Value := zs.map (Value.int k)

theorem ints_length (k : IntKind) (zs : List Int) : (ints k zs).length = zs.length := by simp [ints]
theorem ints_get (k : IntKind) (zs : List Int) (i : Nat) (h : i < zs.length) : (ints k zs)[i]? = some (.int k (zs.getD i 0)) := by simp [ints, List.getD, h]

/-- What the call owns can be read. -/
theorem isRow_own {k : IntKind} {w : World} {base : Nat} {e : TypeId} {v : Value} {n : Nat} {zs : List Int} (h : w.ownsRow base e 1 v n (ints k zs)) (hw : ∀ z ∈ zs, (Lit.int k z).wf = true) :
    ∃ a cap, v = .slice a n cap ∧ IsRow k w a n cap zs := by
  have h0 := h
  obtain ⟨h1, h2⟩ := h
  have hn : zs.length = n := by simpa [ints] using h1
  rcases h2 with ⟨rfl, rfl⟩ | ⟨g, cap, cur, rfl, hg, hh, hnc, hcap, hsz, htake⟩
  · exact ⟨none, 0, rfl, hn, Nat.le_refl _, by simp [maxLen], hw, fun h => absurd h (by omega)⟩
  · refine ⟨some ⟨g, 0, none⟩, cap, rfl, hn, hnc, hcap, hw, fun _ => ⟨g, 0, rfl, ?_, fun i hi => ?_⟩⟩
    · by_cases hx : g < w.heap.size
      · exact hx
      · rw [Array.getElem?_eq_none (by omega)] at hh; cases hh
    · rw [Nat.zero_add, h0.cellAt i (by omega)]
      exact ints_get k zs i (by omega)

theorem int_wf (n : Int) (h0 : -9223372036854775808 ≤ n) (h : n ≤ 9223372036854775807) : (Lit.int .i64 n).wf = true := by
  have h1 : IntKind.i64.min = -9223372036854775808 := rfl
  have h2 : IntKind.i64.max = 9223372036854775807 := rfl
  simp only [Lit.wf, Bool.and_eq_true, decide_eq_true_eq]
  omega
theorem wf_int {n : Int} (h : (Lit.int .i64 n).wf = true) : -9223372036854775808 ≤ n ∧ n ≤ 9223372036854775807 := by
  have h1 : IntKind.i64.min = -9223372036854775808 := rfl
  have h2 : IntKind.i64.max = 9223372036854775807 := rfl
  simp only [Lit.wf, Bool.and_eq_true, decide_eq_true_eq] at h
  omega

theorem getD_mem {zs : List Int} {i : Nat} (h : i < zs.length) : zs.getD i 0 ∈ zs := by
  simp only [List.getD, List.getElem?_eq_getElem h, Option.getD_some]
  exact List.getElem_mem h

theorem take_succ_getD {zs : List Int} {i : Nat} (h : i < zs.length) : zs.take (i + 1) = zs.take i ++ [zs.getD i 0] := by
  rw [List.take_succ_eq_append_getElem h]
  simp [List.getD, h]

/-- Nothing was turned but the row at 'a'. -/
structure OnlyAt (a : Option Addr) (w w' : World) : Prop where
  os : w'.os = w.os
  tape : w'.tape = w.tape
  output : w'.output = w.output
  size : w.heap.size ≤ w'.heap.size
  block : ∀ k, k < w.heap.size → (∀ x, a = some x → k ≠ x.block) → w'.heap[k]? = w.heap[k]?

theorem OnlyAt.refl (a : Option Addr) (w : World) : OnlyAt a w w := ⟨rfl, rfl, rfl, Nat.le_refl _, fun _ _ _ => rfl⟩
theorem OnlyAt.setCell {a : Option Addr} {w w' : World} (h : OnlyAt a w w') {b o : Nat} (hb : ∀ x, a = some x → x.block = b) (ha : a ≠ none) (u : Value) : OnlyAt a w (w'.setCell ⟨b, o, none⟩ u) := by
  refine ⟨h.os, h.tape, h.output, by simpa [World.setCell] using h.size, fun k hk hne => ?_⟩
  obtain ⟨x, hx⟩ := Option.ne_none_iff_exists'.1 ha
  rw [Below.heap_setCell _ _ _ _ (by have := hne x hx; rw [hb x hx] at this; exact this)]
  exact h.block k hk hne

theorem OnlyAt.trans {a : Option Addr} {w w1 w2 : World} (h : OnlyAt a w w1) (k : OnlyAt a w1 w2) : OnlyAt a w w2 :=
  ⟨k.os.trans h.os, k.tape.trans h.tape, k.output.trans h.output, Nat.le_trans h.size k.size, fun i hi hne => (k.block i (Nat.lt_of_lt_of_le hi h.size) hne).trans (h.block i hi hne)⟩
theorem OnlyAt.of_below {a : Option Addr} {w w' : World} (h : Below w.heap.size w w') : OnlyAt a w w' := ⟨h.os, h.tape, h.output, h.size, fun k hk _ => h.block k hk⟩
theorem OnlyAt.drewN {a : Option Addr} {w w' : World} (h : OnlyAt a w w') (n : Nat) : OnlyAt a w (w'.drewN n) := ⟨h.os, h.tape, h.output, h.size, h.block⟩
theorem OnlyAt.cell {a : Option Addr} {w w' : World} (h : OnlyAt a w w') {b o : Nat} (hb : b < w.heap.size) (hne : ∀ x, a = some x → b ≠ x.block) : w'.cell? ⟨b, o, none⟩ = w.cell? ⟨b, o, none⟩ :=
  World.cell?_of_block (w := w) (h.block b hb hne)

theorem own_form {w : World} {base : Nat} {e : TypeId} {size : Nat} {v : Value} {n : Nat} {xs : List Value} (h : w.ownsRow base e size v n xs) : ∃ a c, v = .slice a n c := by
  obtain ⟨_, h2⟩ := h
  rcases h2 with ⟨rfl, rfl⟩ | ⟨g, cap, cur, hv, _⟩
  · exact ⟨_, _, rfl⟩
  · exact ⟨_, _, hv⟩

/-- The block of a row that the call owns. -/
theorem own_block {w : World} {base : Nat} {e : TypeId} {size : Nat} {a : Option Addr} {n cap : Nat} {xs : List Value} (h : w.ownsRow base e size (.slice a n cap) n xs) : ∀ x, a = some x → base ≤ x.block ∧ x.block < w.heap.size := by
  intro x hx
  obtain ⟨_, h2⟩ := h
  rcases h2 with ⟨h2, _⟩ | ⟨g, cap', cur, hv, hg, hh, _⟩
  · simp at h2
    rw [h2.1] at hx
    cases hx
  · simp only [Value.slice.injEq] at hv
    rw [hv.1] at hx
    cases hx
    refine ⟨hg, ?_⟩
    by_cases hx : g < w.heap.size
    · exact hx
    · rw [Array.getElem?_eq_none (by omega)] at hh; cases hh

theorem own_touch {w w' : World} {base : Nat} {e : TypeId} {size : Nat} {a a' : Option Addr} {n cap : Nat} {xs : List Value} (h : w.ownsRow base e size (.slice a n cap) n xs) (t : OnlyAt a' w w')
    (hne : ∀ x y, a = some x → a' = some y → x.block ≠ y.block) : w'.ownsRow base e size (.slice a n cap) n xs := by
  have hlt := own_block h
  obtain ⟨h1, h2⟩ := h
  refine ⟨h1, ?_⟩
  rcases h2 with h2 | ⟨g, cap', cur, hv, hg, hh, r⟩
  · exact .inl h2
  · refine .inr ⟨g, cap', cur, hv, hg, ?_, r⟩
    simp only [Value.slice.injEq] at hv
    rw [t.block g (hlt _ hv.1).2 (fun y hy => hne _ y hv.1 hy)]
    exact hh

theorem isRow_touch {k : IntKind} {w w' : World} {a a' : Option Addr} {n cap : Nat} {zs : List Int} (h : IsRow k w a n cap zs) (t : OnlyAt a' w w') (hne : ∀ x y, a = some x → a' = some y → x.block ≠ y.block) : IsRow k w' a n cap zs := by
  refine ⟨h.len, h.fits, h.max, h.wf, fun h0 => ?_⟩
  obtain ⟨b, off, ha, hlt, hc⟩ := h.cells h0
  refine ⟨b, off, ha, Nat.lt_of_lt_of_le hlt t.size, fun i hi => ?_⟩
  rw [World.cell?_of_block (w := w) (t.block b hlt (fun y hy => hne _ y ha hy))]
  exact hc i hi

theorem below_touch {B : Nat} {w0 w w' : World} {a : Option Addr} (h : Below B w0 w) (t : OnlyAt a w w') (hB : ∀ x, a = some x → B ≤ x.block) (hs : B ≤ w.heap.size) : Below B w0 w' :=
  h.trans ⟨t.os, t.tape, t.output, t.size, fun k hk => t.block k (by omega) (fun x hx => by have := hB x hx; omega)⟩

def marks (k : Int) (n : Nat) : List Int := (List.range n).map fun (i : Nat) => k + (i : Int)
theorem marks_length (k : Int) (n : Nat) : (marks k n).length = n := by simp [marks]
theorem marks_get (k : Int) (n i : Nat) (h : i < n) : (marks k n).getD i 0 = k + (i : Int) := by simp [marks, List.getD, h]
theorem marks_wf (k : Int) (n : Nat) (h0 : 0 ≤ k) (h1 : k + (n : Int) ≤ 9223372036854775807) : ∀ z ∈ marks k n, (Lit.int .i64 z).wf = true := by
  intro z hz
  simp only [marks, List.mem_map, List.mem_range] at hz
  obtain ⟨i, hi, rfl⟩ := hz
  exact int_wf _ (by omega) (by omega)

theorem mark_part (k0 : Int) (zs : List Int) (n k : Nat) (h : k < n) (hn : zs.length = n) :
    (ints .i64 ((marks k0 n).take k ++ zs.drop k)).set k (.int .i64 (k0 + (k : Int))) = ints .i64 ((marks k0 n).take (k + 1) ++ zs.drop (k + 1)) := by
  have hl : (ints .i64 ((marks k0 n).take k)).length = k := by rw [ints_length, List.length_take, marks_length]; omega
  have e1 : zs.drop k = zs.getD k 0 :: zs.drop (k + 1) := by
    rw [List.drop_eq_getElem_cons (by omega)]
    simp [List.getD, show k < zs.length by omega]
  rw [take_succ_getD (by rw [marks_length]; exact h), marks_get k0 n k h, e1]
  unfold ints at *
  rw [List.map_append, List.set_append_right _ _ (by omega), hl]
  simp


end Go.Proofs.Ytekheacbmbbpmaa.Mem
