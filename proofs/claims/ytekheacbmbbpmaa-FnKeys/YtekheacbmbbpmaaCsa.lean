/-
  Sets of columns as arrays of six: contracts of the program's setOf, united, isWithin, listOf.
-/
import Derived.Test.YtekheacbmbbpmaaCpu
import Derived.Test.YtekheacbmbbpmaaDlk
import Derived.Test.YtekheacbmbbpmaaApp
import Derived.Test.YtekheacbmbbpmaaMis
import Derived.ChangeKeysEq
import Derived.Laws.StructEq
namespace Go.Proofs.Ytekheacbmbbpmaa.Csa
open Go.RowKit
open Go.Proofs.Ytekheacbmbbpmaa.Frame Go.Proofs.Ytekheacbmbbpmaa.Mem Go.Proofs.Ytekheacbmbbpmaa.Ints Go.Proofs.Ytekheacbmbbpmaa.Kep Go.Proofs.Ytekheacbmbbpmaa.Lls Go.Proofs.Ytekheacbmbbpmaa.Mis
open Go.Proofs.Ytekheacbmbbpmaa.Rel hiding Ll
open Go.Proofs.Ytekheacbmbbpmaa.Cpu

abbrev Cs := Nat → Bool
def csv (f : Cs) : Value := .agg #[.bool (f 0), .bool (f 1), .bool (f 2), .bool (f 3), .bool (f 4), .bool (f 5)]
def csc (f : Cs) : Array Value := #[.bool (f 0), .bool (f 1), .bool (f 2), .bool (f 3), .bool (f 4), .bool (f 5)]
def noneS : Cs := fun _ => false
/-- A set lies in a block. -/
def At6 (w : World) (g : Nat) (f : Cs) : Prop := (∀ i, i < 6 → w.cell? ⟨g, i, none⟩ = some (.bool (f i))) ∧ (∀ i, i < 6 → w.frozen? ⟨g, i, none⟩ = false) ∧ g < w.heap.size
theorem At6.cells {w : World} {g : Nat} {f : Cs} (h : At6 w g f) : w.cell? ⟨g, 0, none⟩ = some (.bool (f 0)) ∧ w.cell? ⟨g, 1, none⟩ = some (.bool (f 1)) ∧ w.cell? ⟨g, 2, none⟩ = some (.bool (f 2)) ∧ w.cell? ⟨g, 3, none⟩ = some (.bool (f 3)) ∧ w.cell? ⟨g, 4, none⟩ = some (.bool (f 4)) ∧ w.cell? ⟨g, 5, none⟩ = some (.bool (f 5)) :=
  ⟨h.1 0 (by omega), h.1 1 (by omega), h.1 2 (by omega), h.1 3 (by omega), h.1 4 (by omega), h.1 5 (by omega)⟩
theorem At6.froz {w : World} {g : Nat} {f : Cs} (h : At6 w g f) : w.frozen? ⟨g, 0, none⟩ = false ∧ w.frozen? ⟨g, 1, none⟩ = false ∧ w.frozen? ⟨g, 2, none⟩ = false ∧ w.frozen? ⟨g, 3, none⟩ = false ∧ w.frozen? ⟨g, 4, none⟩ = false ∧ w.frozen? ⟨g, 5, none⟩ = false :=
  ⟨h.2.1 0 (by omega), h.2.1 1 (by omega), h.2.1 2 (by omega), h.2.1 3 (by omega), h.2.1 4 (by omega), h.2.1 5 (by omega)⟩
theorem six {p : Nat → Prop} (h0 : p 0) (h1 : p 1) (h2 : p 2) (h3 : p 3) (h4 : p 4) (h5 : p 5) : ∀ i, i < 6 → p i := fun i hi => by
  match i, hi with
  | 0, _ => exact h0
  | 1, _ => exact h1
  | 2, _ => exact h2
  | 3, _ => exact h3
  | 4, _ => exact h4
  | 5, _ => exact h5
  | n + 6, h => omega
theorem At6.made (w : World) (f : Cs) (t : TypeId) : At6 (w.alloc (.cells #[.bool (f 0), .bool (f 1), .bool (f 2), .bool (f 3), .bool (f 4), .bool (f 5)] t)) w.heap.size f := by
  refine ⟨six ?_ ?_ ?_ ?_ ?_ ?_, fun i _ => World.frozen?_alloc_at _ _ _ _ rfl, by simp⟩ <;> rw [World.cell?_alloc_at _ _ _ _ rfl] <;> rfl
theorem At6.below {w w' : World} {g : Nat} {f : Cs} (h : At6 w g f) (hb : Below w.heap.size w w') : At6 w' g f :=
  ⟨fun i hi => Frame.held_cell hb (h.1 i hi), fun i hi => ((Frame.bcell hb).2.1 g i h.2.2).trans (h.2.1 i hi), Nat.lt_of_lt_of_le h.2.2 hb.size⟩
def setS (f : Cs) (c : Nat) (b : Bool) : Cs := fun i => if i = c then b else f i
theorem At6.set {w : World} {g c : Nat} {f : Cs} (h : At6 w g f) (hc : c < 6) (b : Bool) : At6 (w.setCell ⟨g, c, none⟩ (.bool b)) g (setS f c b) := by
  refine ⟨fun i hi => ?_, fun i hi => by rw [World.frozen?_setCell]; exact h.2.1 i hi, by simpa using h.2.2⟩
  unfold setS
  by_cases e : i = c
  · rw [e, if_pos rfl]; exact World.cell?_setCell_same _ _ _ (h.1 c hc)
  · rw [if_neg e, World.cell?_setCell_other _ _ _ _ (by simp)]; exact h.1 i hi
theorem At6.congr {w : World} {g : Nat} {f f' : Cs} (h : At6 w g f) (e : ∀ i, i < 6 → f i = f' i) : At6 w g f' := ⟨fun i hi => by rw [← e i hi]; exact h.1 i hi, h.2⟩
theorem At6.other {w : World} {g b : Nat} {f : Cs} (h : At6 w g f) (o : Nat) (v : Value) (hb : b ≠ g) : At6 (w.setCell ⟨b, o, none⟩ v) g f :=
  ⟨fun i hi => by rw [World.cell?_setCell_other _ _ _ _ (by simp)]; exact h.1 i hi, fun i hi => by rw [World.frozen?_setCell]; exact h.2.1 i hi, by simpa using h.2.2⟩
theorem Below.set6 {B : Nat} {w w' : World} (h : Below B w w') {g : Nat} (hg : B ≤ g) (v0 v1 v2 v3 v4 v5 : Value) : Below B w ((((((w'.setCell ⟨g, 0, none⟩ v0).setCell ⟨g, 1, none⟩ v1).setCell ⟨g, 2, none⟩ v2).setCell ⟨g, 3, none⟩ v3).setCell ⟨g, 4, none⟩ v4).setCell ⟨g, 5, none⟩ v5) :=
  (((((h.setCell hg _).setCell hg _).setCell hg _).setCell hg _).setCell hg _).setCell hg _
theorem csv_congr {f g : Cs} (h : ∀ i, i < 6 → f i = g i) : csv f = csv g := by
  unfold csv
  rw [h 0 (by omega), h 1 (by omega), h 2 (by omega), h 3 (by omega), h 4 (by omega), h 5 (by omega)]
theorem ret_cs {f g : Cs} (h : ∀ i, i < 6 → f i = g i) : Ending.returned (csv f) = .returned (csv g) := by rw [csv_congr h]

/-- Those in a list. -/
def inS (zs : List Int) : Cs := fun i => decide ((i : Int) ∈ zs)
theorem inS_next {zs : List Int} {k c : Nat} (hk : k < zs.length) (hc : zs.getD k 0 = (c : Int)) : ∀ i, i < 6 → setS (inS (zs.take k)) c true i = inS (zs.take (k + 1)) i := fun i _ => by
  unfold setS inS
  rw [take_succ_getD hk, hc]
  by_cases e : i = c
  · rw [if_pos e, e]; simp
  · rw [if_neg e]
    have : ((i : Int) ∈ zs.take k ++ [(c : Int)]) ↔ (i : Int) ∈ zs.take k := by
      rw [List.mem_append, List.mem_singleton]
      constructor
      · rintro (h | h)
        · exact h
        · omega
      · exact Or.inl
    rw [decide_eq_decide.2 this]

set_option maxRecDepth 4000 in
set_option maxHeartbeats 1600000 in
theorem setOf (a : Option Addr) (n ca : Nat) (zs : List Int) (w : World) (ha : IsRow .i64 w a n ca zs) (hz : ∀ z ∈ zs, 0 ≤ z ∧ z < 6) :
    Calls Try.prog 22 #[.slice a n ca] w fun e w' => e = .returned (csv (inS zs)) ∧ Below w.heap.size w w' := by
  have hmaxn : n ≤ 9223372036854775807 := by have := ha.fits; have := ha.max; unfold maxLen at *; omega
  have HL : Hid (zs.length = n) := ha.len
  have HI : Hid (IsRow .i64 w a n ca zs) := ha
  have HZ : Hid (∀ z ∈ zs, 0 ≤ z ∧ z < 6) := hz
  clear ha hz
  go_enter Try.func22, Try.ntmps22
  go_wp2_with fail
  go_loopw [9] (fun i wr => ∃ k : Nat, k ≤ n ∧ i = .int .i64 k ∧ At6 wr (w.heap.size + 1) (inS (zs.take k)) ∧ At6 wr w.heap.size noneS ∧ Below w.heap.size w wr) (fun i _ => n - (intOf i).toNat)
  case atStart =>
    have h1 := At6.made (w.alloc (.cells #[.bool false, .bool false, .bool false, .bool false, .bool false, .bool false] 48)) noneS 48
    rw [show (w.alloc (.cells #[.bool false, .bool false, .bool false, .bool false, .bool false, .bool false] 48)).heap.size = w.heap.size + 1 by simp] at h1
    refine ⟨0, Nat.zero_le _, rfl, h1.congr (fun i _ => by simp [noneS, inS]), ?_, ((Below.refl _ _).alloc (Nat.le_refl _) _).alloc (by simp) _⟩
    exact (At6.made w noneS 48).below ((Below.refl _ _).alloc (Nat.le_refl _) _)
  case round =>
    obtain ⟨k, hk, rfl, h1, h0, hnx⟩ := hrel
    have HN : Hid (Below w.heap.size w wr) := hnx
    have H1 : Hid (At6 wr (w.heap.size + 1) (inS (zs.take k))) := h1
    have H0 : Hid (At6 wr w.heap.size noneS) := h0
    by_cases hlt : k < n
    · obtain ⟨b, off, rfl, hbl, hc⟩ := HI.out.cells (by omega)
      have hkl : k < zs.length := by rw [HL.out]; exact hlt
      have hzb := HZ.out _ (getD_mem hkl)
      obtain ⟨c, hce⟩ : ∃ c : Nat, zs.getD k 0 = (c : Int) := ⟨(zs.getD k 0).toNat, by omega⟩
      have hck : wr.cell? ⟨b, off + k, none⟩ = some (.int .i64 (c : Int)) := by rw [← hce, hnx.cell (p := ⟨b, off + k, none⟩) hbl]; exact hc k hlt
      have hc6 : c < 6 := by omega
      have hcI : (c : Int) < 6 := by omega
      have q0 := h1.1 c hc6
      have f0 := h1.2.1 c hc6
      have F : Hid (At6 (wr.setCell ⟨w.heap.size + 1, c, none⟩ (.bool true)) (w.heap.size + 1) (inS (zs.take (k + 1)))) := (h1.set hc6 true).congr (inS_next hkl hce)
      have G : Hid (At6 (wr.setCell ⟨w.heap.size + 1, c, none⟩ (.bool true)) w.heap.size noneS) := h0.other _ _ (by omega)
      clear hc hbl hkl hzb hce h1 h0 hnx
      go_wp2
      go_roundw
      case rel => exact ⟨k + 1, by omega, by go_num, F.out, G.out, HN.out.setCell (by show w.heap.size ≤ w.heap.size + 1; omega) _⟩
      case measure => simp [intOf]; omega
    · have e : zs.take k = zs := List.take_of_length_le (by rw [HL.out]; omega)
      rw [e] at h1
      obtain ⟨c0, c1, c2, c3, c4, c5⟩ := h1.cells
      obtain ⟨d0, d1, d2, d3, d4, d5⟩ := h0.cells
      obtain ⟨f0, f1, f2, f3, f4, f5⟩ := h0.froz
      clear h1 h0 hnx e H1 H0
      go_wp2
      refine bodyPost_ret (v := csv (inS zs)) (by simp [results, Try.results22, go_sem, csv, d0, d1, d2, d3, d4, d5]) rfl ?_
      exact ⟨rfl, Below.set6 HN.out (Nat.le_refl _) _ _ _ _ _ _⟩

theorem index_cs0 (a b c d e f : Value) : ∀ w, (Instr.index 48 (.agg #[a, b, c, d, e, f]) (.int .i64 0)).run Try.prog w = .ok a w := fun _ => by kernel_rfl
theorem index_cs1 (a b c d e f : Value) : ∀ w, (Instr.index 48 (.agg #[a, b, c, d, e, f]) (.int .i64 1)).run Try.prog w = .ok b w := fun _ => by kernel_rfl
theorem index_cs2 (a b c d e f : Value) : ∀ w, (Instr.index 48 (.agg #[a, b, c, d, e, f]) (.int .i64 2)).run Try.prog w = .ok c w := fun _ => by kernel_rfl
theorem index_cs3 (a b c d e f : Value) : ∀ w, (Instr.index 48 (.agg #[a, b, c, d, e, f]) (.int .i64 3)).run Try.prog w = .ok d w := fun _ => by kernel_rfl
theorem index_cs4 (a b c d e f : Value) : ∀ w, (Instr.index 48 (.agg #[a, b, c, d, e, f]) (.int .i64 4)).run Try.prog w = .ok e w := fun _ => by kernel_rfl
theorem index_cs5 (a b c d e f : Value) : ∀ w, (Instr.index 48 (.agg #[a, b, c, d, e, f]) (.int .i64 5)).run Try.prog w = .ok f w := fun _ => by kernel_rfl

/-- Both together. -/
def orS (f g : Cs) : Cs := fun i => f i || g i
def mixS (f g : Cs) (k : Nat) : Cs := fun i => if i < k then f i || g i else f i
theorem mix_next (f g : Cs) (k : Nat) : ∀ i, i < 6 → setS (mixS f g k) k (f k || g k) i = mixS f g (k + 1) i := fun i _ => by
  unfold setS mixS
  by_cases e : i = k
  · rw [if_pos e, if_pos (by omega), e]
  · rw [if_neg e]
    by_cases h : i < k
    · rw [if_pos h, if_pos (by omega)]
    · rw [if_neg h, if_neg (by omega)]
def b6 (f : Cs) : Obj := .cells #[.bool (f 0), .bool (f 1), .bool (f 2), .bool (f 3), .bool (f 4), .bool (f 5)] 48

set_option maxRecDepth 4000 in
set_option maxHeartbeats 3200000 in
theorem united (f g : Cs) (w : World) :
    Calls Try.prog 46 #[.agg #[.bool (f 0), .bool (f 1), .bool (f 2), .bool (f 3), .bool (f 4), .bool (f 5)], .agg #[.bool (g 0), .bool (g 1), .bool (g 2), .bool (g 3), .bool (g 4), .bool (g 5)]] w fun e w' => e = .returned (csv (orS f g)) ∧ Below w.heap.size w w' := by
  have A1 : Hid (At6 (((w.alloc (b6 f)).alloc (b6 g)).alloc (b6 noneS)) w.heap.size f) := ((At6.made w f 48).below ((Below.refl _ _).alloc (Nat.le_refl _) _)).below ((Below.refl _ _).alloc (Nat.le_refl _) _)
  have A3 : Hid (At6 (((w.alloc (b6 f)).alloc (b6 g)).alloc (b6 noneS)) (w.heap.size + 1 + 1) noneS) := by
    have h1 := At6.made ((w.alloc (b6 f)).alloc (b6 g)) noneS 48
    rw [show ((w.alloc (b6 f)).alloc (b6 g)).heap.size = w.heap.size + 1 + 1 by simp] at h1
    exact h1
  have B3 : Hid (Below w.heap.size w (((w.alloc (b6 f)).alloc (b6 g)).alloc (b6 noneS))) := (((Below.refl _ _).alloc (Nat.le_refl _) _).alloc (by simp) _).alloc (by simp; omega) _
  go_enter Try.func46, Try.ntmps46
  go_wp2_with fail
  go_loopw [8] (fun i wr => ∃ k : Nat, k ≤ 6 ∧ i = .int .i64 k ∧ At6 wr w.heap.size (mixS f g k) ∧ At6 wr (w.heap.size + 1 + 1) noneS ∧ Below w.heap.size w wr) (fun i _ => 6 - (intOf i).toNat)
  case atStart => exact ⟨0, by omega, rfl, A1.out.congr (fun i _ => by simp [mixS]), A3.out, B3.out⟩
  case round =>
    obtain ⟨k, hk, rfl, h1, h0, hnx⟩ := hrel
    have HN : Hid (Below w.heap.size w wr) := hnx
    clear A1 A3 B3
    by_cases hlt : k < 6
    · have q0 : wr.cell? ⟨w.heap.size, k, none⟩ = some (.bool (f k)) := by have := h1.1 k hlt; rwa [show mixS f g k k = f k by simp [mixS]] at this
      have f0 := h1.2.1 k hlt
      have F : Hid (At6 (wr.setCell ⟨w.heap.size, k, none⟩ (.bool (f k || g k))) w.heap.size (mixS f g (k + 1))) := (h1.set hlt _).congr (mix_next f g k)
      have G : Hid (At6 (wr.setCell ⟨w.heap.size, k, none⟩ (.bool (f k || g k))) (w.heap.size + 1 + 1) noneS) := h0.other _ _ (by omega)
      clear h1 h0 hnx
      obtain rfl | rfl | rfl | rfl | rfl | rfl : k = 0 ∨ k = 1 ∨ k = 2 ∨ k = 3 ∨ k = 4 ∨ k = 5 := by omega
      · have ix := index_cs0 (.bool (g 0)) (.bool (g 1)) (.bool (g 2)) (.bool (g 3)) (.bool (g 4)) (.bool (g 5))
        generalize f 0 = x at q0 F G
        cases x
        · have F' : Hid (At6 (wr.setCell ⟨w.heap.size, 0, none⟩ (.bool (g 0))) w.heap.size (mixS f g 1)) := F.out
          have G' : Hid (At6 (wr.setCell ⟨w.heap.size, 0, none⟩ (.bool (g 0))) (w.heap.size + 1 + 1) noneS) := G.out
          clear F G
          go_wp2
          go_roundw
          case rel => exact ⟨1, by omega, by go_num, F'.out, G'.out, HN.out.setCell (Nat.le_refl _) _⟩
          case measure => simp [intOf]
        · have F' : Hid (At6 (wr.setCell ⟨w.heap.size, 0, none⟩ (.bool (true))) w.heap.size (mixS f g 1)) := F.out
          have G' : Hid (At6 (wr.setCell ⟨w.heap.size, 0, none⟩ (.bool (true))) (w.heap.size + 1 + 1) noneS) := G.out
          clear F G
          go_wp2
          go_roundw
          case rel => exact ⟨1, by omega, by go_num, F'.out, G'.out, HN.out.setCell (Nat.le_refl _) _⟩
          case measure => simp [intOf]
      · have ix := index_cs1 (.bool (g 0)) (.bool (g 1)) (.bool (g 2)) (.bool (g 3)) (.bool (g 4)) (.bool (g 5))
        generalize f 1 = x at q0 F G
        cases x
        · have F' : Hid (At6 (wr.setCell ⟨w.heap.size, 1, none⟩ (.bool (g 1))) w.heap.size (mixS f g 2)) := F.out
          have G' : Hid (At6 (wr.setCell ⟨w.heap.size, 1, none⟩ (.bool (g 1))) (w.heap.size + 1 + 1) noneS) := G.out
          clear F G
          go_wp2
          go_roundw
          case rel => exact ⟨2, by omega, by go_num, F'.out, G'.out, HN.out.setCell (Nat.le_refl _) _⟩
          case measure => simp [intOf]
        · have F' : Hid (At6 (wr.setCell ⟨w.heap.size, 1, none⟩ (.bool (true))) w.heap.size (mixS f g 2)) := F.out
          have G' : Hid (At6 (wr.setCell ⟨w.heap.size, 1, none⟩ (.bool (true))) (w.heap.size + 1 + 1) noneS) := G.out
          clear F G
          go_wp2
          go_roundw
          case rel => exact ⟨2, by omega, by go_num, F'.out, G'.out, HN.out.setCell (Nat.le_refl _) _⟩
          case measure => simp [intOf]
      · have ix := index_cs2 (.bool (g 0)) (.bool (g 1)) (.bool (g 2)) (.bool (g 3)) (.bool (g 4)) (.bool (g 5))
        generalize f 2 = x at q0 F G
        cases x
        · have F' : Hid (At6 (wr.setCell ⟨w.heap.size, 2, none⟩ (.bool (g 2))) w.heap.size (mixS f g 3)) := F.out
          have G' : Hid (At6 (wr.setCell ⟨w.heap.size, 2, none⟩ (.bool (g 2))) (w.heap.size + 1 + 1) noneS) := G.out
          clear F G
          go_wp2
          go_roundw
          case rel => exact ⟨3, by omega, by go_num, F'.out, G'.out, HN.out.setCell (Nat.le_refl _) _⟩
          case measure => simp [intOf]
        · have F' : Hid (At6 (wr.setCell ⟨w.heap.size, 2, none⟩ (.bool (true))) w.heap.size (mixS f g 3)) := F.out
          have G' : Hid (At6 (wr.setCell ⟨w.heap.size, 2, none⟩ (.bool (true))) (w.heap.size + 1 + 1) noneS) := G.out
          clear F G
          go_wp2
          go_roundw
          case rel => exact ⟨3, by omega, by go_num, F'.out, G'.out, HN.out.setCell (Nat.le_refl _) _⟩
          case measure => simp [intOf]
      · have ix := index_cs3 (.bool (g 0)) (.bool (g 1)) (.bool (g 2)) (.bool (g 3)) (.bool (g 4)) (.bool (g 5))
        generalize f 3 = x at q0 F G
        cases x
        · have F' : Hid (At6 (wr.setCell ⟨w.heap.size, 3, none⟩ (.bool (g 3))) w.heap.size (mixS f g 4)) := F.out
          have G' : Hid (At6 (wr.setCell ⟨w.heap.size, 3, none⟩ (.bool (g 3))) (w.heap.size + 1 + 1) noneS) := G.out
          clear F G
          go_wp2
          go_roundw
          case rel => exact ⟨4, by omega, by go_num, F'.out, G'.out, HN.out.setCell (Nat.le_refl _) _⟩
          case measure => simp [intOf]
        · have F' : Hid (At6 (wr.setCell ⟨w.heap.size, 3, none⟩ (.bool (true))) w.heap.size (mixS f g 4)) := F.out
          have G' : Hid (At6 (wr.setCell ⟨w.heap.size, 3, none⟩ (.bool (true))) (w.heap.size + 1 + 1) noneS) := G.out
          clear F G
          go_wp2
          go_roundw
          case rel => exact ⟨4, by omega, by go_num, F'.out, G'.out, HN.out.setCell (Nat.le_refl _) _⟩
          case measure => simp [intOf]
      · have ix := index_cs4 (.bool (g 0)) (.bool (g 1)) (.bool (g 2)) (.bool (g 3)) (.bool (g 4)) (.bool (g 5))
        generalize f 4 = x at q0 F G
        cases x
        · have F' : Hid (At6 (wr.setCell ⟨w.heap.size, 4, none⟩ (.bool (g 4))) w.heap.size (mixS f g 5)) := F.out
          have G' : Hid (At6 (wr.setCell ⟨w.heap.size, 4, none⟩ (.bool (g 4))) (w.heap.size + 1 + 1) noneS) := G.out
          clear F G
          go_wp2
          go_roundw
          case rel => exact ⟨5, by omega, by go_num, F'.out, G'.out, HN.out.setCell (Nat.le_refl _) _⟩
          case measure => simp [intOf]
        · have F' : Hid (At6 (wr.setCell ⟨w.heap.size, 4, none⟩ (.bool (true))) w.heap.size (mixS f g 5)) := F.out
          have G' : Hid (At6 (wr.setCell ⟨w.heap.size, 4, none⟩ (.bool (true))) (w.heap.size + 1 + 1) noneS) := G.out
          clear F G
          go_wp2
          go_roundw
          case rel => exact ⟨5, by omega, by go_num, F'.out, G'.out, HN.out.setCell (Nat.le_refl _) _⟩
          case measure => simp [intOf]
      · have ix := index_cs5 (.bool (g 0)) (.bool (g 1)) (.bool (g 2)) (.bool (g 3)) (.bool (g 4)) (.bool (g 5))
        generalize f 5 = x at q0 F G
        cases x
        · have F' : Hid (At6 (wr.setCell ⟨w.heap.size, 5, none⟩ (.bool (g 5))) w.heap.size (mixS f g 6)) := F.out
          have G' : Hid (At6 (wr.setCell ⟨w.heap.size, 5, none⟩ (.bool (g 5))) (w.heap.size + 1 + 1) noneS) := G.out
          clear F G
          go_wp2
          go_roundw
          case rel => exact ⟨6, by omega, by go_num, F'.out, G'.out, HN.out.setCell (Nat.le_refl _) _⟩
          case measure => simp [intOf]
        · have F' : Hid (At6 (wr.setCell ⟨w.heap.size, 5, none⟩ (.bool (true))) w.heap.size (mixS f g 6)) := F.out
          have G' : Hid (At6 (wr.setCell ⟨w.heap.size, 5, none⟩ (.bool (true))) (w.heap.size + 1 + 1) noneS) := G.out
          clear F G
          go_wp2
          go_roundw
          case rel => exact ⟨6, by omega, by go_num, F'.out, G'.out, HN.out.setCell (Nat.le_refl _) _⟩
          case measure => simp [intOf]
    · obtain rfl : k = 6 := by omega
      have e : At6 wr w.heap.size (orS f g) := h1.congr (fun i hi => by simp [mixS, orS, hi])
      obtain ⟨c0, c1, c2, c3, c4, c5⟩ := e.cells
      obtain ⟨d0, d1, d2, d3, d4, d5⟩ := h0.cells
      obtain ⟨f0, f1, f2, f3, f4, f5⟩ := h0.froz
      clear h1 h0 hnx e
      go_wp2
      refine bodyPost_ret (v := csv (orS f g)) (by simp [results, Try.results46, go_sem, csv, d0, d1, d2, d3, d4, d5]) rfl ?_
      exact ⟨rfl, Below.set6 HN.out (by omega) _ _ _ _ _ _⟩


end Go.Proofs.Ytekheacbmbbpmaa.Csa
