/-
  Sets of columns: what is in both, what is in one and not in the other: contracts of the program's inBoth and without; two sets that are not the same.
-/
import Derived.Test.YtbeielafbegflaaCsb
namespace Go.Proofs.Ytbeielafbegflaa.Csg
open Go.RowKit
open Go.Proofs.Ytbeielafbegflaa.Frame Go.Proofs.Ytbeielafbegflaa.Mem Go.Proofs.Ytbeielafbegflaa.Ints Go.Proofs.Ytbeielafbegflaa.Kep Go.Proofs.Ytbeielafbegflaa.Lls Go.Proofs.Ytbeielafbegflaa.Mis Go.Proofs.Ytbeielafbegflaa.Csa Go.Proofs.Ytbeielafbegflaa.Csb
open Go.Proofs.Ytbeielafbegflaa.Rel hiding Ll
open Go.Proofs.Ytbeielafbegflaa.Cpu

theorem neq_cs (f g : Cs) (w : World) : (binOp .neq 71 (.agg #[.bool (f 0), .bool (f 1), .bool (f 2), .bool (f 3), .bool (f 4), .bool (f 5)]) (.agg #[.bool (g 0), .bool (g 1), .bool (g 2), .bool (g 3), .bool (g 4), .bool (g 5)])).run Try.prog w = .ok (.bool (!sameS f g)) w := by
  obtain ⟨i0, hi, _, _, _⟩ := info_parts infoB
  have hu : Try.prog.underlying 71 = some (.array 6 4) := by kernel_rfl
  have hc : Try.prog.cellsOf 4 = 1 := by kernel_rfl
  rw [run_neq_struct, show (10000 : Nat) = 9999 + 1 from rfl, run_equalIn_array w 9999 _ _ hu hi, hc, show (9999 : Nat) = 9998 + 1 from rfl,
    items (f := f) (g := g) (by kernel_rfl) (by kernel_rfl) _ _ (Csa.six rfl rfl rfl rfl rfl rfl) (Csa.six rfl rfl rfl rfl rfl rfl) w (List.range 6) (fun i hi => List.mem_range.1 hi)]
  rfl

def andS (f g : Cs) : Cs := fun i => f i && g i
def andTo (f g : Cs) (k : Nat) : Cs := fun i => if i < k then f i && g i else f i
theorem and_next (f g : Cs) (k : Nat) : ∀ i, i < 6 → setS (andTo f g k) k (f k && g k) i = andTo f g (k + 1) i := fun i _ => by
  unfold setS andTo
  by_cases e : i = k
  · rw [if_pos e, if_pos (by omega), e]
  · rw [if_neg e]
    by_cases h : i < k
    · rw [if_pos h, if_pos (by omega)]
    · rw [if_neg h, if_neg (by omega)]

set_option maxRecDepth 4000 in
set_option maxHeartbeats 3200000 in
theorem inBoth (f g : Cs) (w : World) :
    Calls Try.prog 59 #[.agg #[.bool (f 0), .bool (f 1), .bool (f 2), .bool (f 3), .bool (f 4), .bool (f 5)], .agg #[.bool (g 0), .bool (g 1), .bool (g 2), .bool (g 3), .bool (g 4), .bool (g 5)]] w fun e w' => e = .returned (csv (andS f g)) ∧ Below w.heap.size w w' := by
  have A1 : Hid (At6 (((w.alloc (b6 f)).alloc (b6 g)).alloc (b6 noneS)) w.heap.size f) := ((At6.made w f 71).below ((Below.refl _ _).alloc (Nat.le_refl _) _)).below ((Below.refl _ _).alloc (Nat.le_refl _) _)
  have A3 : Hid (At6 (((w.alloc (b6 f)).alloc (b6 g)).alloc (b6 noneS)) (w.heap.size + 1 + 1) noneS) := by
    have h1 := At6.made ((w.alloc (b6 f)).alloc (b6 g)) noneS 71
    rw [show ((w.alloc (b6 f)).alloc (b6 g)).heap.size = w.heap.size + 1 + 1 by simp] at h1
    exact h1
  have B3 : Hid (Below w.heap.size w (((w.alloc (b6 f)).alloc (b6 g)).alloc (b6 noneS))) := (((Below.refl _ _).alloc (Nat.le_refl _) _).alloc (by simp) _).alloc (by simp; omega) _
  go_enter Try.func59, Try.ntmps59
  go_wp2_with fail
  go_loopw [8] (fun i wr => ∃ k : Nat, k ≤ 6 ∧ i = .int .i64 k ∧ At6 wr w.heap.size (andTo f g k) ∧ At6 wr (w.heap.size + 1 + 1) noneS ∧ Below w.heap.size w wr) (fun i _ => 6 - (intOf i).toNat)
  case atStart => exact ⟨0, by omega, rfl, A1.out.congr (fun i _ => by simp [andTo]), A3.out, B3.out⟩
  case round =>
    obtain ⟨k, hk, rfl, h1, h0, hnx⟩ := hrel
    have HN : Hid (Below w.heap.size w wr) := hnx
    clear A1 A3 B3
    by_cases hlt : k < 6
    · have q0 : wr.cell? ⟨w.heap.size, k, none⟩ = some (.bool (f k)) := by have := h1.1 k hlt; rwa [show andTo f g k k = f k by simp [andTo]] at this
      have f0 := h1.2.1 k hlt
      have F : Hid (At6 (wr.setCell ⟨w.heap.size, k, none⟩ (.bool (f k && g k))) w.heap.size (andTo f g (k + 1))) := (h1.set hlt _).congr (and_next f g k)
      have G : Hid (At6 (wr.setCell ⟨w.heap.size, k, none⟩ (.bool (f k && g k))) (w.heap.size + 1 + 1) noneS) := h0.other _ _ (by omega)
      clear h1 h0 hnx
      obtain rfl | rfl | rfl | rfl | rfl | rfl : k = 0 ∨ k = 1 ∨ k = 2 ∨ k = 3 ∨ k = 4 ∨ k = 5 := by omega
      · have ix := index_cs0 (.bool (g 0)) (.bool (g 1)) (.bool (g 2)) (.bool (g 3)) (.bool (g 4)) (.bool (g 5))
        generalize f 0 = x at q0 F G
        cases x
        · have F' : Hid (At6 (wr.setCell ⟨w.heap.size, 0, none⟩ (.bool false)) w.heap.size (andTo f g 1)) := F.out
          have G' : Hid (At6 (wr.setCell ⟨w.heap.size, 0, none⟩ (.bool false)) (w.heap.size + 1 + 1) noneS) := G.out
          clear F G
          go_wp2
          go_roundw
          case rel => exact ⟨1, by omega, by go_num, F'.out, G'.out, HN.out.setCell (Nat.le_refl _) _⟩
          case measure => simp [intOf]
        · have F' : Hid (At6 (wr.setCell ⟨w.heap.size, 0, none⟩ (.bool (g 0))) w.heap.size (andTo f g 1)) := F.out
          have G' : Hid (At6 (wr.setCell ⟨w.heap.size, 0, none⟩ (.bool (g 0))) (w.heap.size + 1 + 1) noneS) := G.out
          clear F G
          go_wp2
          go_roundw
          case rel => exact ⟨1, by omega, by go_num, F'.out, G'.out, HN.out.setCell (Nat.le_refl _) _⟩
          case measure => simp [intOf]
      · have ix := index_cs1 (.bool (g 0)) (.bool (g 1)) (.bool (g 2)) (.bool (g 3)) (.bool (g 4)) (.bool (g 5))
        generalize f 1 = x at q0 F G
        cases x
        · have F' : Hid (At6 (wr.setCell ⟨w.heap.size, 1, none⟩ (.bool false)) w.heap.size (andTo f g 2)) := F.out
          have G' : Hid (At6 (wr.setCell ⟨w.heap.size, 1, none⟩ (.bool false)) (w.heap.size + 1 + 1) noneS) := G.out
          clear F G
          go_wp2
          go_roundw
          case rel => exact ⟨2, by omega, by go_num, F'.out, G'.out, HN.out.setCell (Nat.le_refl _) _⟩
          case measure => simp [intOf]
        · have F' : Hid (At6 (wr.setCell ⟨w.heap.size, 1, none⟩ (.bool (g 1))) w.heap.size (andTo f g 2)) := F.out
          have G' : Hid (At6 (wr.setCell ⟨w.heap.size, 1, none⟩ (.bool (g 1))) (w.heap.size + 1 + 1) noneS) := G.out
          clear F G
          go_wp2
          go_roundw
          case rel => exact ⟨2, by omega, by go_num, F'.out, G'.out, HN.out.setCell (Nat.le_refl _) _⟩
          case measure => simp [intOf]
      · have ix := index_cs2 (.bool (g 0)) (.bool (g 1)) (.bool (g 2)) (.bool (g 3)) (.bool (g 4)) (.bool (g 5))
        generalize f 2 = x at q0 F G
        cases x
        · have F' : Hid (At6 (wr.setCell ⟨w.heap.size, 2, none⟩ (.bool false)) w.heap.size (andTo f g 3)) := F.out
          have G' : Hid (At6 (wr.setCell ⟨w.heap.size, 2, none⟩ (.bool false)) (w.heap.size + 1 + 1) noneS) := G.out
          clear F G
          go_wp2
          go_roundw
          case rel => exact ⟨3, by omega, by go_num, F'.out, G'.out, HN.out.setCell (Nat.le_refl _) _⟩
          case measure => simp [intOf]
        · have F' : Hid (At6 (wr.setCell ⟨w.heap.size, 2, none⟩ (.bool (g 2))) w.heap.size (andTo f g 3)) := F.out
          have G' : Hid (At6 (wr.setCell ⟨w.heap.size, 2, none⟩ (.bool (g 2))) (w.heap.size + 1 + 1) noneS) := G.out
          clear F G
          go_wp2
          go_roundw
          case rel => exact ⟨3, by omega, by go_num, F'.out, G'.out, HN.out.setCell (Nat.le_refl _) _⟩
          case measure => simp [intOf]
      · have ix := index_cs3 (.bool (g 0)) (.bool (g 1)) (.bool (g 2)) (.bool (g 3)) (.bool (g 4)) (.bool (g 5))
        generalize f 3 = x at q0 F G
        cases x
        · have F' : Hid (At6 (wr.setCell ⟨w.heap.size, 3, none⟩ (.bool false)) w.heap.size (andTo f g 4)) := F.out
          have G' : Hid (At6 (wr.setCell ⟨w.heap.size, 3, none⟩ (.bool false)) (w.heap.size + 1 + 1) noneS) := G.out
          clear F G
          go_wp2
          go_roundw
          case rel => exact ⟨4, by omega, by go_num, F'.out, G'.out, HN.out.setCell (Nat.le_refl _) _⟩
          case measure => simp [intOf]
        · have F' : Hid (At6 (wr.setCell ⟨w.heap.size, 3, none⟩ (.bool (g 3))) w.heap.size (andTo f g 4)) := F.out
          have G' : Hid (At6 (wr.setCell ⟨w.heap.size, 3, none⟩ (.bool (g 3))) (w.heap.size + 1 + 1) noneS) := G.out
          clear F G
          go_wp2
          go_roundw
          case rel => exact ⟨4, by omega, by go_num, F'.out, G'.out, HN.out.setCell (Nat.le_refl _) _⟩
          case measure => simp [intOf]
      · have ix := index_cs4 (.bool (g 0)) (.bool (g 1)) (.bool (g 2)) (.bool (g 3)) (.bool (g 4)) (.bool (g 5))
        generalize f 4 = x at q0 F G
        cases x
        · have F' : Hid (At6 (wr.setCell ⟨w.heap.size, 4, none⟩ (.bool false)) w.heap.size (andTo f g 5)) := F.out
          have G' : Hid (At6 (wr.setCell ⟨w.heap.size, 4, none⟩ (.bool false)) (w.heap.size + 1 + 1) noneS) := G.out
          clear F G
          go_wp2
          go_roundw
          case rel => exact ⟨5, by omega, by go_num, F'.out, G'.out, HN.out.setCell (Nat.le_refl _) _⟩
          case measure => simp [intOf]
        · have F' : Hid (At6 (wr.setCell ⟨w.heap.size, 4, none⟩ (.bool (g 4))) w.heap.size (andTo f g 5)) := F.out
          have G' : Hid (At6 (wr.setCell ⟨w.heap.size, 4, none⟩ (.bool (g 4))) (w.heap.size + 1 + 1) noneS) := G.out
          clear F G
          go_wp2
          go_roundw
          case rel => exact ⟨5, by omega, by go_num, F'.out, G'.out, HN.out.setCell (Nat.le_refl _) _⟩
          case measure => simp [intOf]
      · have ix := index_cs5 (.bool (g 0)) (.bool (g 1)) (.bool (g 2)) (.bool (g 3)) (.bool (g 4)) (.bool (g 5))
        generalize f 5 = x at q0 F G
        cases x
        · have F' : Hid (At6 (wr.setCell ⟨w.heap.size, 5, none⟩ (.bool false)) w.heap.size (andTo f g 6)) := F.out
          have G' : Hid (At6 (wr.setCell ⟨w.heap.size, 5, none⟩ (.bool false)) (w.heap.size + 1 + 1) noneS) := G.out
          clear F G
          go_wp2
          go_roundw
          case rel => exact ⟨6, by omega, by go_num, F'.out, G'.out, HN.out.setCell (Nat.le_refl _) _⟩
          case measure => simp [intOf]
        · have F' : Hid (At6 (wr.setCell ⟨w.heap.size, 5, none⟩ (.bool (g 5))) w.heap.size (andTo f g 6)) := F.out
          have G' : Hid (At6 (wr.setCell ⟨w.heap.size, 5, none⟩ (.bool (g 5))) (w.heap.size + 1 + 1) noneS) := G.out
          clear F G
          go_wp2
          go_roundw
          case rel => exact ⟨6, by omega, by go_num, F'.out, G'.out, HN.out.setCell (Nat.le_refl _) _⟩
          case measure => simp [intOf]
    · obtain rfl : k = 6 := by omega
      have e : At6 wr w.heap.size (andS f g) := h1.congr (fun i hi => by simp [andTo, andS, hi])
      obtain ⟨c0, c1, c2, c3, c4, c5⟩ := e.cells
      obtain ⟨d0, d1, d2, d3, d4, d5⟩ := h0.cells
      obtain ⟨f0, f1, f2, f3, f4, f5⟩ := h0.froz
      clear h1 h0 hnx e
      go_wp2
      refine bodyPost_ret (v := csv (andS f g)) (by simp [results, Try.results59, go_sem, csv, d0, d1, d2, d3, d4, d5]) rfl ?_
      exact ⟨rfl, Below.set6 HN.out (by omega) _ _ _ _ _ _⟩

def lessS (f g : Cs) : Cs := fun i => f i && !g i
def lessTo (f g : Cs) (k : Nat) : Cs := fun i => if i < k then f i && !g i else f i
theorem less_next (f g : Cs) (k : Nat) : ∀ i, i < 6 → setS (lessTo f g k) k (f k && !g k) i = lessTo f g (k + 1) i := fun i _ => by
  unfold setS lessTo
  by_cases e : i = k
  · rw [if_pos e, if_pos (by omega), e]
  · rw [if_neg e]
    by_cases h : i < k
    · rw [if_pos h, if_pos (by omega)]
    · rw [if_neg h, if_neg (by omega)]

set_option maxRecDepth 4000 in
set_option maxHeartbeats 3200000 in
theorem without (f g : Cs) (w : World) :
    Calls Try.prog 60 #[.agg #[.bool (f 0), .bool (f 1), .bool (f 2), .bool (f 3), .bool (f 4), .bool (f 5)], .agg #[.bool (g 0), .bool (g 1), .bool (g 2), .bool (g 3), .bool (g 4), .bool (g 5)]] w fun e w' => e = .returned (csv (lessS f g)) ∧ Below w.heap.size w w' := by
  have A1 : Hid (At6 (((w.alloc (b6 f)).alloc (b6 g)).alloc (b6 noneS)) w.heap.size f) := ((At6.made w f 71).below ((Below.refl _ _).alloc (Nat.le_refl _) _)).below ((Below.refl _ _).alloc (Nat.le_refl _) _)
  have A3 : Hid (At6 (((w.alloc (b6 f)).alloc (b6 g)).alloc (b6 noneS)) (w.heap.size + 1 + 1) noneS) := by
    have h1 := At6.made ((w.alloc (b6 f)).alloc (b6 g)) noneS 71
    rw [show ((w.alloc (b6 f)).alloc (b6 g)).heap.size = w.heap.size + 1 + 1 by simp] at h1
    exact h1
  have B3 : Hid (Below w.heap.size w (((w.alloc (b6 f)).alloc (b6 g)).alloc (b6 noneS))) := (((Below.refl _ _).alloc (Nat.le_refl _) _).alloc (by simp) _).alloc (by simp; omega) _
  go_enter Try.func60, Try.ntmps60
  go_wp2_with fail
  go_loopw [8] (fun i wr => ∃ k : Nat, k ≤ 6 ∧ i = .int .i64 k ∧ At6 wr w.heap.size (lessTo f g k) ∧ At6 wr (w.heap.size + 1 + 1) noneS ∧ Below w.heap.size w wr) (fun i _ => 6 - (intOf i).toNat)
  case atStart => exact ⟨0, by omega, rfl, A1.out.congr (fun i _ => by simp [lessTo]), A3.out, B3.out⟩
  case round =>
    obtain ⟨k, hk, rfl, h1, h0, hnx⟩ := hrel
    have HN : Hid (Below w.heap.size w wr) := hnx
    clear A1 A3 B3
    by_cases hlt : k < 6
    · have q0 : wr.cell? ⟨w.heap.size, k, none⟩ = some (.bool (f k)) := by have := h1.1 k hlt; rwa [show lessTo f g k k = f k by simp [lessTo]] at this
      have f0 := h1.2.1 k hlt
      have F : Hid (At6 (wr.setCell ⟨w.heap.size, k, none⟩ (.bool (f k && !g k))) w.heap.size (lessTo f g (k + 1))) := (h1.set hlt _).congr (less_next f g k)
      have G : Hid (At6 (wr.setCell ⟨w.heap.size, k, none⟩ (.bool (f k && !g k))) (w.heap.size + 1 + 1) noneS) := h0.other _ _ (by omega)
      clear h1 h0 hnx
      obtain rfl | rfl | rfl | rfl | rfl | rfl : k = 0 ∨ k = 1 ∨ k = 2 ∨ k = 3 ∨ k = 4 ∨ k = 5 := by omega
      · have ix := index_cs0 (.bool (g 0)) (.bool (g 1)) (.bool (g 2)) (.bool (g 3)) (.bool (g 4)) (.bool (g 5))
        generalize f 0 = x at q0 F G
        cases x
        · have F' : Hid (At6 (wr.setCell ⟨w.heap.size, 0, none⟩ (.bool false)) w.heap.size (lessTo f g 1)) := F.out
          have G' : Hid (At6 (wr.setCell ⟨w.heap.size, 0, none⟩ (.bool false)) (w.heap.size + 1 + 1) noneS) := G.out
          clear F G
          go_wp2
          go_roundw
          case rel => exact ⟨1, by omega, by go_num, F'.out, G'.out, HN.out.setCell (Nat.le_refl _) _⟩
          case measure => simp [intOf]
        · have F' : Hid (At6 (wr.setCell ⟨w.heap.size, 0, none⟩ (.bool (!g 0))) w.heap.size (lessTo f g 1)) := F.out
          have G' : Hid (At6 (wr.setCell ⟨w.heap.size, 0, none⟩ (.bool (!g 0))) (w.heap.size + 1 + 1) noneS) := G.out
          clear F G
          go_wp2
          go_roundw
          case rel => exact ⟨1, by omega, by go_num, F'.out, G'.out, HN.out.setCell (Nat.le_refl _) _⟩
          case measure => simp [intOf]
      · have ix := index_cs1 (.bool (g 0)) (.bool (g 1)) (.bool (g 2)) (.bool (g 3)) (.bool (g 4)) (.bool (g 5))
        generalize f 1 = x at q0 F G
        cases x
        · have F' : Hid (At6 (wr.setCell ⟨w.heap.size, 1, none⟩ (.bool false)) w.heap.size (lessTo f g 2)) := F.out
          have G' : Hid (At6 (wr.setCell ⟨w.heap.size, 1, none⟩ (.bool false)) (w.heap.size + 1 + 1) noneS) := G.out
          clear F G
          go_wp2
          go_roundw
          case rel => exact ⟨2, by omega, by go_num, F'.out, G'.out, HN.out.setCell (Nat.le_refl _) _⟩
          case measure => simp [intOf]
        · have F' : Hid (At6 (wr.setCell ⟨w.heap.size, 1, none⟩ (.bool (!g 1))) w.heap.size (lessTo f g 2)) := F.out
          have G' : Hid (At6 (wr.setCell ⟨w.heap.size, 1, none⟩ (.bool (!g 1))) (w.heap.size + 1 + 1) noneS) := G.out
          clear F G
          go_wp2
          go_roundw
          case rel => exact ⟨2, by omega, by go_num, F'.out, G'.out, HN.out.setCell (Nat.le_refl _) _⟩
          case measure => simp [intOf]
      · have ix := index_cs2 (.bool (g 0)) (.bool (g 1)) (.bool (g 2)) (.bool (g 3)) (.bool (g 4)) (.bool (g 5))
        generalize f 2 = x at q0 F G
        cases x
        · have F' : Hid (At6 (wr.setCell ⟨w.heap.size, 2, none⟩ (.bool false)) w.heap.size (lessTo f g 3)) := F.out
          have G' : Hid (At6 (wr.setCell ⟨w.heap.size, 2, none⟩ (.bool false)) (w.heap.size + 1 + 1) noneS) := G.out
          clear F G
          go_wp2
          go_roundw
          case rel => exact ⟨3, by omega, by go_num, F'.out, G'.out, HN.out.setCell (Nat.le_refl _) _⟩
          case measure => simp [intOf]
        · have F' : Hid (At6 (wr.setCell ⟨w.heap.size, 2, none⟩ (.bool (!g 2))) w.heap.size (lessTo f g 3)) := F.out
          have G' : Hid (At6 (wr.setCell ⟨w.heap.size, 2, none⟩ (.bool (!g 2))) (w.heap.size + 1 + 1) noneS) := G.out
          clear F G
          go_wp2
          go_roundw
          case rel => exact ⟨3, by omega, by go_num, F'.out, G'.out, HN.out.setCell (Nat.le_refl _) _⟩
          case measure => simp [intOf]
      · have ix := index_cs3 (.bool (g 0)) (.bool (g 1)) (.bool (g 2)) (.bool (g 3)) (.bool (g 4)) (.bool (g 5))
        generalize f 3 = x at q0 F G
        cases x
        · have F' : Hid (At6 (wr.setCell ⟨w.heap.size, 3, none⟩ (.bool false)) w.heap.size (lessTo f g 4)) := F.out
          have G' : Hid (At6 (wr.setCell ⟨w.heap.size, 3, none⟩ (.bool false)) (w.heap.size + 1 + 1) noneS) := G.out
          clear F G
          go_wp2
          go_roundw
          case rel => exact ⟨4, by omega, by go_num, F'.out, G'.out, HN.out.setCell (Nat.le_refl _) _⟩
          case measure => simp [intOf]
        · have F' : Hid (At6 (wr.setCell ⟨w.heap.size, 3, none⟩ (.bool (!g 3))) w.heap.size (lessTo f g 4)) := F.out
          have G' : Hid (At6 (wr.setCell ⟨w.heap.size, 3, none⟩ (.bool (!g 3))) (w.heap.size + 1 + 1) noneS) := G.out
          clear F G
          go_wp2
          go_roundw
          case rel => exact ⟨4, by omega, by go_num, F'.out, G'.out, HN.out.setCell (Nat.le_refl _) _⟩
          case measure => simp [intOf]
      · have ix := index_cs4 (.bool (g 0)) (.bool (g 1)) (.bool (g 2)) (.bool (g 3)) (.bool (g 4)) (.bool (g 5))
        generalize f 4 = x at q0 F G
        cases x
        · have F' : Hid (At6 (wr.setCell ⟨w.heap.size, 4, none⟩ (.bool false)) w.heap.size (lessTo f g 5)) := F.out
          have G' : Hid (At6 (wr.setCell ⟨w.heap.size, 4, none⟩ (.bool false)) (w.heap.size + 1 + 1) noneS) := G.out
          clear F G
          go_wp2
          go_roundw
          case rel => exact ⟨5, by omega, by go_num, F'.out, G'.out, HN.out.setCell (Nat.le_refl _) _⟩
          case measure => simp [intOf]
        · have F' : Hid (At6 (wr.setCell ⟨w.heap.size, 4, none⟩ (.bool (!g 4))) w.heap.size (lessTo f g 5)) := F.out
          have G' : Hid (At6 (wr.setCell ⟨w.heap.size, 4, none⟩ (.bool (!g 4))) (w.heap.size + 1 + 1) noneS) := G.out
          clear F G
          go_wp2
          go_roundw
          case rel => exact ⟨5, by omega, by go_num, F'.out, G'.out, HN.out.setCell (Nat.le_refl _) _⟩
          case measure => simp [intOf]
      · have ix := index_cs5 (.bool (g 0)) (.bool (g 1)) (.bool (g 2)) (.bool (g 3)) (.bool (g 4)) (.bool (g 5))
        generalize f 5 = x at q0 F G
        cases x
        · have F' : Hid (At6 (wr.setCell ⟨w.heap.size, 5, none⟩ (.bool false)) w.heap.size (lessTo f g 6)) := F.out
          have G' : Hid (At6 (wr.setCell ⟨w.heap.size, 5, none⟩ (.bool false)) (w.heap.size + 1 + 1) noneS) := G.out
          clear F G
          go_wp2
          go_roundw
          case rel => exact ⟨6, by omega, by go_num, F'.out, G'.out, HN.out.setCell (Nat.le_refl _) _⟩
          case measure => simp [intOf]
        · have F' : Hid (At6 (wr.setCell ⟨w.heap.size, 5, none⟩ (.bool (!g 5))) w.heap.size (lessTo f g 6)) := F.out
          have G' : Hid (At6 (wr.setCell ⟨w.heap.size, 5, none⟩ (.bool (!g 5))) (w.heap.size + 1 + 1) noneS) := G.out
          clear F G
          go_wp2
          go_roundw
          case rel => exact ⟨6, by omega, by go_num, F'.out, G'.out, HN.out.setCell (Nat.le_refl _) _⟩
          case measure => simp [intOf]
    · obtain rfl : k = 6 := by omega
      have e : At6 wr w.heap.size (lessS f g) := h1.congr (fun i hi => by simp [lessTo, lessS, hi])
      obtain ⟨c0, c1, c2, c3, c4, c5⟩ := e.cells
      obtain ⟨d0, d1, d2, d3, d4, d5⟩ := h0.cells
      obtain ⟨f0, f1, f2, f3, f4, f5⟩ := h0.froz
      clear h1 h0 hnx e
      go_wp2
      refine bodyPost_ret (v := csv (lessS f g)) (by simp [results, Try.results60, go_sem, csv, d0, d1, d2, d3, d4, d5]) rfl ?_
      exact ⟨rfl, Below.set6 HN.out (by omega) _ _ _ _ _ _⟩


end Go.Proofs.Ytbeielafbegflaa.Csg
