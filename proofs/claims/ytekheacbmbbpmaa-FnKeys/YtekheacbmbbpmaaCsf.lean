/-
  A set of columns by its number, and the first columns: contracts of the program.
-/
import Derived.Test.YtekheacbmbbpmaaCsb
import Derived.Laws.Bits128
namespace Go.Proofs.Ytekheacbmbbpmaa.Csf
open Go.RowKit
open Go.Proofs.Ytekheacbmbbpmaa.Frame Go.Proofs.Ytekheacbmbbpmaa.Mem Go.Proofs.Ytekheacbmbbpmaa.Ints Go.Proofs.Ytekheacbmbbpmaa.Kep Go.Proofs.Ytekheacbmbbpmaa.Lls Go.Proofs.Ytekheacbmbbpmaa.Mis Go.Proofs.Ytekheacbmbbpmaa.Csa Go.Proofs.Ytekheacbmbbpmaa.Csb

theorem i64_and1 (n : Int) : bits .and .i64 n 1 = n % 2 := by
  have h1 : (BitVec.ofInt 64 1).toNat = 2 ^ 1 - 1 := by decide
  have key : (BitVec.ofInt 64 n &&& BitVec.ofInt 64 1).toNat = (n % ((2 ^ 64 : Nat) : Int)).toNat % 2 ^ 1 := by
    rw [BitVec.toNat_and, BitVec.toNat_ofInt, h1, Nat.and_two_pow_sub_one_eq_mod]
  show IntKind.i64.wrap ((BitVec.ofInt 64 n &&& BitVec.ofInt 64 1).toNat : Nat) = n % 2
  rw [key, IntKind.wrap_i64]
  omega
def bitS (n : Int) : Cs := fun i => (n / 2 ^ i % 2 == 1)
def bitTo (n : Int) (k : Nat) : Cs := fun i => if i < k then bitS n i else false
theorem bit_next (n : Int) (k : Nat) : ∀ i, i < 6 → setS (bitTo n k) k (bitS n k) i = bitTo n (k + 1) i := fun i _ => by
  unfold setS bitTo
  by_cases e : i = k
  · rw [if_pos e, if_pos (by omega), e]
  · rw [if_neg e]
    by_cases h : i < k
    · rw [if_pos h, if_pos (by omega)]
    · rw [if_neg h, if_neg (by omega)]

set_option maxRecDepth 4000 in
set_option maxHeartbeats 3200000 in
theorem setByNumber (n : Int) (w : World) (_h0 : 0 ≤ n) (_h1 : n < 64) :
    Calls Try.prog 18 #[.int .i64 n] w fun e w' => e = .returned (csv (bitS n)) ∧ Below w.heap.size w w' := by
  go_enter Try.func18, Try.ntmps18
  go_wp2_with fail
  go_loopw [6] (fun i wr => ∃ k : Nat, k ≤ 6 ∧ i = .int .i64 k ∧ At6 wr (w.heap.size + 1) (bitTo n k) ∧ At6 wr w.heap.size noneS ∧ Below w.heap.size w wr) (fun i _ => 6 - (intOf i).toNat)
  case atStart =>
    have h1 := At6.made (w.alloc (.cells #[.bool false, .bool false, .bool false, .bool false, .bool false, .bool false] 48)) noneS 48
    rw [show (w.alloc (.cells #[.bool false, .bool false, .bool false, .bool false, .bool false, .bool false] 48)).heap.size = w.heap.size + 1 by simp] at h1
    refine ⟨0, Nat.zero_le _, rfl, h1.congr (fun i _ => by simp [noneS, bitTo]), ?_, ((Below.refl _ _).alloc (Nat.le_refl _) _).alloc (by simp) _⟩
    exact (At6.made w noneS 48).below ((Below.refl _ _).alloc (Nat.le_refl _) _)
  case round =>
    obtain ⟨k, hk, rfl, h1, h0, hnx⟩ := hrel
    have HN : Hid (Below w.heap.size w wr) := hnx
    by_cases hlt : k < 6
    · have q0 := h1.1 k hlt
      have f0 := h1.2.1 k hlt
      have F : Hid (At6 (wr.setCell ⟨w.heap.size + 1, k, none⟩ (.bool (bitS n k))) (w.heap.size + 1) (bitTo n (k + 1))) := (h1.set hlt _).congr (bit_next n k)
      have G : Hid (At6 (wr.setCell ⟨w.heap.size + 1, k, none⟩ (.bool (bitS n k))) w.heap.size noneS) := h0.other _ _ (by omega)
      clear h1 h0 hnx
      obtain rfl | rfl | rfl | rfl | rfl | rfl : k = 0 ∨ k = 1 ∨ k = 2 ∨ k = 3 ∨ k = 4 ∨ k = 5 := by omega
      · have e : bitS n 0 = (bits .and .i64 n 1 == 1) := by rw [i64_and1]; simp [bitS]
        rw [e] at F G
        clear e
        go_wp2
        go_roundw
        case rel => exact ⟨1, by omega, by go_num, F.out, G.out, HN.out.setCell (by show w.heap.size ≤ w.heap.size + 1; omega) _⟩
        case measure => simp [intOf]
      · have e : bitS n 1 = (bits .and .i64 (n / 2) 1 == 1) := by rw [i64_and1]; simp [bitS]
        rw [e] at F G
        clear e
        go_wp2
        go_roundw
        case rel => exact ⟨2, by omega, by go_num, F.out, G.out, HN.out.setCell (by show w.heap.size ≤ w.heap.size + 1; omega) _⟩
        case measure => simp [intOf]
      · have e : bitS n 2 = (bits .and .i64 (n / 4) 1 == 1) := by rw [i64_and1]; simp [bitS]
        rw [e] at F G
        clear e
        go_wp2
        go_roundw
        case rel => exact ⟨3, by omega, by go_num, F.out, G.out, HN.out.setCell (by show w.heap.size ≤ w.heap.size + 1; omega) _⟩
        case measure => simp [intOf]
      · have e : bitS n 3 = (bits .and .i64 (n / 8) 1 == 1) := by rw [i64_and1]; simp [bitS]
        rw [e] at F G
        clear e
        go_wp2
        go_roundw
        case rel => exact ⟨4, by omega, by go_num, F.out, G.out, HN.out.setCell (by show w.heap.size ≤ w.heap.size + 1; omega) _⟩
        case measure => simp [intOf]
      · have e : bitS n 4 = (bits .and .i64 (n / 16) 1 == 1) := by rw [i64_and1]; simp [bitS]
        rw [e] at F G
        clear e
        go_wp2
        go_roundw
        case rel => exact ⟨5, by omega, by go_num, F.out, G.out, HN.out.setCell (by show w.heap.size ≤ w.heap.size + 1; omega) _⟩
        case measure => simp [intOf]
      · have e : bitS n 5 = (bits .and .i64 (n / 32) 1 == 1) := by rw [i64_and1]; simp [bitS]
        rw [e] at F G
        clear e
        go_wp2
        go_roundw
        case rel => exact ⟨6, by omega, by go_num, F.out, G.out, HN.out.setCell (by show w.heap.size ≤ w.heap.size + 1; omega) _⟩
        case measure => simp [intOf]
    · obtain rfl : k = 6 := by omega
      have e : At6 wr (w.heap.size + 1) (bitS n) := h1.congr (fun i hi => by simp [bitTo, hi])
      obtain ⟨c0, c1, c2, c3, c4, c5⟩ := e.cells
      obtain ⟨d0, d1, d2, d3, d4, d5⟩ := h0.cells
      obtain ⟨f0, f1, f2, f3, f4, f5⟩ := h0.froz
      clear h1 h0 hnx e
      go_wp2
      refine bodyPost_ret (v := csv (bitS n)) (by simp [results, Try.results18, go_sem, csv, d0, d1, d2, d3, d4, d5]) rfl ?_
      exact ⟨rfl, Csa.Below.set6 HN.out (Nat.le_refl _) _ _ _ _ _ _⟩

/-- The first columns. -/
def firstS (c : Nat) : Cs := fun i => decide (i < c)

set_option maxRecDepth 4000 in
set_option maxHeartbeats 3200000 in
theorem firstColumns (c : Nat) (w : World) (h1 : 1 ≤ c) (h6 : c ≤ 6) :
    Calls Try.prog 24 #[.int .i64 (c : Int)] w fun e w' => e = .returned (csv (firstS c)) ∧ Below w.heap.size w w' := by
  have hm := At6.made w noneS 48
  have b0 : Below w.heap.size w (w.alloc (.cells #[.bool false, .bool false, .bool false, .bool false, .bool false, .bool false] 48)) := (Below.refl _ _).alloc (Nat.le_refl _) _
  have HM : Hid (At6 (w.alloc (.cells #[.bool false, .bool false, .bool false, .bool false, .bool false, .bool false] 48)) w.heap.size noneS) := hm
  have B0 : Hid (Below w.heap.size w (w.alloc (.cells #[.bool false, .bool false, .bool false, .bool false, .bool false, .bool false] 48))) := b0
  clear hm b0
  obtain rfl | rfl | rfl | rfl | rfl | rfl : c = 1 ∨ c = 2 ∨ c = 3 ∨ c = 4 ∨ c = 5 ∨ c = 6 := by omega
  · have e6 : ∀ i, i < 6 → bitS 1 i = firstS 1 i := Csa.six (by decide) (by decide) (by decide) (by decide) (by decide) (by decide)
    have E : Hid (csv (bitS 1) = csv (firstS 1)) := csv_congr e6
    clear e6
    go_enter Try.func24, Try.ntmps24
    go_wp2_with fail
    refine (setByNumber 1 _ (by omega) (by omega)).mono ?_
    rintro e w1 ⟨rfl, hb⟩
    rw [E.out]
    unfold csv
    have h0 := HM.out.below hb
    have B1 : Hid (Below w.heap.size w w1) := Frame.next B0.out hb (by simp)
    obtain ⟨d0, d1, d2, d3, d4, d5⟩ := h0.cells
    obtain ⟨f0, f1, f2, f3, f4, f5⟩ := h0.froz
    clear h0 hb
    go_wp2
    refine bodyPost_ret (v := csv (firstS 1)) (by simp [results, Try.results24, go_sem, csv, d0, d1, d2, d3, d4, d5]) rfl ?_
    exact ⟨rfl, Csa.Below.set6 B1.out (Nat.le_refl _) _ _ _ _ _ _⟩
  · have e6 : ∀ i, i < 6 → bitS 3 i = firstS 2 i := Csa.six (by decide) (by decide) (by decide) (by decide) (by decide) (by decide)
    have E : Hid (csv (bitS 3) = csv (firstS 2)) := csv_congr e6
    clear e6
    go_enter Try.func24, Try.ntmps24
    go_wp2_with fail
    refine (setByNumber 3 _ (by omega) (by omega)).mono ?_
    rintro e w1 ⟨rfl, hb⟩
    rw [E.out]
    unfold csv
    have h0 := HM.out.below hb
    have B1 : Hid (Below w.heap.size w w1) := Frame.next B0.out hb (by simp)
    obtain ⟨d0, d1, d2, d3, d4, d5⟩ := h0.cells
    obtain ⟨f0, f1, f2, f3, f4, f5⟩ := h0.froz
    clear h0 hb
    go_wp2
    refine bodyPost_ret (v := csv (firstS 2)) (by simp [results, Try.results24, go_sem, csv, d0, d1, d2, d3, d4, d5]) rfl ?_
    exact ⟨rfl, Csa.Below.set6 B1.out (Nat.le_refl _) _ _ _ _ _ _⟩
  · have e6 : ∀ i, i < 6 → bitS 7 i = firstS 3 i := Csa.six (by decide) (by decide) (by decide) (by decide) (by decide) (by decide)
    have E : Hid (csv (bitS 7) = csv (firstS 3)) := csv_congr e6
    clear e6
    go_enter Try.func24, Try.ntmps24
    go_wp2_with fail
    refine (setByNumber 7 _ (by omega) (by omega)).mono ?_
    rintro e w1 ⟨rfl, hb⟩
    rw [E.out]
    unfold csv
    have h0 := HM.out.below hb
    have B1 : Hid (Below w.heap.size w w1) := Frame.next B0.out hb (by simp)
    obtain ⟨d0, d1, d2, d3, d4, d5⟩ := h0.cells
    obtain ⟨f0, f1, f2, f3, f4, f5⟩ := h0.froz
    clear h0 hb
    go_wp2
    refine bodyPost_ret (v := csv (firstS 3)) (by simp [results, Try.results24, go_sem, csv, d0, d1, d2, d3, d4, d5]) rfl ?_
    exact ⟨rfl, Csa.Below.set6 B1.out (Nat.le_refl _) _ _ _ _ _ _⟩
  · have e6 : ∀ i, i < 6 → bitS 15 i = firstS 4 i := Csa.six (by decide) (by decide) (by decide) (by decide) (by decide) (by decide)
    have E : Hid (csv (bitS 15) = csv (firstS 4)) := csv_congr e6
    clear e6
    go_enter Try.func24, Try.ntmps24
    go_wp2_with fail
    refine (setByNumber 15 _ (by omega) (by omega)).mono ?_
    rintro e w1 ⟨rfl, hb⟩
    rw [E.out]
    unfold csv
    have h0 := HM.out.below hb
    have B1 : Hid (Below w.heap.size w w1) := Frame.next B0.out hb (by simp)
    obtain ⟨d0, d1, d2, d3, d4, d5⟩ := h0.cells
    obtain ⟨f0, f1, f2, f3, f4, f5⟩ := h0.froz
    clear h0 hb
    go_wp2
    refine bodyPost_ret (v := csv (firstS 4)) (by simp [results, Try.results24, go_sem, csv, d0, d1, d2, d3, d4, d5]) rfl ?_
    exact ⟨rfl, Csa.Below.set6 B1.out (Nat.le_refl _) _ _ _ _ _ _⟩
  · have e6 : ∀ i, i < 6 → bitS 31 i = firstS 5 i := Csa.six (by decide) (by decide) (by decide) (by decide) (by decide) (by decide)
    have E : Hid (csv (bitS 31) = csv (firstS 5)) := csv_congr e6
    clear e6
    go_enter Try.func24, Try.ntmps24
    go_wp2_with fail
    refine (setByNumber 31 _ (by omega) (by omega)).mono ?_
    rintro e w1 ⟨rfl, hb⟩
    rw [E.out]
    unfold csv
    have h0 := HM.out.below hb
    have B1 : Hid (Below w.heap.size w w1) := Frame.next B0.out hb (by simp)
    obtain ⟨d0, d1, d2, d3, d4, d5⟩ := h0.cells
    obtain ⟨f0, f1, f2, f3, f4, f5⟩ := h0.froz
    clear h0 hb
    go_wp2
    refine bodyPost_ret (v := csv (firstS 5)) (by simp [results, Try.results24, go_sem, csv, d0, d1, d2, d3, d4, d5]) rfl ?_
    exact ⟨rfl, Csa.Below.set6 B1.out (Nat.le_refl _) _ _ _ _ _ _⟩
  · have e6 : ∀ i, i < 6 → bitS 63 i = firstS 6 i := Csa.six (by decide) (by decide) (by decide) (by decide) (by decide) (by decide)
    have E : Hid (csv (bitS 63) = csv (firstS 6)) := csv_congr e6
    clear e6
    go_enter Try.func24, Try.ntmps24
    go_wp2_with fail
    refine (setByNumber 63 _ (by omega) (by omega)).mono ?_
    rintro e w1 ⟨rfl, hb⟩
    rw [E.out]
    unfold csv
    have h0 := HM.out.below hb
    have B1 : Hid (Below w.heap.size w w1) := Frame.next B0.out hb (by simp)
    obtain ⟨d0, d1, d2, d3, d4, d5⟩ := h0.cells
    obtain ⟨f0, f1, f2, f3, f4, f5⟩ := h0.froz
    clear h0 hb
    go_wp2
    refine bodyPost_ret (v := csv (firstS 6)) (by simp [results, Try.results24, go_sem, csv, d0, d1, d2, d3, d4, d5]) rfl ?_
    exact ⟨rfl, Csa.Below.set6 B1.out (Nat.le_refl _) _ _ _ _ _ _⟩


end Go.Proofs.Ytekheacbmbbpmaa.Csf
