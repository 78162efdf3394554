/-
  Contracts of the places of names.
-/
import Derived.Test.YtekheacbmbbpmaaOa
import Derived.Test.YtekheacbmbbpmaaMis
namespace Go.Proofs.Ytekheacbmbbpmaa.Ocp
open Go.RowKit
open Go.Proofs.Ytekheacbmbbpmaa.Frame Go.Proofs.Ytekheacbmbbpmaa.Mem Go.Proofs.Ytekheacbmbbpmaa.Ints Go.Proofs.Ytekheacbmbbpmaa.Kep Go.Proofs.Ytekheacbmbbpmaa.Lls Go.Proofs.Ytekheacbmbbpmaa.Rpu Go.Proofs.Ytekheacbmbbpmaa.Krl Go.Proofs.Ytekheacbmbbpmaa.Oa Go.Proofs.Ytekheacbmbbpmaa.Mis Go.Proofs.Ytekheacbmbbpmaa.Rel

set_option maxHeartbeats 400000 in
theorem slices_Index (a : Option Addr) (n ca : Nat) (zs : List Int) (x : Int) (w : World) (ha : IsRow .i64 w a n ca zs) :
    Calls Try.prog 62 #[.slice a n ca, .int .i64 x] w fun e w' => e = .returned (.int .i64 (Lib.idxOf zs x)) ∧ w' = w := by
  have hmaxn : n ≤ 9223372036854775807 := by have := ha.fits; have := ha.max; unfold maxLen at *; omega
  have HAs : Hid (0 < n → ∃ b off, a = some ⟨b, off, none⟩ ∧ b < w.heap.size ∧ ∀ i, i < n → w.cell? ⟨b, off + i, none⟩ = some (.int .i64 (zs.getD i 0))) := ha.cells
  have LA : Hid (zs.length = n) := ha.len
  clear ha
  go_enter Try.func62, Try.ntmps62
  go_wp2
  go_loop [8] (fun i => ∃ k : Nat, k ≤ n ∧ i = .int .i64 k ∧ ∀ j, j < k → zs.getD j 0 ≠ x) (fun i => n - (intOf i).toNat)
  case atStart => exact ⟨0, Nat.zero_le _, rfl, fun j hj => absurd hj (by omega)⟩
  case round =>
    obtain ⟨k, hk, rfl, hall⟩ := hrel
    have Hall : Hid (∀ j, j < k → zs.getD j 0 ≠ x) := hall
    clear hall
    by_cases hlt : k < n
    · obtain ⟨b, off, rfl, hbl, hc⟩ := HAs.out (by omega)
      have hck := hc k hlt
      have HX : Hid ((zs.getD k 0 = x → Lib.idxOf zs x = k) ∧ (zs.getD k 0 ≠ x → ∀ j, j < k + 1 → zs.getD j 0 ≠ x)) :=
        ⟨fun e => idx_is (by rw [LA.out]; exact hlt) e Hall.out, fun e j hj => by
          by_cases h : j = k
          · rw [h]; exact e
          · exact Hall.out j (by omega)⟩
      generalize zs.getD k 0 = y at hck HX
      clear hc
      by_cases hv : y = x
      · have F : Hid (Lib.idxOf zs x = k) := HX.out.1 hv
        have hb : (x == y) = true := by rw [beq_iff_eq]; exact hv.symm
        clear HX hv
        go_wp2
        go_ret
        exact ⟨ret_int F.out.symm, rfl⟩
      · have F : Hid (∀ j, j < k + 1 → zs.getD j 0 ≠ x) := HX.out.2 hv
        have hb : (x == y) = false := by rw [beq_eq_false_iff_ne]; exact fun e => hv e.symm
        clear HX hv
        go_wp2
        go_round
        case rel => exact ⟨k + 1, by omega, by go_num, F.out⟩
        case measure => simp [intOf]; omega
    · have F : Hid (Lib.idxOf zs x = -1) := by
        have := Lib.idxOf_miss zs n x (fun j hj => Hall.out j (by omega))
        rwa [List.take_of_length_le (by rw [LA.out]; omega)] at this
      go_wp2
      go_ret
      exact ⟨ret_int F.out.symm, rfl⟩

theorem set_map (f : Int → Int) (zs : List Int) (n k : Nat) (h : k < zs.length) (hn : zs.length = n) :
    (ints .i64 ((zs.take k).map f) ++ List.replicate (n - k) (Value.int .i64 0)).set k (.int .i64 (f (zs.getD k 0))) = ints .i64 ((zs.take (k + 1)).map f) ++ List.replicate (n - (k + 1)) (Value.int .i64 0) := by
  have hg : (zs.map f).getD k 0 = f (zs.getD k 0) := by simp [List.getD, h]
  have := set_part (zs.map f) n k (by simpa using h) (by simpa using hn)
  rw [hg] at this
  rw [List.map_take, List.map_take]
  exact this

set_option maxHeartbeats 400000 in
theorem impl_placesOf (a b : Option Addr) (n m ca cb : Nat) (ns zs : List Int) (w : World) (ha : IsRow .i64 w a n ca ns) (hb : IsRow .i64 w b m cb zs) (hm : m ≤ 1048576) :
    Calls Try.prog 38 #[.slice a n ca, .slice b m cb] w fun e w' => e = .returned (.slice (some ⟨w.heap.size, 0, none⟩) m m) ∧ w'.ownsRow w.heap.size 3 1 (.slice (some ⟨w.heap.size, 0, none⟩) m m) m (ints .i64 (zs.map fun z => Lib.idxOf ns z)) ∧ Below w.heap.size w w' := by
  obtain ⟨i0, hi, hz0, hz1, hz2⟩ := info_parts Ints.info
  have HL : Hid (zs.length = m) := hb.len
  have HA : Hid (IsRow .i64 w a n ca ns) := ha
  have HCs : Hid (0 < m → ∃ c off, b = some ⟨c, off, none⟩ ∧ c < w.heap.size ∧ ∀ i, i < m → w.cell? ⟨c, off + i, none⟩ = some (.int .i64 (zs.getD i 0))) := hb.cells
  clear ha hb
  go_enter Try.func38, Try.ntmps38
  go_wp2_with (at_make; refine wpList_make_full _ rfl _ _ 34 rfl w.heap.size 3 i0 (.int .i64 0) 1 Try.underlying34 hi hz0 hz1 _ _ _ _ m rfl rfl rfl rfl ?b2 ?b3 (Nat.le_refl _) ?_)
  case b2 => rw [hz2]; omega
  case b3 => unfold maxLen; omega
  intro w0 hown0 hgrow0
  go_wp2
  go_loopw [13] (fun i wr => ∃ k : Nat, k ≤ m ∧ i = .int .i64 k ∧ wr.ownsRow w.heap.size 3 1 (.slice (some ⟨w.heap.size, 0, none⟩) m m) m (ints .i64 ((zs.take k).map fun z => Lib.idxOf ns z) ++ List.replicate (m - k) (Value.int .i64 0)) ∧ Below w.heap.size w wr)
    (fun i _ => m - (intOf i).toNat)
  case atStart =>
    refine ⟨0, Nat.zero_le _, rfl, ?_, (Below.refl _ _).grown hgrow0 (Nat.le_refl _) (fun k h => by cases h)⟩
    have e : (madeCells #[Value.int .i64 0] m).toList = ints .i64 ((zs.take 0).map fun z => Lib.idxOf ns z) ++ List.replicate (m - 0) (Value.int .i64 0) := by
      rw [toList_madeCells_one]
      simp [ints]
    rw [← e]
    exact hown0
  case round =>
    obtain ⟨k, hk, rfl, hown, hnx⟩ := hrel
    by_cases hlt : k < m
    · obtain ⟨c, off, rfl, hbl, hc⟩ := HCs.out (by omega)
      have hck : wr.cell? ⟨c, off + k, none⟩ = some (.int .i64 (zs.getD k 0)) := by rw [hnx.cell (p := ⟨c, off + k, none⟩) hbl]; exact hc k hlt
      have hst := (hown.stored k (.int .i64 (Lib.idxOf ns (zs.getD k 0)))).1
      rw [set_map (fun z => Lib.idxOf ns z) zs m k (by rw [HL.out]; exact hlt) HL.out] at hst
      have hfz := hown.frozenAt k
      obtain ⟨old, hold⟩ : ∃ old, wr.cell? ⟨w.heap.size, k, none⟩ = some old := by
        have hl := hown.1
        rw [hown.cellAt k (by omega)]
        exact ⟨_, List.getElem?_eq_getElem (by omega)⟩
      have Hn : Hid (Below w.heap.size w wr) := hnx
      have HA1 : Hid (IsRow .i64 wr a n ca ns) := IsRow.below HA.out hnx
      generalize zs.getD k 0 = z at hck hst
      have Hst : Hid ((wr.setCell ⟨w.heap.size, k, none⟩ (.int .i64 (Lib.idxOf ns z))).ownsRow w.heap.size 3 1 (.slice (some ⟨w.heap.size, 0, none⟩) m m) m (ints .i64 ((zs.take (k + 1)).map fun z => Lib.idxOf ns z) ++ List.replicate (m - (k + 1)) (Value.int .i64 0))) := hst
      clear hst hown hnx hc
      go_wp2_with fail
      refine (slices_Index _ _ _ ns z _ HA1.out).mono ?_
      rintro e w' ⟨rfl, rfl⟩
      go_wp2
      go_roundw
      case rel => exact ⟨k + 1, by omega, by go_num, Hst.out, Hn.out.setCell (Nat.le_refl _) _⟩
      case measure => simp [intOf]; omega
    · go_wp2
      go_ret
      have e : ints .i64 ((zs.take k).map fun z => Lib.idxOf ns z) ++ List.replicate (m - k) (Value.int .i64 0) = ints .i64 (zs.map fun z => Lib.idxOf ns z) := by
        rw [List.take_of_length_le (by rw [HL.out]; omega), show m - k = 0 by omega]
        simp
      rw [e] at hown
      exact ⟨rfl, hown, hnx⟩


end Go.Proofs.Ytekheacbmbbpmaa.Ocp
