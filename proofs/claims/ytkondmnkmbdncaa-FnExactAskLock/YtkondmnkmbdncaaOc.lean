/-
  Contracts of what the program picks, and of what it has once each, in order.
-/
import Derived.Test.YtkondmnkmbdncaaOsr
import Derived.Test.YtkondmnkmbdncaaMis
namespace Go.Proofs.Ytkondmnkmbdncaa.Oc
open Go.RowKit
open Go.Proofs.Ytkondmnkmbdncaa.Frame Go.Proofs.Ytkondmnkmbdncaa.Mem Go.Proofs.Ytkondmnkmbdncaa.Ints Go.Proofs.Ytkondmnkmbdncaa.Kep Go.Proofs.Ytkondmnkmbdncaa.Lls Go.Proofs.Ytkondmnkmbdncaa.Rpu Go.Proofs.Ytkondmnkmbdncaa.Krl Go.Proofs.Ytkondmnkmbdncaa.Oa Go.Proofs.Ytkondmnkmbdncaa.Osr Go.Proofs.Ytkondmnkmbdncaa.Mis Go.Proofs.Ytkondmnkmbdncaa.Rel

set_option maxHeartbeats 400000 in
theorem slices_Index (a : Option Addr) (n ca : Nat) (zs : List Int) (x : Int) (w : World) (ha : IsRow .i64 w a n ca zs) :
    Calls Try.prog 140 #[.slice a n ca, .int .i64 x] w fun e w' => e = .returned (.int .i64 (Lib.idxOf zs x)) ∧ w' = w := by
  have hmaxn : n ≤ 9223372036854775807 := by have := ha.fits; have := ha.max; unfold maxLen at *; omega
  have HAs : Hid (0 < n → ∃ b off, a = some ⟨b, off, none⟩ ∧ b < w.heap.size ∧ ∀ i, i < n → w.cell? ⟨b, off + i, none⟩ = some (.int .i64 (zs.getD i 0))) := ha.cells
  have LA : Hid (zs.length = n) := ha.len
  clear ha
  go_enter Try.func140, Try.ntmps140
  go_wp2
  go_loop [8] (fun i => ∃ k : Nat, k ≤ n ∧ i = .int .i64 k ∧ ∀ j, j < k → zs.getD j 0 ≠ x) (fun i => n - (intOf i).toNat)
  case atStart => exact ⟨0, Nat.zero_le _, rfl, fun j hj => absurd hj (by omega)⟩
  case round =>
    obtain ⟨k, hk, rfl, hall⟩ := hrel
    have Hall : Hid (∀ j, j < k → zs.getD j 0 ≠ x) := hall
    clear hall
    by_cases hlt : k < n
    · obtain ⟨b, off, rfl, hbl, hc⟩ := HAs.out (by omega)
      have hck := hc k hlt
      have HX : Hid ((zs.getD k 0 = x → Lib.idxOf zs x = k) ∧ (zs.getD k 0 ≠ x → ∀ j, j < k + 1 → zs.getD j 0 ≠ x)) :=
        ⟨fun e => idx_is (by rw [LA.out]; exact hlt) e Hall.out, fun e j hj => by
          by_cases h : j = k
          · rw [h]; exact e
          · exact Hall.out j (by omega)⟩
      generalize zs.getD k 0 = y at hck HX
      clear hc
      by_cases hv : y = x
      · have F : Hid (Lib.idxOf zs x = k) := HX.out.1 hv
        have hb : (x == y) = true := by rw [beq_iff_eq]; exact hv.symm
        clear HX hv
        go_wp2
        go_ret
        exact ⟨ret_int F.out.symm, rfl⟩
      · have F : Hid (∀ j, j < k + 1 → zs.getD j 0 ≠ x) := HX.out.2 hv
        have hb : (x == y) = false := by rw [beq_eq_false_iff_ne]; exact fun e => hv e.symm
        clear HX hv
        go_wp2
        go_round
        case rel => exact ⟨k + 1, by omega, by go_num, F.out⟩
        case measure => simp [intOf]; omega
    · have F : Hid (Lib.idxOf zs x = -1) := by
        have := Lib.idxOf_miss zs n x (fun j hj => Hall.out j (by omega))
        rwa [List.take_of_length_le (by rw [LA.out]; omega)] at this
      go_wp2
      go_ret
      exact ⟨ret_int F.out.symm, rfl⟩

theorem set_map (f : Int → Int) (zs : List Int) (n k : Nat) (h : k < zs.length) (hn : zs.length = n) :
    (ints .i64 ((zs.take k).map f) ++ List.replicate (n - k) (Value.int .i64 0)).set k (.int .i64 (f (zs.getD k 0))) = ints .i64 ((zs.take (k + 1)).map f) ++ List.replicate (n - (k + 1)) (Value.int .i64 0) := by
  have hg : (zs.map f).getD k 0 = f (zs.getD k 0) := by simp [List.getD, h]
  have := set_part (zs.map f) n k (by simpa using h) (by simpa using hn)
  rw [hg] at this
  rw [List.map_take, List.map_take]
  exact this

theorem sizeI : (Try.prog.info? 3).map (·.size) = some 1 := by kernel_rfl
theorem sizeL : (Try.prog.info? 24).map (·.size) = some 1 := by kernel_rfl


end Go.Proofs.Ytkondmnkmbdncaa.Oc
