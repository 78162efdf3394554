/-
  Contracts of the model's small functions on names and tuples.
-/
import Derived.Test.YtkondmnkmbdncaaKrl
import Derived.Test.YtkondmnkmbdncaaLst
import Derived.Test.YtkondmnkmbdncaaApp
namespace Go.Proofs.Ytkondmnkmbdncaa.Sa
open Go.RowKit
open Go.Proofs.Ytkondmnkmbdncaa.Frame Go.Proofs.Ytkondmnkmbdncaa.Mem Go.Proofs.Ytkondmnkmbdncaa.Ints Go.Proofs.Ytkondmnkmbdncaa.Kep Go.Proofs.Ytkondmnkmbdncaa.Lls Go.Proofs.Ytkondmnkmbdncaa.Rpu Go.Proofs.Ytkondmnkmbdncaa.Krl Go.Proofs.Ytkondmnkmbdncaa.Rel

theorem lessL_prefix : ∀ (k : Nat) (xs ys : List Int), k ≤ xs.length → k ≤ ys.length → xs.take k = ys.take k → lessL xs ys = lessL (xs.drop k) (ys.drop k)
  | 0, _, _, _, _, _ => rfl
  | k + 1, [], _, h, _, _ => absurd h (by simp)
  | k + 1, _ :: _, [], _, h, _ => absurd h (by simp)
  | k + 1, x :: xs, y :: ys, h1, h2, h => by
    simp only [List.take_succ_cons, List.cons.injEq] at h
    rw [lessL_cons, if_pos h.1, lessL_prefix k xs ys (by simpa using h1) (by simpa using h2) h.2]
    rfl
theorem drop_getD {zs : List Int} {k : Nat} (h : k < zs.length) : zs.drop k = zs.getD k 0 :: zs.drop (k + 1) := by
  rw [List.drop_eq_getElem_cons h]
  simp [List.getD, h]
theorem lessL_diff {xs ys : List Int} {k : Nat} (h : xs.take k = ys.take k) (hx : k < xs.length) (hy : k < ys.length) (hn : xs.getD k 0 ≠ ys.getD k 0) : lessL xs ys = decide (xs.getD k 0 < ys.getD k 0) := by
  rw [lessL_prefix k xs ys (by omega) (by omega) h, drop_getD hx, drop_getD hy, lessL_cons, if_neg hn]

theorem rise_no_in {lo hi : Int} {zs : List Int} {k : Nat} (h : k < zs.length) (e : Val.inB (zs.getD k 0) lo hi = false) : riseB lo hi zs = false := by
  unfold riseB
  have : allI lo hi zs = false := Lst.all_take_false _ zs k h e
  rw [this, Bool.false_and]
theorem rise_no_up {lo hi : Int} {zs : List Int} (h : ¬ UpN zs) : riseB lo hi zs = false := by
  unfold riseB
  rw [decide_eq_false h, Bool.and_false]

set_option maxHeartbeats 400000 in
theorem spec_l1Rising (a : Option Addr) (n ca : Nat) (zs : List Int) (lo hi : Int) (w : World) (ha : IsRow .i64 w a n ca zs) :
    Calls Try.prog 107 #[.slice a n ca, .int .i64 lo, .int .i64 hi] w fun e w' => e = .returned (.bool (riseB lo hi zs)) ∧ w' = w := by
  have hmaxn : n ≤ 9223372036854775807 := by have := ha.fits; have := ha.max; unfold maxLen at *; omega
  have HAs : Hid (0 < n → ∃ b off, a = some ⟨b, off, none⟩ ∧ b < w.heap.size ∧ ∀ i, i < n → w.cell? ⟨b, off + i, none⟩ = some (.int .i64 (zs.getD i 0))) := ha.cells
  have LA : Hid (zs.length = n) := ha.len
  clear ha
  go_enter Try.func107, Try.ntmps107
  go_wp2
  go_loop [11] (fun i => ∃ k : Nat, k ≤ n ∧ i = .int .i64 k ∧ allI lo hi (zs.take k) = true ∧ UpN (zs.take k)) (fun i => n - (intOf i).toNat)
  case atStart => exact ⟨0, Nat.zero_le _, rfl, rfl, by simp [UpN]⟩
  case round =>
    obtain ⟨k, hk, rfl, hall, hup⟩ := hrel
    have Hall : Hid (allI lo hi (zs.take k) = true) := hall
    have Hup : Hid (UpN (zs.take k)) := hup
    clear hall hup
    by_cases hlt : k < n
    · obtain ⟨b, off, rfl, hbl, hc⟩ := HAs.out (by omega)
      have hck := hc k hlt
      have hkl : k < zs.length := by rw [LA.out]; exact hlt
      have hprev : 0 < k → w.cell? ⟨b, off + (k - 1), none⟩ = some (.int .i64 (zs.getD (k - 1) 0)) := fun h => hc (k - 1) (by omega)
      have HIN : Hid ((Val.inB (zs.getD k 0) lo hi = false → riseB lo hi zs = false) ∧ (Val.inB (zs.getD k 0) lo hi = true → allI lo hi (zs.take (k + 1)) = true)) :=
        ⟨fun e => rise_no_in hkl e, fun e => Lst.all_take_succ _ zs k hkl e Hall.out⟩
      have HUP : Hid ((k = 0 ∨ zs.getD (k - 1) 0 < zs.getD k 0 → UpN (zs.take (k + 1))) ∧ (0 < k → ¬ zs.getD (k - 1) 0 < zs.getD k 0 → riseB lo hi zs = false)) :=
        ⟨fun h => upN_step hkl Hup.out (fun h0 => by rcases h with h | h; omega; exact h), fun h0 h => rise_no_up (upN_not h0 hkl (by omega))⟩
      generalize zs.getD k 0 = x at hck HIN HUP
      generalize zs.getD (k - 1) 0 = y at hprev HUP
      clear hc hkl
      cases hin : Val.inB x lo hi
      · have Hin : Hid (Val.inB x lo hi = false) := hin
        have F : Hid (riseB lo hi zs = false) := HIN.out.1 hin
        clear hin HIN HUP hprev
        go_wp2_with fail
        refine (Val.spec_In _ _ _ _).mono ?_
        rintro e w' ⟨rfl, rfl⟩
        rw [Hin.out]
        go_wp2_with fail
        go_ret
        exact ⟨ret_bool F.out.symm, rfl⟩
      · have Hin : Hid (Val.inB x lo hi = true) := hin
        have FA : Hid (allI lo hi (zs.take (k + 1)) = true) := HIN.out.2 hin
        clear hin HIN
        by_cases h0 : k = 0
        · have FU : Hid (UpN (zs.take (k + 1))) := HUP.out.1 (Or.inl h0)
          have hk0 : ¬ (0 : Int) < (k : Int) := by omega
          clear HUP hprev h0
          go_wp2_with fail
          refine (Val.spec_In _ _ _ _).mono ?_
          rintro e w' ⟨rfl, rfl⟩
          rw [Hin.out]
          go_wp2_with fail
          go_round
          case rel => exact ⟨k + 1, by omega, by go_num, FA.out, FU.out⟩
          case measure => simp [intOf]; omega
        · obtain ⟨p, hp⟩ : ∃ p, p = k - 1 := ⟨_, rfl⟩
          rw [← hp] at hprev
          have hpc := hprev (by omega)
          have hwr : IntKind.i64.wrap ((k : Int) - 1) = (p : Int) := by simp [IntKind.wrap, IntKind.bits, IntKind.signed]; omega
          have hk0 : (0 : Int) < (k : Int) := by omega
          have hpn : (p : Int) < (n : Int) := by omega
          by_cases hv : y < x
          · have FU : Hid (UpN (zs.take (k + 1))) := HUP.out.1 (Or.inr hv)
            have hge : ¬ x ≤ y := by omega
            clear HUP hprev h0 hp hv
            go_wp2_with fail
            refine (Val.spec_In _ _ _ _).mono ?_
            rintro e w' ⟨rfl, rfl⟩
            rw [Hin.out]
            go_wp2_with fail
            go_round
            case rel => exact ⟨k + 1, by omega, by go_num, FA.out, FU.out⟩
            case measure => simp [intOf]; omega
          · have F : Hid (riseB lo hi zs = false) := HUP.out.2 (by omega) hv
            have hge : x ≤ y := by omega
            clear HUP hprev h0 hp hv
            go_wp2_with fail
            refine (Val.spec_In _ _ _ _).mono ?_
            rintro e w' ⟨rfl, rfl⟩
            rw [Hin.out]
            go_wp2_with fail
            go_ret
            exact ⟨ret_bool F.out.symm, rfl⟩
    · have F : Hid (riseB lo hi zs = true) := by
        have h := Hall.out
        have h' := Hup.out
        rw [List.take_of_length_le (by rw [LA.out]; omega)] at h h'
        show _ = _
        unfold riseB
        rw [h, decide_eq_true h']
        rfl
      go_wp2
      go_ret
      exact ⟨ret_bool F.out.symm, rfl⟩

theorem sub_no {ns some : List Int} {k : Nat} (h : k < some.length) (e : ¬ 0 ≤ Lib.idxOf ns (some.getD k 0)) : subB ns some = false := by
  unfold subB
  have : (some.all fun n => decide (0 ≤ Lib.idxOf ns n)) = false := Lst.all_take_false _ some k h (decide_eq_false e)
  rw [this, Bool.false_and]


end Go.Proofs.Ytkondmnkmbdncaa.Sa
