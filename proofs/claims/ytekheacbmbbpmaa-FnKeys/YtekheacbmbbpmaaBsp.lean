/-
  Columns of a number, in the model: contracts of l5List, l6Number.
-/
import Derived.Test.YtekheacbmbbpmaaBpu
namespace Go.Proofs.Ytekheacbmbbpmaa.Bsp
open Go.RowKit
open Go.Proofs.Ytekheacbmbbpmaa.Frame Go.Proofs.Ytekheacbmbbpmaa.Mem Go.Proofs.Ytekheacbmbbpmaa.Ints Go.Proofs.Ytekheacbmbbpmaa.Kep Go.Proofs.Ytekheacbmbbpmaa.Lls Go.Proofs.Ytekheacbmbbpmaa.Mis Go.Proofs.Ytekheacbmbbpmaa.Csa Go.Proofs.Ytekheacbmbbpmaa.Csb Go.Proofs.Ytekheacbmbbpmaa.Csd Go.Proofs.Ytekheacbmbbpmaa.Csf Go.Proofs.Ytekheacbmbbpmaa.Spx Go.Proofs.Ytekheacbmbbpmaa.Bpu
open Go.Proofs.Ytekheacbmbbpmaa.Rel hiding Ll
open Go.Proofs.Ytekheacbmbbpmaa.Cpu hiding Dp

theorem part_end {n : Int} {k : Nat} (h0 : 0 ≤ n) (h : n < 2 ^ k) : ∀ j, k ≤ j → partI (bitS n) j = partI (bitS n) k := by
  intro j hj
  induction j with
  | zero => rw [show k = 0 by omega]
  | succ j ih =>
    by_cases e : k = j + 1
    · rw [e]
    · rw [partI_succ, ih (by omega)]
      have hb : bitS n j = false := by
        unfold bitS
        have h2 : n < 2 ^ j := Int.lt_of_lt_of_le h (by exact_mod_cast Nat.pow_le_pow_right (by omega) (show k ≤ j by omega))
        rw [Int.ediv_eq_zero_of_lt h0 h2]
        rfl
      rw [hb]
      simp
theorem part_six {n : Int} (h0 : 0 ≤ n) (h : n < 64) : partI (bitS n) 7 = listI (bitS n) := part_end h0 (by simpa using h) 7 (by omega)

set_option maxRecDepth 4000 in
set_option maxHeartbeats 6400000 in
theorem l5List7 (n : Int) (w : World) (h0 : 0 ≤ n) (h1 : n < 128) :
    Calls Try.prog 28 #[.int .i64 n] w fun e w' => ∃ u, e = .returned u ∧ IOwn w' w.heap.size w'.heap.size u (partI (bitS n) 7) ∧ Below w.heap.size w w' := by
  obtain ⟨i0, hi, hz0, hz1, hz2⟩ := info_parts Ints.info
  have H0 : Hid (0 ≤ n) := h0
  have H1 : Hid (n < 128) := h1
  go_enter Try.func28, Try.ntmps28
  go_wp2_with fail
  go_loopw [3, 4] (fun v i wr => ∃ (k m : Nat) (a' : Option Addr) (c' : Nat), k ≤ 7 ∧ m ≤ k ∧ i = .int .i64 k ∧ v = .slice a' m c' ∧ wr.ownsRow w.heap.size 3 1 (.slice a' m c') m (ints .i64 (partI (bitS n) k)) ∧ Below w.heap.size w wr) (fun _ i _ => 7 - (intOf i).toNat)
  case atStart => exact ⟨0, 0, none, 0, by omega, Nat.le_refl _, rfl, rfl, World.ownsRow_nil _ _ _ _, Below.refl _ _⟩
  case round =>
    obtain ⟨k, m, a', c', hk, hmk, rfl, rfl, ho, hnx⟩ := hrel
    have HO : Hid (wr.ownsRow w.heap.size 3 1 (.slice a' m c') m (ints .i64 (partI (bitS n) k))) := ho
    have HN : Hid (Below w.heap.size w wr) := hnx
    have hsr := hnx.size
    clear ho hnx
    have HF : Hid (partI (bitS n) (k + 1) = partI (bitS n) k ++ (if bitS n k then [(k : Int)] else [])) := partI_succ (bitS n) k
    have HO2 : Hid ((wr.alloc (.cells #[.int .i64 (k : Int)] 3)).ownsRow w.heap.size 3 1 (.slice a' m c') m (ints .i64 (partI (bitS n) k))) := own_below HO.out ((Below.refl _ _).alloc (Nat.le_refl _) _)
    have HN2 : Hid (Below w.heap.size w (wr.alloc (.cells #[.int .i64 (k : Int)] 3))) := HN.out.alloc HN.out.size _
    have S2 : Hid (0 < 1 → ∃ ad, (some ⟨wr.heap.size, 0, none⟩ : Option Addr) = some ad ∧ ∀ j u, ([.int .i64 (k : Int)] : List Value)[j]? = some u → (wr.alloc (.cells #[.int .i64 (k : Int)] 3)).cell? (ad.add j) = some u) := news_one wr _ _
    have EX : Hid (n < 2 ^ k → IOwn wr w.heap.size wr.heap.size (.slice a' m c') (partI (bitS n) 7)) := fun hlt => by
      rw [part_end H0.out hlt 7 hk]
      exact iOwn_of HO.out (fun z hz => int_wf z (by have := partI_mem hz; omega) (by have := partI_mem hz; omega)) (by omega)
    obtain rfl | rfl | rfl | rfl | rfl | rfl | rfl | rfl : k = 0 ∨ k = 1 ∨ k = 2 ∨ k = 3 ∨ k = 4 ∨ k = 5 ∨ k = 6 ∨ k = 7 := by omega
    · by_cases hq : 0 < n
      · have e : bitS n 0 = (bits .and .i64 (n) 1 == 1) := by rw [i64_and1]; simp [bitS]
        cases hv : (bits .and .i64 (n) 1 == 1)
        · have F : Hid (partI (bitS n) 1 = partI (bitS n) 0) := by show _ = _; rw [HF.out, e, hv]; exact List.append_nil _
          clear HF HO2 HN2 S2 EX e
          go_wp2_with fail
          go_roundw
          case rel => exact ⟨1, m, a', c', by omega, by omega, by go_num, rfl, by rw [F.out]; exact HO.out, HN.out⟩
          case measure => simp [intOf]
        · have F : Hid (partI (bitS n) 1 = partI (bitS n) 0 ++ [((0 : Nat) : Int)]) := by show _ = _; rw [HF.out, e, hv]; rfl
          clear HF EX e
          go_wp2_with (at_builtin; refine App.wpList_append_all _ rfl _ _ 34 rfl w.heap.size 3 i0 (.int .i64 0) 1 8 Try.underlying34 hi hz0 hz1 hz2 rfl (by decide) _ _ _ rfl HO2.out _ 1 _ [.int .i64 ((0 : Nat) : Int)] rfl rfl S2.out (by simp [Value.oneCell']) (by unfold maxLen; omega) (by omega) HN2.out.size ?_)
          intro a4 c4 w4 hown4 hgrow4
          have O4 : Hid (w4.ownsRow w.heap.size 3 1 (.slice a4 (m + 1) c4) (m + 1) (ints .i64 (partI (bitS n) 1))) := by show World.ownsRow _ _ _ _ _ _ _; rw [F.out]; simpa [ints] using hown4
          have N4 : Hid (Below w.heap.size w w4) := below_app HN2.out HO2.out hgrow4 HN2.out.size (Nat.le_refl _)
          clear hown4 hgrow4 hv
          go_wp2
          go_roundw
          case rel => exact ⟨1, m + 1, a4, c4, by omega, by omega, by go_num, rfl, O4.out, N4.out⟩
          case measure => simp [intOf]
      · have F : Hid (IOwn wr w.heap.size wr.heap.size (.slice a' m c') (partI (bitS n) 7)) := EX.out (by have := H0.out; omega)
        clear HF HO2 HN2 S2 EX
        go_wp2_with fail
        go_ret
        exact ⟨_, rfl, F.out, HN.out⟩
    · by_cases hq : 0 < n / 2
      · have e : bitS n 1 = (bits .and .i64 (n / 2) 1 == 1) := by rw [i64_and1]; simp [bitS]
        cases hv : (bits .and .i64 (n / 2) 1 == 1)
        · have F : Hid (partI (bitS n) 2 = partI (bitS n) 1) := by show _ = _; rw [HF.out, e, hv]; exact List.append_nil _
          clear HF HO2 HN2 S2 EX e
          go_wp2_with fail
          go_roundw
          case rel => exact ⟨2, m, a', c', by omega, by omega, by go_num, rfl, by rw [F.out]; exact HO.out, HN.out⟩
          case measure => simp [intOf]
        · have F : Hid (partI (bitS n) 2 = partI (bitS n) 1 ++ [((1 : Nat) : Int)]) := by show _ = _; rw [HF.out, e, hv]; rfl
          clear HF EX e
          go_wp2_with (at_builtin; refine App.wpList_append_all _ rfl _ _ 34 rfl w.heap.size 3 i0 (.int .i64 0) 1 8 Try.underlying34 hi hz0 hz1 hz2 rfl (by decide) _ _ _ rfl HO2.out _ 1 _ [.int .i64 ((1 : Nat) : Int)] rfl rfl S2.out (by simp [Value.oneCell']) (by unfold maxLen; omega) (by omega) HN2.out.size ?_)
          intro a4 c4 w4 hown4 hgrow4
          have O4 : Hid (w4.ownsRow w.heap.size 3 1 (.slice a4 (m + 1) c4) (m + 1) (ints .i64 (partI (bitS n) 2))) := by show World.ownsRow _ _ _ _ _ _ _; rw [F.out]; simpa [ints] using hown4
          have N4 : Hid (Below w.heap.size w w4) := below_app HN2.out HO2.out hgrow4 HN2.out.size (Nat.le_refl _)
          clear hown4 hgrow4 hv
          go_wp2
          go_roundw
          case rel => exact ⟨2, m + 1, a4, c4, by omega, by omega, by go_num, rfl, O4.out, N4.out⟩
          case measure => simp [intOf]
      · have F : Hid (IOwn wr w.heap.size wr.heap.size (.slice a' m c') (partI (bitS n) 7)) := EX.out (by have := H0.out; omega)
        clear HF HO2 HN2 S2 EX
        go_wp2_with fail
        go_ret
        exact ⟨_, rfl, F.out, HN.out⟩
    · by_cases hq : 0 < n / 4
      · have e : bitS n 2 = (bits .and .i64 (n / 4) 1 == 1) := by rw [i64_and1]; simp [bitS]
        cases hv : (bits .and .i64 (n / 4) 1 == 1)
        · have F : Hid (partI (bitS n) 3 = partI (bitS n) 2) := by show _ = _; rw [HF.out, e, hv]; exact List.append_nil _
          clear HF HO2 HN2 S2 EX e
          go_wp2_with fail
          go_roundw
          case rel => exact ⟨3, m, a', c', by omega, by omega, by go_num, rfl, by rw [F.out]; exact HO.out, HN.out⟩
          case measure => simp [intOf]
        · have F : Hid (partI (bitS n) 3 = partI (bitS n) 2 ++ [((2 : Nat) : Int)]) := by show _ = _; rw [HF.out, e, hv]; rfl
          clear HF EX e
          go_wp2_with (at_builtin; refine App.wpList_append_all _ rfl _ _ 34 rfl w.heap.size 3 i0 (.int .i64 0) 1 8 Try.underlying34 hi hz0 hz1 hz2 rfl (by decide) _ _ _ rfl HO2.out _ 1 _ [.int .i64 ((2 : Nat) : Int)] rfl rfl S2.out (by simp [Value.oneCell']) (by unfold maxLen; omega) (by omega) HN2.out.size ?_)
          intro a4 c4 w4 hown4 hgrow4
          have O4 : Hid (w4.ownsRow w.heap.size 3 1 (.slice a4 (m + 1) c4) (m + 1) (ints .i64 (partI (bitS n) 3))) := by show World.ownsRow _ _ _ _ _ _ _; rw [F.out]; simpa [ints] using hown4
          have N4 : Hid (Below w.heap.size w w4) := below_app HN2.out HO2.out hgrow4 HN2.out.size (Nat.le_refl _)
          clear hown4 hgrow4 hv
          go_wp2
          go_roundw
          case rel => exact ⟨3, m + 1, a4, c4, by omega, by omega, by go_num, rfl, O4.out, N4.out⟩
          case measure => simp [intOf]
      · have F : Hid (IOwn wr w.heap.size wr.heap.size (.slice a' m c') (partI (bitS n) 7)) := EX.out (by have := H0.out; omega)
        clear HF HO2 HN2 S2 EX
        go_wp2_with fail
        go_ret
        exact ⟨_, rfl, F.out, HN.out⟩
    · by_cases hq : 0 < n / 8
      · have e : bitS n 3 = (bits .and .i64 (n / 8) 1 == 1) := by rw [i64_and1]; simp [bitS]
        cases hv : (bits .and .i64 (n / 8) 1 == 1)
        · have F : Hid (partI (bitS n) 4 = partI (bitS n) 3) := by show _ = _; rw [HF.out, e, hv]; exact List.append_nil _
          clear HF HO2 HN2 S2 EX e
          go_wp2_with fail
          go_roundw
          case rel => exact ⟨4, m, a', c', by omega, by omega, by go_num, rfl, by rw [F.out]; exact HO.out, HN.out⟩
          case measure => simp [intOf]
        · have F : Hid (partI (bitS n) 4 = partI (bitS n) 3 ++ [((3 : Nat) : Int)]) := by show _ = _; rw [HF.out, e, hv]; rfl
          clear HF EX e
          go_wp2_with (at_builtin; refine App.wpList_append_all _ rfl _ _ 34 rfl w.heap.size 3 i0 (.int .i64 0) 1 8 Try.underlying34 hi hz0 hz1 hz2 rfl (by decide) _ _ _ rfl HO2.out _ 1 _ [.int .i64 ((3 : Nat) : Int)] rfl rfl S2.out (by simp [Value.oneCell']) (by unfold maxLen; omega) (by omega) HN2.out.size ?_)
          intro a4 c4 w4 hown4 hgrow4
          have O4 : Hid (w4.ownsRow w.heap.size 3 1 (.slice a4 (m + 1) c4) (m + 1) (ints .i64 (partI (bitS n) 4))) := by show World.ownsRow _ _ _ _ _ _ _; rw [F.out]; simpa [ints] using hown4
          have N4 : Hid (Below w.heap.size w w4) := below_app HN2.out HO2.out hgrow4 HN2.out.size (Nat.le_refl _)
          clear hown4 hgrow4 hv
          go_wp2
          go_roundw
          case rel => exact ⟨4, m + 1, a4, c4, by omega, by omega, by go_num, rfl, O4.out, N4.out⟩
          case measure => simp [intOf]
      · have F : Hid (IOwn wr w.heap.size wr.heap.size (.slice a' m c') (partI (bitS n) 7)) := EX.out (by have := H0.out; omega)
        clear HF HO2 HN2 S2 EX
        go_wp2_with fail
        go_ret
        exact ⟨_, rfl, F.out, HN.out⟩
    · by_cases hq : 0 < n / 16
      · have e : bitS n 4 = (bits .and .i64 (n / 16) 1 == 1) := by rw [i64_and1]; simp [bitS]
        cases hv : (bits .and .i64 (n / 16) 1 == 1)
        · have F : Hid (partI (bitS n) 5 = partI (bitS n) 4) := by show _ = _; rw [HF.out, e, hv]; exact List.append_nil _
          clear HF HO2 HN2 S2 EX e
          go_wp2_with fail
          go_roundw
          case rel => exact ⟨5, m, a', c', by omega, by omega, by go_num, rfl, by rw [F.out]; exact HO.out, HN.out⟩
          case measure => simp [intOf]
        · have F : Hid (partI (bitS n) 5 = partI (bitS n) 4 ++ [((4 : Nat) : Int)]) := by show _ = _; rw [HF.out, e, hv]; rfl
          clear HF EX e
          go_wp2_with (at_builtin; refine App.wpList_append_all _ rfl _ _ 34 rfl w.heap.size 3 i0 (.int .i64 0) 1 8 Try.underlying34 hi hz0 hz1 hz2 rfl (by decide) _ _ _ rfl HO2.out _ 1 _ [.int .i64 ((4 : Nat) : Int)] rfl rfl S2.out (by simp [Value.oneCell']) (by unfold maxLen; omega) (by omega) HN2.out.size ?_)
          intro a4 c4 w4 hown4 hgrow4
          have O4 : Hid (w4.ownsRow w.heap.size 3 1 (.slice a4 (m + 1) c4) (m + 1) (ints .i64 (partI (bitS n) 5))) := by show World.ownsRow _ _ _ _ _ _ _; rw [F.out]; simpa [ints] using hown4
          have N4 : Hid (Below w.heap.size w w4) := below_app HN2.out HO2.out hgrow4 HN2.out.size (Nat.le_refl _)
          clear hown4 hgrow4 hv
          go_wp2
          go_roundw
          case rel => exact ⟨5, m + 1, a4, c4, by omega, by omega, by go_num, rfl, O4.out, N4.out⟩
          case measure => simp [intOf]
      · have F : Hid (IOwn wr w.heap.size wr.heap.size (.slice a' m c') (partI (bitS n) 7)) := EX.out (by have := H0.out; omega)
        clear HF HO2 HN2 S2 EX
        go_wp2_with fail
        go_ret
        exact ⟨_, rfl, F.out, HN.out⟩
    · by_cases hq : 0 < n / 32
      · have e : bitS n 5 = (bits .and .i64 (n / 32) 1 == 1) := by rw [i64_and1]; simp [bitS]
        cases hv : (bits .and .i64 (n / 32) 1 == 1)
        · have F : Hid (partI (bitS n) 6 = partI (bitS n) 5) := by show _ = _; rw [HF.out, e, hv]; exact List.append_nil _
          clear HF HO2 HN2 S2 EX e
          go_wp2_with fail
          go_roundw
          case rel => exact ⟨6, m, a', c', by omega, by omega, by go_num, rfl, by rw [F.out]; exact HO.out, HN.out⟩
          case measure => simp [intOf]
        · have F : Hid (partI (bitS n) 6 = partI (bitS n) 5 ++ [((5 : Nat) : Int)]) := by show _ = _; rw [HF.out, e, hv]; rfl
          clear HF EX e
          go_wp2_with (at_builtin; refine App.wpList_append_all _ rfl _ _ 34 rfl w.heap.size 3 i0 (.int .i64 0) 1 8 Try.underlying34 hi hz0 hz1 hz2 rfl (by decide) _ _ _ rfl HO2.out _ 1 _ [.int .i64 ((5 : Nat) : Int)] rfl rfl S2.out (by simp [Value.oneCell']) (by unfold maxLen; omega) (by omega) HN2.out.size ?_)
          intro a4 c4 w4 hown4 hgrow4
          have O4 : Hid (w4.ownsRow w.heap.size 3 1 (.slice a4 (m + 1) c4) (m + 1) (ints .i64 (partI (bitS n) 6))) := by show World.ownsRow _ _ _ _ _ _ _; rw [F.out]; simpa [ints] using hown4
          have N4 : Hid (Below w.heap.size w w4) := below_app HN2.out HO2.out hgrow4 HN2.out.size (Nat.le_refl _)
          clear hown4 hgrow4 hv
          go_wp2
          go_roundw
          case rel => exact ⟨6, m + 1, a4, c4, by omega, by omega, by go_num, rfl, O4.out, N4.out⟩
          case measure => simp [intOf]
      · have F : Hid (IOwn wr w.heap.size wr.heap.size (.slice a' m c') (partI (bitS n) 7)) := EX.out (by have := H0.out; omega)
        clear HF HO2 HN2 S2 EX
        go_wp2_with fail
        go_ret
        exact ⟨_, rfl, F.out, HN.out⟩
    · by_cases hq : 0 < n / 64
      · have e : bitS n 6 = (bits .and .i64 (n / 64) 1 == 1) := by rw [i64_and1]; simp [bitS]
        cases hv : (bits .and .i64 (n / 64) 1 == 1)
        · have F : Hid (partI (bitS n) 7 = partI (bitS n) 6) := by show _ = _; rw [HF.out, e, hv]; exact List.append_nil _
          clear HF HO2 HN2 S2 EX e
          go_wp2_with fail
          go_roundw
          case rel => exact ⟨7, m, a', c', by omega, by omega, by go_num, rfl, by rw [F.out]; exact HO.out, HN.out⟩
          case measure => simp [intOf]
        · have F : Hid (partI (bitS n) 7 = partI (bitS n) 6 ++ [((6 : Nat) : Int)]) := by show _ = _; rw [HF.out, e, hv]; rfl
          clear HF EX e
          go_wp2_with (at_builtin; refine App.wpList_append_all _ rfl _ _ 34 rfl w.heap.size 3 i0 (.int .i64 0) 1 8 Try.underlying34 hi hz0 hz1 hz2 rfl (by decide) _ _ _ rfl HO2.out _ 1 _ [.int .i64 ((6 : Nat) : Int)] rfl rfl S2.out (by simp [Value.oneCell']) (by unfold maxLen; omega) (by omega) HN2.out.size ?_)
          intro a4 c4 w4 hown4 hgrow4
          have O4 : Hid (w4.ownsRow w.heap.size 3 1 (.slice a4 (m + 1) c4) (m + 1) (ints .i64 (partI (bitS n) 7))) := by show World.ownsRow _ _ _ _ _ _ _; rw [F.out]; simpa [ints] using hown4
          have N4 : Hid (Below w.heap.size w w4) := below_app HN2.out HO2.out hgrow4 HN2.out.size (Nat.le_refl _)
          clear hown4 hgrow4 hv
          go_wp2
          go_roundw
          case rel => exact ⟨7, m + 1, a4, c4, by omega, by omega, by go_num, rfl, O4.out, N4.out⟩
          case measure => simp [intOf]
      · have F : Hid (IOwn wr w.heap.size wr.heap.size (.slice a' m c') (partI (bitS n) 7)) := EX.out (by have := H0.out; omega)
        clear HF HO2 HN2 S2 EX
        go_wp2_with fail
        go_ret
        exact ⟨_, rfl, F.out, HN.out⟩
    · by_cases hq : 0 < n / 128
      · exact absurd hq (by have := H1.out; omega)
      · have F : Hid (IOwn wr w.heap.size wr.heap.size (.slice a' m c') (partI (bitS n) 7)) := EX.out (by have := H0.out; omega)
        clear HF HO2 HN2 S2 EX
        go_wp2_with fail
        go_ret
        exact ⟨_, rfl, F.out, HN.out⟩

theorem l5List (n : Nat) (w : World) (h1 : n < 64) :
    Calls Try.prog 28 #[.int .i64 (n : Int)] w fun e w' => ∃ u, e = .returned u ∧ IOwn w' w.heap.size w'.heap.size u (listI (bitS (n : Int))) ∧ Below w.heap.size w w' := by
  have h := l5List7 (n : Int) w (by omega) (by omega)
  rw [part_six (by omega) (by omega)] at h
  exact h


end Go.Proofs.Ytekheacbmbbpmaa.Bsp
