/-
  Contracts of the program's has: what stands in a list that rises.
-/
import Derived.Test.YtekheacbmbbpmaaOa
namespace Go.Proofs.Ytekheacbmbbpmaa.Of
open Go.RowKit
open Go.Proofs.Ytekheacbmbbpmaa.Frame Go.Proofs.Ytekheacbmbbpmaa.Mem Go.Proofs.Ytekheacbmbbpmaa.Ints Go.Proofs.Ytekheacbmbbpmaa.Kep Go.Proofs.Ytekheacbmbbpmaa.Lls Go.Proofs.Ytekheacbmbbpmaa.Rpu Go.Proofs.Ytekheacbmbbpmaa.Krl Go.Proofs.Ytekheacbmbbpmaa.Oa Go.Proofs.Ytekheacbmbbpmaa.Rel

theorem found_int {zs : List Int} {x : Int} {k : Nat} (h1 : ∀ t, t < k → zs.getD t 0 < x) (h2 : ∀ t, k ≤ t → t < zs.length → x ≤ zs.getD t 0) (hu : UpN zs) : decide (x ∈ zs) = (decide (k < zs.length) && decide (zs.getD k 0 = x)) := by
  rw [Bool.eq_iff_iff, Bool.and_eq_true, decide_eq_true_eq, decide_eq_true_eq, decide_eq_true_eq]
  constructor
  · intro hx
    obtain ⟨i, hi, e⟩ := List.getElem_of_mem hx
    have e' : zs.getD i 0 = x := by simp [List.getD, hi, e]
    have hki : ¬ i < k := fun h => by have := h1 i h; omega
    have hk : k < zs.length := by omega
    refine ⟨hk, ?_⟩
    by_cases hik : i = k
    · rw [← hik]; exact e'
    · have := upN_get hu (i := k) (j := i) (by omega) hi
      have := h2 k (Nat.le_refl _) hk
      omega
  · rintro ⟨hk, e⟩
    rw [← e]
    exact getD_mem hk

set_option maxHeartbeats 800000 in
theorem search_int (a : Option Addr) (n ca : Nat) (zs : List Int) (x : Int) (w : World) (ha : IsRow .i64 w a n ca zs) (hn : n ≤ 1048576) (hu : UpN zs) :
    Calls Try.prog 75 #[.slice a n ca, .int .i64 x, .func (.func 53) #[] #[]] w fun e w' => ∃ k : Nat, e = .returned (.tuple #[.int .i64 k, .bool (decide (x ∈ zs))]) ∧ w' = w := by
  have HAs : Hid (0 < n → ∃ b off, a = some ⟨b, off, none⟩ ∧ b < w.heap.size ∧ ∀ i, i < n → w.cell? ⟨b, off + i, none⟩ = some (.int .i64 (zs.getD i 0))) := ha.cells
  have LA : Hid (zs.length = n) := ha.len
  have HU : Hid (UpN zs) := hu
  clear ha hu
  go_enter Try.func75, Try.ntmps75
  go_wp2
  go_loop [9, 10] (fun s9 s10 => ∃ lo hi : Nat, s9 = .int .i64 lo ∧ s10 = .int .i64 hi ∧ lo ≤ hi ∧ hi ≤ n ∧ (∀ t, t < lo → zs.getD t 0 < x) ∧ (∀ t, hi ≤ t → t < zs.length → x ≤ zs.getD t 0)) (fun s9 s10 => (intOf s10).toNat - (intOf s9).toNat)
  case atStart => exact ⟨0, n, rfl, rfl, Nat.zero_le _, Nat.le_refl _, fun t ht => absurd ht (by omega), fun t h1 h2 => absurd h2 (by rw [LA.out]; omega)⟩
  case round =>
    obtain ⟨lo, hi, rfl, rfl, hlh, hin, h1, h2⟩ := hrel
    have I : Hid ((∀ t, t < lo → zs.getD t 0 < x) ∧ (∀ t, hi ≤ t → t < zs.length → x ≤ zs.getD t 0)) := ⟨h1, h2⟩
    clear h1 h2
    by_cases hlt : lo < hi
    · obtain ⟨b, off, rfl, hbl, hc⟩ := HAs.out (by omega)
      have hcm := hc ((lo + hi) / 2) (by omega)
      have HX : Hid ((zs.getD ((lo + hi) / 2) 0 < x → ∀ t, t < (lo + hi) / 2 + 1 → zs.getD t 0 < x) ∧ (¬ zs.getD ((lo + hi) / 2) 0 < x → ∀ t, (lo + hi) / 2 ≤ t → t < zs.length → x ≤ zs.getD t 0)) := by
        refine ⟨fun h t ht => ?_, fun h t ht htn => ?_⟩
        · by_cases e : t = (lo + hi) / 2
          · rw [e]; exact h
          · have := upN_get HU.out (i := t) (j := (lo + hi) / 2) (by omega) (by rw [LA.out]; omega)
            omega
        · by_cases e : t = (lo + hi) / 2
          · rw [e]; omega
          · have := upN_get HU.out (i := (lo + hi) / 2) (j := t) (by omega) htn
            omega
      generalize zs.getD ((lo + hi) / 2) 0 = y at hcm HX
      have hcn := cmpI_neg (x := y) (y := x)
      clear hc
      by_cases hv : y < x
      · have F : Hid (∀ t, t < (lo + hi) / 2 + 1 → zs.getD t 0 < x) := HX.out.1 hv
        have hc0 : cmpI y x < 0 := hcn.2 hv
        clear HX hcn hv
        go_wp2_with fail
        refine (byNumber _ _ _).mono ?_
        rintro e w' ⟨rfl, rfl⟩
        go_wp2
        go_round
        case rel => exact ⟨(lo + hi) / 2 + 1, hi, by rw [show ((lo : Int) + (hi : Int)) / 2 + 1 = (((lo + hi) / 2 + 1 : Nat) : Int) by omega], rfl, by omega, hin, F.out, I.out.2⟩
        case measure => simp [intOf]; omega
      · have F : Hid (∀ t, (lo + hi) / 2 ≤ t → t < zs.length → x ≤ zs.getD t 0) := HX.out.2 hv
        have hc0 : ¬ cmpI y x < 0 := fun h => hv (hcn.1 h)
        clear HX hcn hv
        go_wp2_with fail
        refine (byNumber _ _ _).mono ?_
        rintro e w' ⟨rfl, rfl⟩
        go_wp2
        go_round
        case rel => exact ⟨lo, (lo + hi) / 2, rfl, by rw [show ((lo : Int) + (hi : Int)) / 2 = (((lo + hi) / 2 : Nat) : Int) by omega], by omega, by omega, I.out.1, F.out⟩
        case measure => simp [intOf]; omega
    · obtain rfl : hi = lo := by omega
      have FD := found_int I.out.1 I.out.2 HU.out
      by_cases hn' : hi < n
      · obtain ⟨b, off, rfl, hbl, hc⟩ := HAs.out (by omega)
        have hck := hc hi hn'
        rw [LA.out, decide_eq_true hn', Bool.true_and] at FD
        generalize zs.getD hi 0 = y at hck FD
        have HFD : Hid (decide (x ∈ zs) = decide (y = x)) := FD
        have hcz := cmpI_zero (x := y) (y := x)
        clear hc FD
        by_cases hv : y = x
        · have F : Hid (decide (x ∈ zs) = true) := by rw [HFD.out]; exact decide_eq_true hv
          have e0 : cmpI y x = 0 := hcz.2 hv
          clear HFD hcz hv
          go_wp2_with fail
          refine (byNumber _ _ _).mono ?_
          rintro e w' ⟨rfl, rfl⟩
          rw [e0]
          go_wp2
          go_ret2
          rw [F.out]
          first | exact ⟨_, rfl, rfl⟩ | exact ⟨⟨_, rfl⟩, rfl⟩
        · have F : Hid (decide (x ∈ zs) = false) := by rw [HFD.out]; exact decide_eq_false hv
          have e0 : (cmpI y x == 0) = false := by rw [beq_eq_false_iff_ne]; exact fun h => hv (hcz.1 h)
          clear HFD hcz hv
          go_wp2_with fail
          refine (byNumber _ _ _).mono ?_
          rintro e w' ⟨rfl, rfl⟩
          go_wp2
          go_ret2
          rw [F.out]
          first | exact ⟨_, rfl, rfl⟩ | exact ⟨⟨_, rfl⟩, rfl⟩
      · have F : Hid (decide (x ∈ zs) = false) := by
          rw [LA.out, decide_eq_false hn', Bool.false_and] at FD
          exact FD
        clear FD
        go_wp2
        go_ret2
        rw [F.out]
        first | exact ⟨_, rfl, rfl⟩ | exact ⟨⟨_, rfl⟩, rfl⟩

theorem has_int (a : Option Addr) (n ca : Nat) (zs : List Int) (x : Int) (w : World) (ha : IsRow .i64 w a n ca zs) (hn : n ≤ 1048576) (hu : UpN zs) :
    Calls Try.prog 61 #[.slice a n ca, .int .i64 x, .func (.func 53) #[] #[]] w fun e w' => e = .returned (.bool (decide (x ∈ zs))) ∧ w' = w := by
  have HA : Hid (IsRow .i64 w a n ca zs) := ha
  have HU : Hid (UpN zs) := hu
  clear ha hu
  go_enter Try.func61, Try.ntmps61
  go_wp2_with fail
  refine (search_int _ _ _ zs x _ HA.out hn HU.out).mono ?_
  rintro e w' ⟨k, rfl, rfl⟩
  go_wp2
  go_ret
  exact ⟨rfl, rfl⟩


end Go.Proofs.Ytekheacbmbbpmaa.Of
