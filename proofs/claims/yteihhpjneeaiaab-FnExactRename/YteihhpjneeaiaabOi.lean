/-
  Contracts of the program's has on tuples, and of what it keeps for WithoutOf.
-/
import Derived.Test.YteihhpjneeaiaabOf
import Derived.Test.YteihhpjneeaiaabOe
import Derived.Test.YteihhpjneeaiaabOh
namespace Go.Proofs.Yteihhpjneeaiaab.Oi
open Go.RowKit
open Go.Proofs.Yteihhpjneeaiaab.Frame Go.Proofs.Yteihhpjneeaiaab.Mem Go.Proofs.Yteihhpjneeaiaab.Ints Go.Proofs.Yteihhpjneeaiaab.Kep Go.Proofs.Yteihhpjneeaiaab.Lls Go.Proofs.Yteihhpjneeaiaab.Rpu Go.Proofs.Yteihhpjneeaiaab.Krl Go.Proofs.Yteihhpjneeaiaab.Oa Go.Proofs.Yteihhpjneeaiaab.Ob Go.Proofs.Yteihhpjneeaiaab.Oe Go.Proofs.Yteihhpjneeaiaab.Oh Go.Proofs.Yteihhpjneeaiaab.Mis Go.Proofs.Yteihhpjneeaiaab.Told Go.Proofs.Yteihhpjneeaiaab.Rel

theorem strict_get {ts : Rel.Ll} (h : Strict ts) {i j : Nat} (hij : i < j) (hj : j < ts.length) : cmpL (ts.getD i []) (ts.getD j []) < 0 := by
  have := (List.pairwise_iff_getElem.1 h) i j (by omega) hj hij
  simpa [List.getD, hj, show i < ts.length by omega] using this
theorem found_ls {ts : Rel.Ll} {x : List Int} {k : Nat} (h1 : ∀ t, t < k → cmpL (ts.getD t []) x < 0) (h2 : ∀ t, k ≤ t → t < ts.length → ¬ cmpL (ts.getD t []) x < 0) (hu : Strict ts) : decide (x ∈ ts) = (decide (k < ts.length) && decide (ts.getD k [] = x)) := by
  rw [Bool.eq_iff_iff, Bool.and_eq_true, decide_eq_true_eq, decide_eq_true_eq, decide_eq_true_eq]
  constructor
  · intro hx
    obtain ⟨i, hi, e⟩ := List.getElem_of_mem hx
    have e' : ts.getD i [] = x := by simp [List.getD, hi, e]
    have hki : ¬ i < k := fun h => by
      have := h1 i h
      rw [e', cmpL_self] at this
      omega
    have hk : k < ts.length := by omega
    refine ⟨hk, ?_⟩
    by_cases hik : i = k
    · rw [← hik]; exact e'
    · have h3 := strict_get hu (i := k) (j := i) (by omega) hi
      rw [e'] at h3
      exact absurd h3 (h2 k (Nat.le_refl _) hk)
  · rintro ⟨hk, e⟩
    rw [← e]
    exact getD_mem_l hk

set_option maxHeartbeats 1600000 in
theorem search_ls (a xa : Option Addr) (n ca xn xc : Nat) (rs : List LV) (x : List Int) (w : World) (ha : IsLs w a n ca rs) (hx : IsRow .i64 w xa xn xc x) (hn : n ≤ 1048576) (hu : Strict (lplain rs)) :
    Calls Try.prog 60 #[.slice a n ca, .slice xa xn xc, .func (.func 39) #[] #[]] w fun e w' => ∃ k : Nat, e = .returned (.tuple #[.int .i64 k, .bool (decide (x ∈ lplain rs))]) ∧ w' = w := by
  have HI : Hid (IsLs w a n ca rs) := ha
  have HX : Hid (IsRow .i64 w xa xn xc x) := hx
  have LR : Hid (rs.length = n) := ha.len
  have LA : Hid ((lplain rs).length = n) := by show _ = _; rw [Oa.lplain_length]; exact ha.len
  have HU : Hid (Strict (lplain rs)) := hu
  clear ha hu hx
  go_enter Try.func60, Try.ntmps60
  go_wp2
  go_loop [9, 10] (fun s9 s10 => ∃ lo hi : Nat, s9 = .int .i64 lo ∧ s10 = .int .i64 hi ∧ lo ≤ hi ∧ hi ≤ n ∧ (∀ t, t < lo → cmpL ((lplain rs).getD t []) x < 0) ∧ (∀ t, hi ≤ t → t < (lplain rs).length → 0 ≤ cmpL ((lplain rs).getD t []) x)) (fun s9 s10 => (intOf s10).toNat - (intOf s9).toNat)
  case atStart => exact ⟨0, n, rfl, rfl, Nat.zero_le _, Nat.le_refl _, fun t ht => absurd ht (by omega), fun t h1 h2 => absurd h2 (by rw [LA.out]; omega)⟩
  case round =>
    obtain ⟨lo, hi, rfl, rfl, hlh, hin, h1, h2⟩ := hrel
    have I : Hid ((∀ t, t < lo → cmpL ((lplain rs).getD t []) x < 0) ∧ (∀ t, hi ≤ t → t < (lplain rs).length → 0 ≤ cmpL ((lplain rs).getD t []) x)) := ⟨h1, h2⟩
    clear h1 h2
    by_cases hlt : lo < hi
    · obtain ⟨b, off, rfl, hbl, hc⟩ := HI.out.cells (by omega)
      have hcm := hc ((lo + hi) / 2) (by omega)
      have hml : (lo + hi) / 2 < rs.length := by rw [LR.out]; omega
      have hrow := HI.out.rows _ (getD_mem_ld hml)
      have HY : Hid ((cmpL ((lplain rs).getD ((lo + hi) / 2) []) x < 0 → ∀ t, t < (lo + hi) / 2 + 1 → cmpL ((lplain rs).getD t []) x < 0) ∧ (¬ cmpL ((lplain rs).getD ((lo + hi) / 2) []) x < 0 → ∀ t, (lo + hi) / 2 ≤ t → t < (lplain rs).length → 0 ≤ cmpL ((lplain rs).getD t []) x)) := by
        refine ⟨fun h t ht => ?_, fun h t ht htn => Int.not_lt.1 fun hh => ?_⟩
        · by_cases e : t = (lo + hi) / 2
          · rw [e]; exact h
          · exact cmpL_trans (strict_get HU.out (i := t) (j := (lo + hi) / 2) (by omega) (by rw [LA.out]; omega)) h
        · by_cases e : t = (lo + hi) / 2
          · rw [e] at hh; exact h hh
          · exact h (cmpL_trans (strict_get HU.out (i := (lo + hi) / 2) (j := t) (by omega) htn) hh)
      rw [lplain_get rs _ hml] at HY
      generalize rs.getD ((lo + hi) / 2) ld = y at hcm hrow HY
      obtain ⟨ya, yn, yc, yz⟩ := y
      simp only at hcm hrow
      have HROW : Hid (IsRow .i64 w ya yn yc yz) := hrow
      have HYY : Hid ((cmpL yz x < 0 → ∀ t, t < (lo + hi) / 2 + 1 → cmpL ((lplain rs).getD t []) x < 0) ∧ (¬ cmpL yz x < 0 → ∀ t, (lo + hi) / 2 ≤ t → t < (lplain rs).length → 0 ≤ cmpL ((lplain rs).getD t []) x)) := HY.out
      clear hc hml hrow HY
      by_cases hv : cmpL yz x < 0
      · have F : Hid (∀ t, t < (lo + hi) / 2 + 1 → cmpL ((lplain rs).getD t []) x < 0) := HYY.out.1 hv
        clear HYY
        go_wp2_with fail
        refine (byNumbers _ _ _ _ _ _ yz x _ HROW.out HX.out).mono ?_
        rintro e w' ⟨rfl, rfl⟩
        go_wp2
        go_round
        case rel => exact ⟨(lo + hi) / 2 + 1, hi, by rw [show ((lo : Int) + (hi : Int)) / 2 + 1 = (((lo + hi) / 2 + 1 : Nat) : Int) by omega], rfl, by omega, hin, F.out, I.out.2⟩
        case measure => simp [intOf]; omega
      · have F : Hid (∀ t, (lo + hi) / 2 ≤ t → t < (lplain rs).length → 0 ≤ cmpL ((lplain rs).getD t []) x) := HYY.out.2 hv
        clear HYY
        go_wp2_with fail
        refine (byNumbers _ _ _ _ _ _ yz x _ HROW.out HX.out).mono ?_
        rintro e w' ⟨rfl, rfl⟩
        go_wp2
        go_round
        case rel => exact ⟨lo, (lo + hi) / 2, rfl, by rw [show ((lo : Int) + (hi : Int)) / 2 = (((lo + hi) / 2 : Nat) : Int) by omega], by omega, by omega, I.out.1, F.out⟩
        case measure => simp [intOf]; omega
    · obtain rfl : hi = lo := by omega
      have FD := found_ls I.out.1 (fun t h3 h4 => by have := I.out.2 t h3 h4; omega) HU.out
      by_cases hn' : hi < n
      · obtain ⟨b, off, rfl, hbl, hc⟩ := HI.out.cells (by omega)
        have hck := hc hi hn'
        have hml : hi < rs.length := by rw [LR.out]; omega
        have hrow := HI.out.rows _ (getD_mem_ld hml)
        rw [LA.out, decide_eq_true hn', Bool.true_and, lplain_get rs _ hml] at FD
        generalize rs.getD hi ld = y at hck hrow FD
        obtain ⟨ya, yn, yc, yz⟩ := y
        simp only at hck hrow FD
        have HROW : Hid (IsRow .i64 w ya yn yc yz) := hrow
        have HFD : Hid (decide (x ∈ lplain rs) = decide (yz = x)) := FD
        clear hc FD hml hrow
        by_cases hv : yz = x
        · have F : Hid (decide (x ∈ lplain rs) = true) := by rw [HFD.out]; exact decide_eq_true hv
          have e0 : cmpL yz x = 0 := by rw [hv]; exact cmpL_self _
          clear HFD hv
          go_wp2_with fail
          refine (byNumbers _ _ _ _ _ _ yz x _ HROW.out HX.out).mono ?_
          rintro e w' ⟨rfl, rfl⟩
          rw [e0]
          go_wp2
          go_ret2
          rw [F.out]
          first | exact ⟨_, rfl, rfl⟩ | exact ⟨⟨_, rfl⟩, rfl⟩
        · have F : Hid (decide (x ∈ lplain rs) = false) := by rw [HFD.out]; exact decide_eq_false hv
          have e0 : (cmpL yz x == 0) = false := by rw [beq_eq_false_iff_ne]; exact fun h => hv (cmpL_zero h)
          clear HFD hv
          go_wp2_with fail
          refine (byNumbers _ _ _ _ _ _ yz x _ HROW.out HX.out).mono ?_
          rintro e w' ⟨rfl, rfl⟩
          go_wp2
          go_ret2
          rw [F.out]
          first | exact ⟨_, rfl, rfl⟩ | exact ⟨⟨_, rfl⟩, rfl⟩
      · have F : Hid (decide (x ∈ lplain rs) = false) := by
          rw [LA.out, decide_eq_false hn', Bool.false_and] at FD
          exact FD
        clear FD
        go_wp2
        go_ret2
        rw [F.out]
        first | exact ⟨_, rfl, rfl⟩ | exact ⟨⟨_, rfl⟩, rfl⟩

theorem has_ls (a xa : Option Addr) (n ca xn xc : Nat) (rs : List LV) (x : List Int) (w : World) (ha : IsLs w a n ca rs) (hx : IsRow .i64 w xa xn xc x) (hn : n ≤ 1048576) (hu : Strict (lplain rs)) :
    Calls Try.prog 38 #[.slice a n ca, .slice xa xn xc, .func (.func 39) #[] #[]] w fun e w' => e = .returned (.bool (decide (x ∈ lplain rs))) ∧ w' = w := by
  have HA : Hid (IsLs w a n ca rs) := ha
  have HX : Hid (IsRow .i64 w xa xn xc x) := hx
  have HU : Hid (Strict (lplain rs)) := hu
  clear ha hu hx
  go_enter Try.func38, Try.ntmps38
  go_wp2_with fail
  refine (search_ls _ _ _ _ _ _ rs x _ HA.out HX.out hn HU.out).mono ?_
  rintro e w' ⟨k, rfl, rfl⟩
  go_wp2
  go_ret
  exact ⟨rfl, rfl⟩

theorem without_closure (xa : Option Addr) (xn xc : Nat) (x : List Int) (pb snn snc : Nat) (qa : Option Addr) (qs : List LV) (w : World) (hc : w.cell? ⟨pb, 1, none⟩ = some (.slice qa snn snc)) (hq : IsLs w qa snn snc qs) (hx : IsRow .i64 w xa xn xc x) (hn : snn ≤ 1048576) (hu : Strict (lplain qs)) :
    Calls Try.prog 37 #[.slice xa xn xc, .pointer (some ⟨pb, 0, none⟩)] w fun e w' => e = .returned (.bool (!decide (x ∈ lplain qs))) ∧ w' = w := by
  have HQ : Hid (IsLs w qa snn snc qs) := hq
  have HX : Hid (IsRow .i64 w xa xn xc x) := hx
  have HU : Hid (Strict (lplain qs)) := hu
  clear hq hx hu
  go_enter Try.func37, Try.ntmps37
  go_wp2_with fail
  refine (has_ls _ _ _ _ _ _ qs x _ HQ.out HX.out hn HU.out).mono ?_
  rintro e w' ⟨rfl, rfl⟩
  go_wp2
  go_ret
  exact ⟨rfl, rfl⟩


end Go.Proofs.Yteihhpjneeaiaab.Oi
