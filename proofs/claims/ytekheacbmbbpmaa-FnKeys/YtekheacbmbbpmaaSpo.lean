/-
  Contract of the model's l1Put: a number put into a rising list.
-/
import Derived.Test.YtekheacbmbbpmaaMis
import Derived.Test.YtekheacbmbbpmaaRel
namespace Go.Proofs.Ytekheacbmbbpmaa.Spo
open Go.RowKit
open Go.Proofs.Ytekheacbmbbpmaa.Frame Go.Proofs.Ytekheacbmbbpmaa.Mem Go.Proofs.Ytekheacbmbbpmaa.Ints Go.Proofs.Ytekheacbmbbpmaa.Kep Go.Proofs.Ytekheacbmbbpmaa.Mis Go.Proofs.Ytekheacbmbbpmaa.Rel

theorem put_own {w : World} {base k m c : Nat} {a : Option Addr} {z : Int} {zs : List Int} (hin : putN z zs = zs.take k ++ z :: zs.drop k)
    (h : w.ownsRow base 3 1 (.slice a (k + 1 + m) c) (k + 1 + m) (ints .i64 (zs.take k) ++ [.int .i64 z] ++ ints .i64 (zs.drop k))) : w.ownsRow base 3 1 (.slice a (k + 1 + m) c) (k + 1 + m) (ints .i64 (putN z zs)) := by
  have e : ints .i64 (zs.take k) ++ [.int .i64 z] ++ ints .i64 (zs.drop k) = ints .i64 (putN z zs) := by rw [hin]; unfold ints; simp
  rwa [e] at h

set_option maxRecDepth 4000 in
set_option maxHeartbeats 3200000 in
theorem spec_l1Put (a : Option Addr) (n ca : Nat) (zs : List Int) (z : Int) (w : World) (ha : IsRow .i64 w a n ca zs) (hs : (n = 0 ∧ a = none ∧ ca = 0) ∨ ∃ g, a = some ⟨g, 0, none⟩) (hn : n ≤ 100000) (hz : (Lit.int .i64 z).wf = true) :
    Calls Try.prog 49 #[.slice a n ca, .int .i64 z] w fun e w' => ∃ a' m c', e = .returned (.slice a' m c') ∧ ((a' = a ∧ m = n ∧ c' = ca ∧ w' = w ∧ putN z zs = zs) ∨ (w'.ownsRow w.heap.size 3 1 (.slice a' m c') m (ints .i64 (putN z zs)) ∧ m ≤ n + 1)) ∧ Below w.heap.size w w' := by
  obtain ⟨i0, hi, hz0, hz1, hz2⟩ := info_parts Ints.info
  have HI : Hid (IsRow .i64 w a n ca zs) := ha
  have HL : Hid (zs.length = n) := ha.len
  have HW : Hid (∀ x ∈ zs, (Lit.int .i64 x).wf = true) := ha.wf
  have HZ : Hid ((Lit.int .i64 z).wf = true) := hz
  have hcn := ha.fits
  have hcm := ha.max
  unfold maxLen at hcm
  clear ha hz
  rcases hs with ⟨rfl, rfl, rfl⟩ | ⟨g, rfl⟩
  · have hzs0 : zs = [] := List.eq_nil_of_length_eq_zero HL.out
    have HIN : Hid (putN z zs = zs.take 0 ++ z :: zs.drop 0) := by show _ = _; rw [hzs0]; rfl
    clear hzs0
    go_enter Try.func49, Try.ntmps49
    go_wp2
    refine wp_loop_rounds 1 ?_
    rw [rounds_succ]
    have O1 : Hid ((w.alloc (.cells #[] 3)).ownsRow w.heap.size 3 1 (.slice (some ⟨w.heap.size, 0, none⟩) 0 0) 0 []) := own_zero w _ _ _ _ rfl (Nat.le_refl _)
    have B1 : Hid (Below w.heap.size w (w.alloc (.cells #[] 3))) := (Below.refl _ _).alloc (Nat.le_refl _) _
    have O2 : Hid ((w.alloc (.cells #[] 3)).ownsRow w.heap.size 3 1 (.slice (some ⟨w.heap.size, 0, none⟩) 0 0) 0 (ints .i64 (zs.take 0))) := O1.out
    have B2 : Hid (Below w.heap.size w (w.alloc (.cells #[] 3))) := B1.out
    have O2a : Hid (((w.alloc (.cells #[] 3)).alloc (.cells #[.int .i64 z] 3)).ownsRow w.heap.size 3 1 (.slice (some ⟨w.heap.size, 0, none⟩) 0 0) 0 (ints .i64 (zs.take 0))) := own_below O2.out ((Below.refl _ _).alloc (Nat.le_refl _) _)
    have B2a : Hid (Below w.heap.size w ((w.alloc (.cells #[] 3)).alloc (.cells #[.int .i64 z] 3))) := B2.out.alloc B2.out.size _
    have hzs : (w.alloc (.cells #[] 3)).heap.size = w.heap.size + 1 := by simp
    have S3 : Hid (0 < 1 → ∃ ad, (some ⟨w.heap.size + 1, 0, none⟩ : Option Addr) = some ad ∧ ∀ j u, ([.int .i64 z] : List Value)[j]? = some u → ((w.alloc (.cells #[] 3)).alloc (.cells #[.int .i64 z] 3)).cell? (ad.add j) = some u) := by have h3 := news_one (w.alloc (.cells #[] 3)) (.int .i64 z) 3; rw [hzs] at h3; exact h3
    go_wp2_with (at_builtin; refine App.wpList_append_all _ rfl _ _ 34 rfl w.heap.size 3 i0 (.int .i64 0) 1 8 Try.underlying34 hi hz0 hz1 hz2 rfl (by decide) _ _ _ rfl O2a.out _ 1 _ [.int .i64 z] rfl rfl S3.out (by simp [Value.oneCell']) (by unfold maxLen; omega) (by omega) B2a.out.size ?_)
    intro a4 c4 w4 hown4 hgrow4
    have O4 : Hid (w4.ownsRow w.heap.size 3 1 (.slice a4 (0 + 1) c4) (0 + 1) (ints .i64 (zs.take 0) ++ [.int .i64 z])) := hown4
    have B4 : Hid (Below w.heap.size w w4) := below_app B2a.out O2a.out hgrow4 B2a.out.size (Nat.le_refl _)
    have L4 : Hid ((ints .i64 (zs.drop 0)).length = (0) * 1) := by show _ = _; rw [ints_length, List.length_drop, HL.out]; try omega
    clear hown4 hgrow4
    go_wp2_with (at_builtin; refine App.wpList_append_all _ rfl _ _ 34 rfl w.heap.size 3 i0 (.int .i64 0) 1 8 Try.underlying34 hi hz0 hz1 hz2 rfl (by decide) _ _ _ rfl O4.out _ (0) _ (ints .i64 (zs.drop 0)) rfl L4.out (fun h => absurd h (by omega)) (one_int _) (by unfold maxLen; omega) (by omega) B4.out.size ?_)
    all_goals
      intro a5 c5 w5 hown5 hgrow5
      have B5 : Hid (Below w.heap.size w w5) := below_app B4.out O4.out hgrow5 B4.out.size (Nat.le_refl _)
      have FIN : Hid (w5.ownsRow w.heap.size 3 1 (.slice a5 (0 + 1 + (0)) c5) (0 + 1 + (0)) (ints .i64 (putN z zs))) := put_own (k := 0) (m := 0) HIN.out (by simpa using hown5)
      clear hown5 hgrow5
      go_wp2
      go_ret
      exact ⟨_, _, _, rfl, Or.inr ⟨FIN.out, by omega⟩, B5.out⟩
  · go_enter Try.func49, Try.ntmps49
    go_wp2
    go_loop [5] (fun i => ∃ k : Nat, k ≤ n ∧ i = .int .i64 k ∧ ∀ j, j < k → zs.getD j 0 < z) (fun i => n - (intOf i).toNat)
    case atStart => exact ⟨0, Nat.zero_le _, rfl, fun j hj => absurd hj (by omega)⟩
    case round =>
      obtain ⟨k, hk, rfl, hall⟩ := hrel
      have Hall : Hid (∀ j, j < k → zs.getD j 0 < z) := hall
      clear hall
      by_cases hlt : k < n
      · obtain ⟨b, off, hbe, hbl, hc⟩ := HI.out.cells (by omega)
        cases hbe
        have p0 : w.cell? ⟨g, k, none⟩ = some (.int .i64 (zs.getD k 0)) := by have := hc k hlt; rwa [Nat.zero_add] at this
        have hkI : decide ((k : Int) < (n : Int)) = true := decide_eq_true (by omega)
        have hk0 : (0 : Int) ≤ (k : Int) := by omega
        have hk1 : (k : Int) < (n : Int) := by omega
        have HXE : Hid (zs.getD k 0 = zs.getD k 0) := rfl
        generalize hx : zs.getD k 0 = x at p0
        have HX : Hid (zs.getD k 0 = x) := hx
        clear hc hbl hx HXE
        by_cases hv : x < z
        · have F : Hid (∀ j, j < k + 1 → zs.getD j 0 < z) := fun j hj => by
            by_cases e : j = k
            · rw [e, HX.out]; exact hv
            · exact Hall.out j (by omega)
          have hvI : decide (x < z) = true := decide_eq_true hv
          go_wp2
          go_round
          case rel => exact ⟨k + 1, by omega, by go_num, F.out⟩
          case measure => simp [intOf]; omega
        · have hvI : decide (x < z) = false := decide_eq_false hv
          by_cases he : x = z
          · have F : Hid (putN z zs = zs) := by
              show _ = _
              rw [putN_at z zs k (by rw [HL.out]; omega) Hall.out (fun _ => by rw [HX.out]; omega), if_pos ⟨by rw [HL.out]; exact hlt, by rw [HX.out]; exact he⟩]
            have heI : (x == z) = true := by rw [he]; exact beq_self_eq_true z
            clear he
            go_wp2
            go_ret
            exact ⟨_, _, _, rfl, Or.inl ⟨rfl, rfl, rfl, rfl, F.out⟩, Below.refl _ _⟩
          · have HIN : Hid (putN z zs = zs.take k ++ z :: zs.drop k) := by
              show _ = _
              rw [putN_at z zs k (by rw [HL.out]; omega) Hall.out (fun _ => by rw [HX.out]; omega), if_neg (fun hh => he (by rw [← HX.out]; exact hh.2))]
            have heI : (x == z) = false := by rw [beq_eq_false_iff_ne]; exact he
            have O1 : Hid ((w.alloc (.cells #[] 3)).ownsRow w.heap.size 3 1 (.slice (some ⟨w.heap.size, 0, none⟩) 0 0) 0 []) := own_zero w _ _ _ _ rfl (Nat.le_refl _)
            have B1 : Hid (Below w.heap.size w (w.alloc (.cells #[] 3))) := (Below.refl _ _).alloc (Nat.le_refl _) _
            have S1 : Hid (0 < k → ∃ ad, (some ⟨g, 0, none⟩ : Option Addr) = some ad ∧ ∀ j u, (ints .i64 (zs.take k))[j]? = some u → (w.alloc (.cells #[] 3)).cell? (ad.add j) = some u) := news_row (isRow_pre (IsRow.below HI.out B1.out) (by omega))
            have L1 : Hid ((ints .i64 (zs.take k)).length = k * 1) := by show _ = _; rw [ints_length, List.length_take, HL.out]; omega
            go_wp2_with (at_builtin; refine App.wpList_append_all _ rfl _ _ 34 rfl w.heap.size 3 i0 (.int .i64 0) 1 8 Try.underlying34 hi hz0 hz1 hz2 rfl (by decide) _ _ _ rfl O1.out _ k _ (ints .i64 (zs.take k)) rfl L1.out S1.out (one_int _) (by unfold maxLen; omega) (by omega) B1.out.size ?_)
            intro a2 c2 w2 hown2 hgrow2
            have O2 : Hid (w2.ownsRow w.heap.size 3 1 (.slice a2 k c2) k (ints .i64 (zs.take k))) := by show World.ownsRow _ _ _ _ _ _ _; simpa using hown2
            have B2 : Hid (Below w.heap.size w w2) := below_app B1.out O1.out hgrow2 B1.out.size (Nat.le_refl _)
            clear hown2 hgrow2
            have O2a : Hid ((w2.alloc (.cells #[.int .i64 z] 3)).ownsRow w.heap.size 3 1 (.slice a2 k c2) k (ints .i64 (zs.take k))) := own_below O2.out ((Below.refl _ _).alloc (Nat.le_refl _) _)
            have B2a : Hid (Below w.heap.size w (w2.alloc (.cells #[.int .i64 z] 3))) := B2.out.alloc B2.out.size _
            have S3 : Hid (0 < 1 → ∃ ad, (some ⟨w2.heap.size, 0, none⟩ : Option Addr) = some ad ∧ ∀ j u, ([.int .i64 z] : List Value)[j]? = some u → (w2.alloc (.cells #[.int .i64 z] 3)).cell? (ad.add j) = some u) := by have h3 := news_one w2 (.int .i64 z) 3; exact h3
            go_wp2_with (at_builtin; refine App.wpList_append_all _ rfl _ _ 34 rfl w.heap.size 3 i0 (.int .i64 0) 1 8 Try.underlying34 hi hz0 hz1 hz2 rfl (by decide) _ _ _ rfl O2a.out _ 1 _ [.int .i64 z] rfl rfl S3.out (by simp [Value.oneCell']) (by unfold maxLen; omega) (by omega) B2a.out.size ?_)
            intro a4 c4 w4 hown4 hgrow4
            have O4 : Hid (w4.ownsRow w.heap.size 3 1 (.slice a4 (k + 1) c4) (k + 1) (ints .i64 (zs.take k) ++ [.int .i64 z])) := hown4
            have B4 : Hid (Below w.heap.size w w4) := below_app B2a.out O2a.out hgrow4 B2a.out.size (Nat.le_refl _)
            have L4 : Hid ((ints .i64 (zs.drop k)).length = (n - k) * 1) := by show _ = _; rw [ints_length, List.length_drop, HL.out]; try omega
            have S4 : Hid (0 < n - k → ∃ ad, (some ⟨g, k, none⟩ : Option Addr) = some ad ∧ ∀ j u, (ints .i64 (zs.drop k))[j]? = some u → w4.cell? (ad.add j) = some u) := by have := news_row (isRow_suf (IsRow.below HI.out B4.out) (k := k) (by omega)); rwa [Nat.zero_add] at this
            clear hown4 hgrow4
            go_wp2_with (at_builtin; refine App.wpList_append_all _ rfl _ _ 34 rfl w.heap.size 3 i0 (.int .i64 0) 1 8 Try.underlying34 hi hz0 hz1 hz2 rfl (by decide) _ _ _ rfl O4.out _ (n - k) _ (ints .i64 (zs.drop k)) rfl L4.out S4.out (one_int _) (by unfold maxLen; omega) (by omega) B4.out.size ?_)
            all_goals
              intro a5 c5 w5 hown5 hgrow5
              have B5 : Hid (Below w.heap.size w w5) := below_app B4.out O4.out hgrow5 B4.out.size (Nat.le_refl _)
              have FIN : Hid (w5.ownsRow w.heap.size 3 1 (.slice a5 (k + 1 + (n - k)) c5) (k + 1 + (n - k)) (ints .i64 (putN z zs))) := put_own (k := k) (m := n - k) HIN.out (by simpa using hown5)
              clear hown5 hgrow5
              go_wp2
              go_ret
              exact ⟨_, _, _, rfl, Or.inr ⟨FIN.out, by omega⟩, B5.out⟩
      · obtain rfl : k = n := by omega
        have HIN : Hid (putN z zs = zs.take k ++ z :: zs.drop k) := by
          show _ = _
          rw [putN_at z zs k (by rw [HL.out]; omega) Hall.out (fun hh => absurd hh (by rw [HL.out]; omega)), if_neg (fun hh => absurd hh.1 (by rw [HL.out]; omega))]
        have hkI : decide ((k : Int) < (k : Int)) = false := decide_eq_false (by omega)
        clear hlt
        have O1 : Hid ((w.alloc (.cells #[] 3)).ownsRow w.heap.size 3 1 (.slice (some ⟨w.heap.size, 0, none⟩) 0 0) 0 []) := own_zero w _ _ _ _ rfl (Nat.le_refl _)
        have B1 : Hid (Below w.heap.size w (w.alloc (.cells #[] 3))) := (Below.refl _ _).alloc (Nat.le_refl _) _
        have S1 : Hid (0 < k → ∃ ad, (some ⟨g, 0, none⟩ : Option Addr) = some ad ∧ ∀ j u, (ints .i64 (zs.take k))[j]? = some u → (w.alloc (.cells #[] 3)).cell? (ad.add j) = some u) := news_row (isRow_pre (IsRow.below HI.out B1.out) (by omega))
        have L1 : Hid ((ints .i64 (zs.take k)).length = k * 1) := by show _ = _; rw [ints_length, List.length_take, HL.out]; omega
        go_wp2_with (at_builtin; refine App.wpList_append_all _ rfl _ _ 34 rfl w.heap.size 3 i0 (.int .i64 0) 1 8 Try.underlying34 hi hz0 hz1 hz2 rfl (by decide) _ _ _ rfl O1.out _ k _ (ints .i64 (zs.take k)) rfl L1.out S1.out (one_int _) (by unfold maxLen; omega) (by omega) B1.out.size ?_)
        intro a2 c2 w2 hown2 hgrow2
        have O2 : Hid (w2.ownsRow w.heap.size 3 1 (.slice a2 k c2) k (ints .i64 (zs.take k))) := by show World.ownsRow _ _ _ _ _ _ _; simpa using hown2
        have B2 : Hid (Below w.heap.size w w2) := below_app B1.out O1.out hgrow2 B1.out.size (Nat.le_refl _)
        clear hown2 hgrow2
        have O2a : Hid ((w2.alloc (.cells #[.int .i64 z] 3)).ownsRow w.heap.size 3 1 (.slice a2 k c2) k (ints .i64 (zs.take k))) := own_below O2.out ((Below.refl _ _).alloc (Nat.le_refl _) _)
        have B2a : Hid (Below w.heap.size w (w2.alloc (.cells #[.int .i64 z] 3))) := B2.out.alloc B2.out.size _
        have S3 : Hid (0 < 1 → ∃ ad, (some ⟨w2.heap.size, 0, none⟩ : Option Addr) = some ad ∧ ∀ j u, ([.int .i64 z] : List Value)[j]? = some u → (w2.alloc (.cells #[.int .i64 z] 3)).cell? (ad.add j) = some u) := by have h3 := news_one w2 (.int .i64 z) 3; exact h3
        go_wp2_with (at_builtin; refine App.wpList_append_all _ rfl _ _ 34 rfl w.heap.size 3 i0 (.int .i64 0) 1 8 Try.underlying34 hi hz0 hz1 hz2 rfl (by decide) _ _ _ rfl O2a.out _ 1 _ [.int .i64 z] rfl rfl S3.out (by simp [Value.oneCell']) (by unfold maxLen; omega) (by omega) B2a.out.size ?_)
        intro a4 c4 w4 hown4 hgrow4
        have O4 : Hid (w4.ownsRow w.heap.size 3 1 (.slice a4 (k + 1) c4) (k + 1) (ints .i64 (zs.take k) ++ [.int .i64 z])) := hown4
        have B4 : Hid (Below w.heap.size w w4) := below_app B2a.out O2a.out hgrow4 B2a.out.size (Nat.le_refl _)
        have L4 : Hid ((ints .i64 (zs.drop k)).length = (0) * 1) := by show _ = _; rw [ints_length, List.length_drop, HL.out]; try omega
        clear hown4 hgrow4
        go_wp2_with (at_builtin; refine App.wpList_append_all _ rfl _ _ 34 rfl w.heap.size 3 i0 (.int .i64 0) 1 8 Try.underlying34 hi hz0 hz1 hz2 rfl (by decide) _ _ _ rfl O4.out _ (0) _ (ints .i64 (zs.drop k)) rfl L4.out (fun h => absurd h (by omega)) (one_int _) (by unfold maxLen; omega) (by omega) B4.out.size ?_)
        all_goals
          intro a5 c5 w5 hown5 hgrow5
          have B5 : Hid (Below w.heap.size w w5) := below_app B4.out O4.out hgrow5 B4.out.size (Nat.le_refl _)
          have FIN : Hid (w5.ownsRow w.heap.size 3 1 (.slice a5 (k + 1 + (0)) c5) (k + 1 + (0)) (ints .i64 (putN z zs))) := put_own (k := k) (m := 0) HIN.out (by simpa using hown5)
          clear hown5 hgrow5
          go_wp2
          go_ret
          exact ⟨_, _, _, rfl, Or.inr ⟨FIN.out, by omega⟩, B5.out⟩


end Go.Proofs.Ytekheacbmbbpmaa.Spo
