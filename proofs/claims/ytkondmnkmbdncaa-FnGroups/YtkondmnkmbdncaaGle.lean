/-
  Contracts of groups, in the model: l9Group, GroupAt, IsRoundless.
-/
import Derived.Test.YtkondmnkmbdncaaGlc
import Derived.Test.YtkondmnkmbdncaaGld
namespace Go.Proofs.Ytkondmnkmbdncaa.Gle
open Go.RowKit
open Go.Proofs.Ytkondmnkmbdncaa.Frame Go.Proofs.Ytkondmnkmbdncaa.Mem Go.Proofs.Ytkondmnkmbdncaa.Ints Go.Proofs.Ytkondmnkmbdncaa.Kep Go.Proofs.Ytkondmnkmbdncaa.Lls Go.Proofs.Ytkondmnkmbdncaa.Mis Go.Proofs.Ytkondmnkmbdncaa.Gpu Go.Proofs.Ytkondmnkmbdncaa.Gpr Go.Proofs.Ytkondmnkmbdncaa.Glc
open Go.Proofs.Ytkondmnkmbdncaa.Glb (own_row em_bool iOwn_nil)
open Go.Proofs.Ytkondmnkmbdncaa.Gld (row_of)
open Go.Proofs.Ytkondmnkmbdncaa.Knl hiding Ll
open Go.Proofs.Ytkondmnkmbdncaa.Rel

set_option maxRecDepth 8000 in
set_option maxHeartbeats 3200000 in
theorem l9Group (la : Option Addr) (ln lc : Nat) (rs : List LV) (x : Nat) (w : World) (hl : IsLs w la ln lc rs) (hg : GoodP (lplain rs)) (hx : x < ln) :
    Calls Try.prog 97 #[.slice la ln lc, .int .i64 (x : Int)] w fun e w' => ∃ a' m c', e = .returned (.slice a' m c') ∧ m ≤ 12 ∧ w'.ownsRow w.heap.size 3 1 (.slice a' m c') m (ints .i64 (groupN (lplain rs) (x : Int))) ∧ Below w.heap.size w w' := by
  obtain ⟨i0, hi, hz0, hz1, hz2⟩ := info_parts Ints.info
  have hlen : (lplain rs).length = ln := by simp [lplain, hl.len]
  have HL : Hid ((lplain rs).length = ln) := hlen
  have HI : Hid (IsLs w la ln lc rs) := hl
  have HG : Hid (GoodP (lplain rs)) := hg
  have hn12 : ln ≤ 12 := by have := hg.few; omega
  clear hl hg hlen
  go_enter Try.func97, Try.ntmps97
  go_wp2_with fail
  refine (Glc.l9Reach la ln lc rs x _ HI.out HG.out hx).mono ?_
  rintro e w1 ⟨a1, m1, c1, rfl, hm1, ho1, hb1⟩
  have B1 : Hid (Below w.heap.size w w1) := hb1
  have R1 : Hid (IsRow .i64 w1 a1 m1 c1 (reachN (lplain rs) (x : Int))) := own_row ho1 (reach_wf (by have := HG.out.few; omega))
  have HRL : Hid ((reachN (lplain rs) (x : Int)).length = m1) := R1.out.len
  have O1 : Hid (w1.ownsRow w1.heap.size 3 1 (.slice none 0 0) 0 (ints .i64 (((reachN (lplain rs) (x : Int)).take 0).filter (fun z => rB (lplain rs) z (x : Int))))) := World.ownsRow_nil _ _ _ _
  clear ho1 hb1
  go_wp2_with fail
  go_loopw [5, 12] (fun v i wr => ∃ (k m : Nat) (a' : Option Addr) (c' : Nat), k ≤ m1 ∧ m ≤ k ∧ i = .int .i64 k ∧ v = .slice a' m c' ∧ wr.ownsRow w1.heap.size 3 1 (.slice a' m c') m (ints .i64 (((reachN (lplain rs) (x : Int)).take k).filter (fun z => rB (lplain rs) z (x : Int)))) ∧ Below w1.heap.size w1 wr) (fun _ i _ => m1 - (intOf i).toNat)
  case atStart => exact ⟨0, 0, _, _, Nat.zero_le _, Nat.le_refl _, rfl, rfl, O1.out, Below.refl _ _⟩
  case round =>
    obtain ⟨k, m, a', c', hk, hmk, rfl, rfl, ho, hnx⟩ := hrel
    have HO : Hid (wr.ownsRow w1.heap.size 3 1 (.slice a' m c') m (ints .i64 (((reachN (lplain rs) (x : Int)).take k).filter (fun z => rB (lplain rs) z (x : Int))))) := ho
    have HN1 : Hid (Below w1.heap.size w1 wr) := hnx
    have HN : Hid (Below w.heap.size w wr) := Frame.next B1.out hnx B1.out.size
    clear ho hnx
    by_cases hlt : k < m1
    · obtain ⟨b, off, rfl, hbl, hc⟩ := (IsRow.below R1.out HN1.out).cells (by omega)
      have hck := hc k hlt
      have hkl : k < (reachN (lplain rs) (x : Int)).length := by rw [HRL.out]; exact hlt
      have HF : Hid (((reachN (lplain rs) (x : Int)).take (k + 1)).filter (fun z => rB (lplain rs) z (x : Int)) = ((reachN (lplain rs) (x : Int)).take k).filter (fun z => rB (lplain rs) z (x : Int)) ++ (if rB (lplain rs) ((reachN (lplain rs) (x : Int)).getD k 0) (x : Int) then [(reachN (lplain rs) (x : Int)).getD k 0] else [])) := by
        show _ = _
        rw [take_succ_getD hkl, List.filter_append, List.filter_cons]
        rfl
      have hin := reach_in (getD_mem hkl)
      generalize (reachN (lplain rs) (x : Int)).getD k 0 = z at hck HF hin
      obtain ⟨y, rfl⟩ : ∃ y : Nat, z = (y : Int) := ⟨z.toNat, by omega⟩
      have hyl : y < ln := by have := HL.out; omega
      have HY : Hid (0 ≤ (y : Int) ∧ (y : Int) < ((lplain rs).length : Int)) := by rw [HL.out]; show _ ∧ _; omega
      clear hc hkl hbl hin
      go_wp2_with fail
      refine (Glc.l9Reach la ln lc rs y _ (IsLs.below HI.out HN.out) HG.out hyl).mono ?_
      rintro e w2 ⟨a2, m2, c2, rfl, hm2, ho2, hb2⟩
      have R2 : Hid (IsRow .i64 w2 a2 m2 c2 (reachN (lplain rs) (y : Int))) := own_row ho2 (reach_wf (by have := HG.out.few; omega))
      have N2 : Hid (Below w.heap.size w w2) := Frame.next HN.out hb2 HN.out.size
      have N21 : Hid (Below w1.heap.size w1 w2) := Frame.next HN1.out hb2 HN1.out.size
      have O2 : Hid (w2.ownsRow w1.heap.size 3 1 (.slice a' m c') m (ints .i64 (((reachN (lplain rs) (x : Int)).take k).filter (fun z => rB (lplain rs) z (x : Int))))) := own_below HO.out hb2
      have HD : Hid (decide ((x : Int) ∈ reachN (lplain rs) (y : Int)) = rB (lplain rs) (y : Int) (x : Int)) := by
        show _ = _
        rw [Bool.eq_iff_iff, decide_eq_true_eq, rB_iff]
        exact mem_reach HG.out HY.out
      clear ho2 hb2 hck
      go_wp2_with fail
      refine (Ihl.l1Has _ _ _ _ (x : Int) _ R2.out).mono ?_
      rintro e w' ⟨rfl, hw'⟩; have hw'' := hw'.symm; clear hw'; subst hw''
      rw [HD.out]
      rcases em_bool (rB (lplain rs) (y : Int) (x : Int)) with hv | hv
      · have F : Hid (((reachN (lplain rs) (x : Int)).take (k + 1)).filter (fun z => rB (lplain rs) z (x : Int)) = ((reachN (lplain rs) (x : Int)).take k).filter (fun z => rB (lplain rs) z (x : Int))) := by show _ = _; rw [HF.out, hv]; exact List.append_nil _
        rw [hv]
        clear hv HF
        go_wp2_with fail
        go_roundw
        case rel => exact ⟨k + 1, m, a', c', by omega, by omega, by go_num, rfl, by rw [F.out]; exact O2.out, N21.out⟩
        case measure => simp [intOf]; omega
      · have F : Hid (((reachN (lplain rs) (x : Int)).take (k + 1)).filter (fun z => rB (lplain rs) z (x : Int)) = ((reachN (lplain rs) (x : Int)).take k).filter (fun z => rB (lplain rs) z (x : Int)) ++ [(y : Int)]) := by show _ = _; rw [HF.out, hv]; rfl
        rw [hv]
        have O3 : Hid ((w2.alloc (.cells #[.int .i64 (y : Int)] 3)).ownsRow w1.heap.size 3 1 (.slice a' m c') m (ints .i64 (((reachN (lplain rs) (x : Int)).take k).filter (fun z => rB (lplain rs) z (x : Int))))) := own_below O2.out ((Below.refl _ _).alloc (Nat.le_refl _) _)
        have N3 : Hid (Below w.heap.size w (w2.alloc (.cells #[.int .i64 (y : Int)] 3))) := N2.out.alloc N2.out.size _
        have N31 : Hid (Below w1.heap.size w1 (w2.alloc (.cells #[.int .i64 (y : Int)] 3))) := N21.out.alloc N21.out.size _
        have S3 : Hid (0 < 1 → ∃ ad, (some ⟨w2.heap.size, 0, none⟩ : Option Addr) = some ad ∧ ∀ j u, ([.int .i64 (y : Int)] : List Value)[j]? = some u → (w2.alloc (.cells #[.int .i64 (y : Int)] 3)).cell? (ad.add j) = some u) := news_one w2 _ _
        have hmx : m ≤ 100000 := by omega
        clear hv HF
        go_wp2_with (at_builtin; refine App.wpList_append_all _ rfl _ _ 24 rfl w1.heap.size 3 i0 (.int .i64 0) 1 8 Try.underlying24 hi hz0 hz1 hz2 rfl (by decide) _ _ _ rfl O3.out _ 1 _ [.int .i64 (y : Int)] rfl rfl S3.out (by simp [Value.oneCell']) (by unfold maxLen; omega) (by omega) N31.out.size ?_)
        intro a4 c4 w4 hown4 hgrow4
        have O4 : Hid (w4.ownsRow w1.heap.size 3 1 (.slice a4 (m + 1) c4) (m + 1) (ints .i64 (((reachN (lplain rs) (x : Int)).take (k + 1)).filter (fun z => rB (lplain rs) z (x : Int))))) := by show World.ownsRow _ _ _ _ _ _ _; rw [F.out]; simpa [ints] using hown4
        have N41 : Hid (Below w1.heap.size w1 w4) := below_app N31.out O3.out hgrow4 N31.out.size (Nat.le_refl _)
        clear hown4 hgrow4
        go_wp2
        go_roundw
        case rel => exact ⟨k + 1, m + 1, a4, c4, by omega, by omega, by go_num, rfl, O4.out, N41.out⟩
        case measure => simp [intOf]; omega
    · have F : Hid (wr.ownsRow w1.heap.size 3 1 (.slice a' m c') m (ints .i64 (groupN (lplain rs) (x : Int)))) := by
        have h := HO.out
        rw [List.take_of_length_le (by rw [HRL.out]; omega), group_filter] at h
        exact h
      have F2 : Hid (wr.ownsRow w.heap.size 3 1 (.slice a' m c') m (ints .i64 (groupN (lplain rs) (x : Int)))) := own_base F.out B1.out.size
      clear F
      go_wp2
      go_ret
      exact ⟨_, _, _, rfl, by omega, F2.out, HN.out⟩

set_option maxRecDepth 8000 in
set_option maxHeartbeats 1600000 in
theorem spec_GroupAt (v : Value) (xs : Ll) (k : Int) (w : World) (h : LIs w v xs) :
    Calls Try.prog 38 #[v, .int .i64 k] w fun e w' => ∃ u, e = .returned (.tuple #[u, .bool (nodeB xs k)]) ∧ IOwn w' w.heap.size w'.heap.size u (groupV xs k) ∧ Below w.heap.size w w' := by
  obtain ⟨a, n, c, rs, rfl, hr, rfl, ht⟩ := h
  have H : Hid (LIs w (.slice a n c) (lplain rs)) := ⟨a, n, c, rs, rfl, hr, rfl, ht⟩
  have HI : Hid (IsLs w a n c rs) := hr
  have HL : Hid ((lplain rs).length = n) := by show _ = _; simp [lplain, hr.len]
  clear hr ht
  rcases em_bool (nodeB (lplain rs) k) with hg | hg
  · have F : Hid (nodeB (lplain rs) k = false) := hg
    clear hg
    go_enter Try.func38, Try.ntmps38
    go_wp2_with fail
    refine (l9Node _ _ k _ H.out).mono ?_
    rintro e w' ⟨rfl, hw'⟩; have hw'' := hw'.symm; clear hw'; subst hw''
    rw [F.out]
    go_wp2
    go_ret2
    refine ⟨_, by rw [F.out]; rfl, ?_, Below.refl _ _⟩
    unfold groupV
    rw [F.out]
    exact iOwn_nil _ _ _
  · have F : Hid (nodeB (lplain rs) k = true) := hg
    obtain ⟨GP, h0, h1⟩ := node_iff.1 hg
    obtain ⟨x, rfl⟩ : ∃ x : Nat, k = (x : Int) := ⟨k.toNat, by omega⟩
    have HG : Hid (GoodP (lplain rs)) := GP
    have hx : x < n := by have := HL.out; omega
    clear hg GP h0 h1
    go_enter Try.func38, Try.ntmps38
    go_wp2_with fail
    refine (l9Node _ _ (x : Int) _ H.out).mono ?_
    rintro e w' ⟨rfl, hw'⟩; have hw'' := hw'.symm; clear hw'; subst hw''
    rw [F.out]
    go_wp2_with fail
    refine (l9Group a n c rs x _ HI.out HG.out hx).mono ?_
    rintro e w2 ⟨a', m, c', rfl, hm, ho, hb⟩
    have B2 : Hid (Below w.heap.size w w2) := hb
    have O2 : Hid (IOwn w2 w.heap.size w2.heap.size (.slice a' m c') (groupV (lplain rs) (x : Int))) := by
      show IOwn _ _ _ _ _
      unfold groupV
      rw [F.out]
      exact iOwn_of ho (group_wf (by have := HG.out.few; omega)) (by omega)
    clear ho hb
    go_wp2
    go_ret2
    exact ⟨_, by rw [F.out]; rfl, O2.out, B2.out⟩

set_option maxRecDepth 8000 in
set_option maxHeartbeats 3200000 in
theorem spec_IsRoundless (v : Value) (xs : Ll) (w : World) (h : LIs w v xs) :
    Calls Try.prog 45 #[v] w fun e w' => e = .returned (.tuple #[.bool (plainV xs), .bool (goodG xs)]) ∧ Below w.heap.size w w' := by
  obtain ⟨a, n, c, rs, rfl, hr, rfl, ht⟩ := h
  have H : Hid (LIs w (.slice a n c) (lplain rs)) := ⟨a, n, c, rs, rfl, hr, rfl, ht⟩
  have HI : Hid (IsLs w a n c rs) := hr
  have HL : Hid ((lplain rs).length = n) := by show _ = _; simp [lplain, hr.len]
  clear hr ht
  rcases em_bool (goodG (lplain rs)) with hg | hg
  · have HG : Hid (goodG (lplain rs) = false) := hg
    have F : Hid (plainV (lplain rs) = false) := by show _ = _; unfold plainV; rw [hg]; rfl
    clear hg
    go_enter Try.func45, Try.ntmps45
    go_wp2_with fail
    refine (Gla.spec_GoodLinks _ _ _ H.out).mono ?_
    rintro e w' ⟨rfl, hw'⟩; have hw'' := hw'.symm; clear hw'; subst hw''
    rw [HG.out]
    go_wp2
    go_ret2
    exact ⟨by rw [F.out, HG.out]; rfl, Below.refl _ _⟩
  · have HG : Hid (goodG (lplain rs) = true) := hg
    have GP : Hid (GoodP (lplain rs)) := good_iff.1 hg
    have HP : Hid (plainV (lplain rs) = !roundB (lplain rs)) := by show _ = _; unfold plainV; rw [hg]; rfl
    have hn12 : n ≤ 12 := by have := GP.out.few; have := HL.out; omega
    clear hg
    go_enter Try.func45, Try.ntmps45
    go_wp2_with fail
    refine (Gla.spec_GoodLinks _ _ _ H.out).mono ?_
    rintro e w' ⟨rfl, hw'⟩; have hw'' := hw'.symm; clear hw'; subst hw''
    rw [HG.out]
    go_wp2_with fail
    go_loopw [11] (fun i wr => ∃ k : Nat, k ≤ n ∧ i = .int .i64 k ∧ (∀ j : Nat, j < k → roundAt (lplain rs) (j : Int) = false) ∧ Below w.heap.size w wr) (fun i _ => n - (intOf i).toNat)
    case atStart => exact ⟨0, Nat.zero_le _, rfl, fun j hj => absurd hj (by omega), Below.refl _ _⟩
    case round =>
      obtain ⟨k, hk, rfl, hall, hnx⟩ := hrel
      have HA : Hid (∀ j : Nat, j < k → roundAt (lplain rs) (j : Int) = false) := hall
      have HN : Hid (Below w.heap.size w wr) := hnx
      clear hall hnx
      by_cases hlt : k < n
      · obtain ⟨b, off, qa, qn, qc, zs, rfl, p0, hrow, hge⟩ := row_of HI.out hlt HN.out
        have HROW : Hid (IsRow .i64 wr qa qn qc zs) := IsRow.below hrow HN.out
        have HE : Hid ((decide ((k : Int) ∈ zs) || decide (1 < (groupN (lplain rs) (k : Int)).length)) = roundAt (lplain rs) (k : Int)) := by show _ = _; rw [← hge]; exact round_as GP.out (by rw [HL.out]; omega)
        have hk0 : (0 : Int) ≤ (k : Int) := by omega
        have hkn : (k : Int) < (n : Int) := by omega
        clear hrow hge
        go_wp2_with fail
        refine (Ihl.l1Has _ _ _ zs (k : Int) _ HROW.out).mono ?_
        rintro e w' ⟨rfl, hw'⟩; have hw'' := hw'.symm; clear hw'; subst hw''
        rcases em_bool (decide ((k : Int) ∈ zs)) with hv | hv
        · have HE2 : Hid (decide (1 < (groupN (lplain rs) (k : Int)).length) = roundAt (lplain rs) (k : Int)) := by have h := HE.out; rw [hv] at h; exact h
          rw [hv]
          clear hv HE
          go_wp2_with fail
          refine (l9Group _ n c rs k _ (IsLs.below HI.out HN.out) GP.out hlt).mono ?_
          rintro e w2 ⟨a2, m2, c2, rfl, hm2, ho2, hb2⟩
          have N2 : Hid (Below w.heap.size w w2) := Frame.next HN.out hb2 HN.out.size
          have hml : (groupN (lplain rs) (k : Int)).length = m2 := by have := ho2.1; rw [ints_length] at this; omega
          have HM : Hid (decide (1 < m2) = roundAt (lplain rs) (k : Int)) := by have h := HE2.out; rw [hml] at h; exact h
          clear ho2 hb2 hml HE2 p0
          by_cases hm1 : 1 < m2
          · have F : Hid (plainV (lplain rs) = false) := by show _ = _; rw [HP.out, round_yes (by rw [HL.out]; exact hlt) (by rw [← HM.out]; exact decide_eq_true hm1)]; rfl
            have hmI : decide (1 < m2) = true := decide_eq_true hm1
            have hmJ : (m2 : Int) > 1 := by omega
            clear HM
            go_wp2
            go_ret2
            exact ⟨by rw [F.out, HG.out]; rfl, N2.out⟩
          · have F : Hid (∀ j : Nat, j < k + 1 → roundAt (lplain rs) (j : Int) = false) := fun j hj => by
              by_cases e : j = k
              · rw [e, ← HM.out]; exact decide_eq_false hm1
              · exact HA.out j (by omega)
            have hmI : decide (1 < m2) = false := decide_eq_false hm1
            have hmJ : ¬ (m2 : Int) > 1 := by omega
            clear HM
            go_wp2
            go_roundw
            case rel => exact ⟨k + 1, by omega, by go_num, F.out, N2.out⟩
            case measure => simp [intOf]; omega
        · have F : Hid (plainV (lplain rs) = false) := by
            show _ = _
            rw [HP.out, round_yes (by rw [HL.out]; exact hlt) (by rw [← HE.out, hv]; rfl)]; rfl
          rw [hv]
          clear hv HE
          go_wp2
          go_ret2
          exact ⟨by rw [F.out, HG.out]; rfl, HN.out⟩
      · have F : Hid (plainV (lplain rs) = true) := by show _ = _; rw [HP.out, round_no (fun j hj => HA.out j (by have := HL.out; omega))]; rfl
        go_wp2
        go_ret2
        exact ⟨by rw [F.out, HG.out]; rfl, HN.out⟩


end Go.Proofs.Ytkondmnkmbdncaa.Gle
