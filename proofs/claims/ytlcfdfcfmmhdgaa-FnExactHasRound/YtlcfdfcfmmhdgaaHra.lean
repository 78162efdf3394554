/-
  Contracts of HasRound, of the program and of the model.
-/
import Derived.Test.YtlcfdfcfmmhdgaaHrp
import Derived.Test.YtlcfdfcfmmhdgaaDlr
import Derived.Test.YtlcfdfcfmmhdgaaIhl
import Derived.Test.YtlcfdfcfmmhdgaaKrl
import Derived.Deep.RegionHeld3
import Derived.Deep.AppendLies
namespace Go.Proofs.Ytlcfdfcfmmhdgaa.Hra
open Go.RowKit
open Go.Proofs.Ytlcfdfcfmmhdgaa.Frame Go.Proofs.Ytlcfdfcfmmhdgaa.Mem Go.Proofs.Ytlcfdfcfmmhdgaa.Ints Go.Proofs.Ytlcfdfcfmmhdgaa.Kep Go.Proofs.Ytlcfdfcfmmhdgaa.Val Go.Proofs.Ytlcfdfcfmmhdgaa.Mii Go.Proofs.Ytlcfdfcfmmhdgaa.Hrp Go.Proofs.Ytlcfdfcfmmhdgaa.Dlr

theorem allN_take {f : Int → Bool} {zs : List Int} {k : Nat} (hk : k < zs.length) (h : (zs.take k).all f = true) (e : f (zs.getD k 0) = true) : (zs.take (k + 1)).all f = true := Lst.all_take_succ f zs k hk e h
theorem iOwn_nil (w : World) (lo hi : Nat) : IOwn w lo hi (.slice none 0 0) [] := ⟨none, 0, 0, rfl, ⟨rfl, .inl ⟨rfl, rfl⟩⟩, by simp, by omega, by simp⟩

set_option maxHeartbeats 800000 in
theorem areWaits (a : Option Addr) (n ca : Nat) (zs : List Int) (w : World) (ha : IsRow .i64 w a n ca zs) :
    Calls Try.prog 55 #[.slice a n ca] w fun e w' => e = .returned (.bool (areB zs)) ∧ w' = w := by
  have HA : Hid (IsRow .i64 w a n ca zs) := ha
  have HL : Hid (zs.length = n) := ha.len
  clear ha
  by_cases h4 : n = 4
  · subst h4
    have HE : Hid (areB zs = zs.all (fun z => inB z (-1) 3)) := by show _ = _; unfold areB; rw [decide_eq_true HL.out]; rfl
    go_enter Try.func55, Try.ntmps55
    go_wp2
    go_loop [10] (fun i => ∃ k : Nat, k ≤ 4 ∧ i = .int .i64 k ∧ (zs.take k).all (fun z => inB z (-1) 3) = true) (fun i => 4 - (intOf i).toNat)
    case atStart => exact ⟨0, Nat.zero_le _, rfl, rfl⟩
    case round =>
      obtain ⟨k, hk, rfl, hall⟩ := hrel
      have Hall : Hid ((zs.take k).all (fun z => inB z (-1) 3) = true) := hall
      clear hall
      by_cases hlt : k < 4
      · obtain ⟨b, off, rfl, hbl, hc⟩ := HA.out.cells (by omega)
        have hck := hc k hlt
        have hkl : k < zs.length := by rw [HL.out]; exact hlt
        have HX : Hid ((inB (zs.getD k 0) (-1) 3 = true → (zs.take (k + 1)).all (fun z => inB z (-1) 3) = true) ∧ (inB (zs.getD k 0) (-1) 3 = false → areB zs = false)) :=
          ⟨fun e => allN_take hkl Hall.out e, fun e => by rw [HE.out]; exact Lst.all_take_false _ _ k hkl e⟩
        generalize zs.getD k 0 = z at hck HX
        clear hc hkl
        by_cases hz : z = -1
        · subst hz
          have F : Hid ((zs.take (k + 1)).all (fun z => inB z (-1) 3) = true) := HX.out.1 rfl
          clear HX
          go_wp2
          go_round
          case rel => exact ⟨k + 1, by omega, by go_num, F.out⟩
          case measure => simp [intOf]; omega
        · have hne : (z != -1) = true := by rw [bne_iff_ne]; exact hz
          go_wp2_with fail
          refine (isDealer z _).mono ?_
          rintro e w' ⟨rfl, hw'⟩; have hw'' := hw'.symm; clear hw'; subst hw''
          rcases Bool.eq_false_or_eq_true (inB z 0 3) with hd | hd
          · have F : Hid ((zs.take (k + 1)).all (fun z => inB z (-1) 3) = true) := HX.out.1 (by rw [inB_iff] at hd ⊢; omega)
            rw [hd]
            clear HX hd
            go_wp2
            go_round
            case rel => exact ⟨k + 1, by omega, by go_num, F.out⟩
            case measure => simp [intOf]; omega
          · have F : Hid (areB zs = false) := HX.out.2 (by rw [Bool.eq_false_iff] at hd ⊢; intro h; rw [inB_iff] at h; apply hd; rw [inB_iff]; omega)
            rw [hd]
            clear HX hd
            go_wp2
            go_ret
            exact ⟨ret_bool F.out.symm, rfl⟩
      · have F : Hid (areB zs = true) := by
          show _ = _
          rw [HE.out]
          have h := Hall.out
          rwa [List.take_of_length_le (by rw [HL.out]; omega)] at h
        go_wp2
        go_ret
        exact ⟨ret_bool F.out.symm, rfl⟩
  · have F : Hid (areB zs = false) := by show _ = _; unfold areB; rw [decide_eq_false (by rw [HL.out]; exact h4)]; rfl
    have hne : ((n : Int) != 4) = true := by rw [bne_iff_ne]; omega
    go_enter Try.func55, Try.ntmps55
    go_wp2
    go_ret
    exact ⟨ret_bool F.out.symm, rfl⟩

def lenOf : Value → Nat
  | .slice _ n _ => n
  | _ => 0
theorem news_drew (w : World) (v : Value) (t : TypeId) : ∀ j u, ([v] : List Value)[j]? = some u → ((w.alloc (.cells #[v] t)).drew).cell? ((⟨w.heap.size, 0, none⟩ : Addr).add j) = some u := fun j u hu => by
  match j, hu with
  | 0, hu =>
    simp only [List.getElem?_cons_zero, Option.some.injEq] at hu
    subst hu
    rw [add_at, World.cell?_drew, World.cell?_alloc_at _ _ _ _ rfl]
    rfl
  | j + 1, hu => simp at hu
theorem own_one (w : World) (base : Nat) (z : Int) (hb : base ≤ w.heap.size) : (w.alloc (.cells #[.int .i64 z] 3)).ownsRow base 3 1 (.slice (some ⟨w.heap.size, 0, none⟩) 1 1) 1 (ints .i64 [z]) :=
  ⟨rfl, .inr ⟨w.heap.size, 1, _, rfl, hb, heap_alloc_new w _, Nat.le_refl _, by unfold maxLen; omega, rfl, rfl⟩⟩

set_option maxRecDepth 8000 in
set_option maxHeartbeats 1600000 in
theorem wayFrom (a : Option Addr) (ca : Nat) (W : List Int) (k : Nat) (w : World) (ha : IsRow .i64 w a 4 ca W) (hg : areB W = true) (hk : k < 4) :
    Calls Try.prog 56 #[.slice a 4 ca, .int .i64 k] w fun e w' => ∃ a' n' c', e = .returned (.tuple #[.slice a' n' c', .bool (backB W k)]) ∧ IOwn w' w.heap.size w'.heap.size (.slice a' n' c') (wayS W k).1 ∧ Below w.heap.size w w' := by
  obtain ⟨i0, hi, hz0, hz1, hz2⟩ := info_parts Ints.info
  have HL : Hid (W.length = 4) := ha.len
  have HG : Hid (areB W = true) := hg
  obtain ⟨b, off, rfl, hbl, hc⟩ := ha.cells (by omega)
  have HC : Hid (∀ i, i < 4 → w.cell? ⟨b, off + i, none⟩ = some (.int .i64 (W.getD i 0))) := hc
  have hck := hc k hk
  have hkI : (k : Int) < 4 := by omega
  have E0 : Hid (W.getD k 0 = nx W (k : Int)) := by show _ = _; unfold nx; rw [Int.toNat_natCast]
  rw [E0.out] at hck
  have hck' : Hid (w.cell? ⟨b, off + k, none⟩ = some (.int .i64 (nx W (k : Int)))) := hck
  have O1 : Hid ((w.alloc (.cells #[.int .i64 k] 3)).drew.ownsRow w.heap.size 3 1 (.slice (some ⟨w.heap.size, 0, none⟩) (0 + 1) 1) (0 + 1) (ints .i64 (st0 W k).1)) := (own_one w w.heap.size k (Nat.le_refl _)).drew
  have B1 : Hid (Below w.heap.size w (w.alloc (.cells #[.int .i64 k] 3)).drew) := ((Below.refl _ _).alloc (Nat.le_refl _) _).drew
  have ON0 : Hid (On (st0 W k) 0) := on0 HG.out hk
  clear ha hc hg
  go_enter Try.func56, Try.ntmps56
  go_wp2_with fail
  go_region_held3 (fun w' => w'.cell? ⟨b, off + k, none⟩ = some (.int .i64 (nx W (k : Int)))) (first | go_keep) (fail)
  clear hck
  go_wp2_with fail
  go_loopw [6, 7] (fun v q wr => ∃ (s : St) (j : Nat) (a' : Option Addr) (c' : Nat), v = .slice a' (j + 1) c' ∧ q = .int .i64 s.2 ∧ On s j ∧ j ≤ 4 ∧ pRun W (4 - j) s = wayS W k ∧ wr.ownsRow w.heap.size 3 1 (.slice a' (j + 1) c') (j + 1) (ints .i64 s.1) ∧ Below w.heap.size w wr) (fun v _ _ => 5 - lenOf v)
  case atStart => exact ⟨st0 W k, 0, _, _, rfl, rfl, ON0.out, by omega, rfl, O1.out, B1.out⟩
  case round =>
    obtain ⟨⟨way, q⟩, j, a', c', rfl, rfl, hon, hj, hrun, ho, hnx⟩ := hrel
    have HON : Hid (On (way, q) j) := hon
    have HO : Hid (wr.ownsRow w.heap.size 3 1 (.slice a' (j + 1) c') (j + 1) (ints .i64 way)) := ho
    have HN : Hid (Below w.heap.size w wr) := hnx
    have HRUN : Hid (pRun W (4 - j) (way, q) = wayS W k) := hrun
    have HWF : Hid (∀ z ∈ way, (Lit.int .i64 z).wf = true) := fun z hz => by have := hon.mem z hz; exact int_wf z (by omega) (by omega)
    have HR : Hid (IsRow .i64 wr a' (j + 1) c' way) := by
      obtain ⟨_, _, e, hr⟩ := isRow_own HO.out HWF.out
      cases e
      exact hr
    have HEND : Hid (pGo (way, q) = false → wayS W k = (way, q)) := fun h => by rw [← HRUN.out, pRun_stop h]
    have hsr := hnx.size
    clear ho hnx hrun hon
    show _
    by_cases hq : q = -1
    · subst hq
      have F : Hid (wayS W k = (way, -1)) := HEND.out rfl
      have FB : Hid (backB W k = ((-1 : Int) == (k : Int))) := by show _ = _; unfold backB; rw [F.out]
      go_wp2
      go_ret2
      exact ⟨a', j + 1, c', by rw [FB.out]; rfl, by rw [F.out]; exact iOwn_of HO.out HWF.out (by omega), HN.out⟩
    · have hne : (q != -1) = true := by rw [bne_iff_ne]; exact hq
      go_wp2_with fail
      refine (Ihl.slices_Contains a' (j + 1) c' way q _ HR.out).mono ?_
      rintro e w' ⟨rfl, hw'⟩; have hw'' := hw'.symm; clear hw'; subst hw''
      rcases Bool.eq_false_or_eq_true (decide (q ∈ way)) with hd | hd
      · have F : Hid (wayS W k = (way, q)) := HEND.out (by unfold pGo; simp only [hd]; simp)
        have FB : Hid (backB W k = (q == (k : Int))) := by show _ = _; unfold backB; rw [F.out]
        rw [hd]
        clear hd
        go_wp2
        go_ret2
        exact ⟨a', j + 1, c', by rw [FB.out]; rfl, by rw [F.out]; exact iOwn_of HO.out HWF.out (by omega), HN.out⟩
      · have HGO : Hid (pGo (way, q) = true) := by show _ = _; unfold pGo; simp only [hd]; simp [hq]
        rw [hd]
        clear hd
        have h4 : j < 4 := by
          by_cases h : j < 4
          · exact h
          · obtain rfl : j = 4 := by omega
            have e := HRUN.out
            have e2 : pRun W 0 (way, q) = (way, q) := rfl
            rw [Nat.sub_self, e2] at e
            have := stop_of HG.out k hk
            rw [← e, HGO.out] at this
            cases this
        have hq0 : 0 ≤ q := pGo_nonneg HON.out HGO.out
        have hq3 : q ≤ 3 := HON.out.hi
        have HST : Hid (On (wstep W (way, q)) (j + 1)) := on_step HG.out HON.out hq0
        have HRUN2 : Hid (pRun W (4 - (j + 1)) (wstep W (way, q)) = wayS W k) := by
          show _ = _
          rw [← HRUN.out, show 4 - j = (4 - (j + 1)) + 1 by omega, pRun_step HGO.out]
        obtain ⟨q', rfl⟩ : ∃ q' : Nat, q = (q' : Int) := ⟨q.toNat, by omega⟩
        have hq4 : q' < 4 := by omega
        have hqI : (q' : Int) < 4 := by omega
        have EQ : Hid (W.getD q' 0 = nx W (q' : Int)) := by show _ = _; unfold nx; rw [Int.toNat_natCast]
        have hcq : w.cell? ⟨b, off + q', none⟩ = some (.int .i64 (nx W (q' : Int))) := by rw [← EQ.out]; exact HC.out q' hq4
        have hcr : wr.cell? ⟨b, off + q', none⟩ = some (.int .i64 (nx W (q' : Int))) := by rw [HN.out.cell (p := ⟨b, off + q', none⟩) hbl]; exact hcq
        have HCQ : Hid (w.cell? ⟨b, off + q', none⟩ = some (.int .i64 (nx W (q' : Int)))) := hcq
        clear hcq
        have OW : Hid ((wr.alloc (.cells #[.int .i64 q'] 3)).drew.ownsRow w.heap.size 3 1 (.slice a' (j + 1) c') (j + 1) (ints .i64 way)) := (own_below HO.out ((Below.refl _ _).alloc (Nat.le_refl _) _)).drew
        have BW : Hid (Below w.heap.size w (wr.alloc (.cells #[.int .i64 q'] 3)).drew) := (HN.out.alloc HN.out.size _).drew
        have CW : Hid ((wr.alloc (.cells #[.int .i64 q'] 3)).drew.cell? ⟨b, off + q', none⟩ = some (.int .i64 (nx W (q' : Int)))) := by show _ = _; rw [BW.out.cell (p := ⟨b, off + q', none⟩) hbl]; exact HCQ.out
        clear hq hne
        go_wp2_with fail
        go_region_held3 (fun w' => w'.cell? ⟨b, off + q', none⟩ = some (.int .i64 (nx W (q' : Int)))) (first | exact CW.out | go_keep | exact CX.out)
          ((refine step_append_lies _ (by rfl) _ _ 24 (by rfl) w.heap.size 3 i0 (.int .i64 0) 1 8 Try.underlying24 hi hz0 hz1 hz2 rfl (by decide) (.slice a' (j + 1) c') (j + 1) (ints .i64 way) (by rfl) OW.out ⟨wr.heap.size, 0, none⟩ 1 1 [.int .i64 q'] (by rfl) rfl (news_drew wr _ _) (by simp [Value.oneCell']) (by omega) (by unfold maxLen; omega) (by omega) BW.out.size _ rfl ?_; intro g cap' w4 hown4 hgrow4 hat4 hlt4; have O4 : Hid (w4.ownsRow w.heap.size 3 1 (.slice (some ⟨g, 0, none⟩) (j + 1 + 1) cap') (j + 1 + 1) (ints .i64 (way ++ [(q' : Int)]))) := (by show World.ownsRow _ _ _ _ _ _ _; simpa [ints] using hown4); have N4 : Hid (Below w.heap.size w w4) := below_app BW.out OW.out hgrow4 BW.out.size (Nat.le_refl _); have CX : Hid (w4.cell? ⟨b, off + q', none⟩ = some (.int .i64 (nx W (q' : Int)))) := (by show _ = _; rw [N4.out.cell (p := ⟨b, off + q', none⟩) hbl]; exact HCQ.out); clear hown4 hgrow4 hat4 hlt4))
        go_wp2
        go_roundw
        case rel => exact ⟨wstep W (way, (q' : Int)), j + 1, _, _, rfl, rfl, HST.out, by omega, HRUN2.out, O4.out, N4.out⟩
        case measure => simp [lenOf]; omega

set_option maxRecDepth 8000 in
set_option maxHeartbeats 1600000 in
theorem impl_HasRound (v : Value) (W : List Int) (w : World) (h : IIs w v W) :
    Calls Try.prog 21 #[v] w fun e w' => ∃ u, e = .returned (.tuple #[u, .bool (roundB W)]) ∧ IOwn w' w.heap.size w'.heap.size u (roundV W) ∧ Below w.heap.size w w' := by
  obtain ⟨a, n, ca, rfl, hr, _⟩ := h
  have HR : Hid (IsRow .i64 w a n ca W) := hr
  have HL : Hid (W.length = n) := hr.len
  clear hr
  rcases Bool.eq_false_or_eq_true (areB W) with hg | hg
  · have HG : Hid (areB W = true) := hg
    have h4 : n = 4 := by rw [← HL.out]; exact are_len hg
    subst h4
    clear hg
    go_enter Try.func21, Try.ntmps21
    go_wp2_with fail
    refine (areWaits a 4 ca W _ HR.out).mono ?_
    rintro e w' ⟨rfl, hw'⟩; have hw'' := hw'.symm; clear hw'; subst hw''
    rw [HG.out]
    go_wp2_with fail
    go_loopw [12] (fun i wr => ∃ k : Nat, k ≤ 4 ∧ i = .int .i64 k ∧ firstB W (4 - k) k = firstB W 4 0 ∧ Below w.heap.size w wr) (fun i _ => 4 - (intOf i).toNat)
    case atStart => exact ⟨0, by omega, rfl, rfl, Below.refl _ _⟩
    case round =>
      obtain ⟨k, hk, rfl, hf, hnx⟩ := hrel
      have HF : Hid (firstB W (4 - k) k = firstB W 4 0) := hf
      have HN : Hid (Below w.heap.size w wr) := hnx
      clear hf hnx
      by_cases hlt : k < 4
      · go_wp2_with fail
        refine (wayFrom a ca W k _ (IsRow.below HR.out HN.out) HG.out hlt).mono ?_
        rintro e w2 ⟨a2, n2, c2, rfl, ho2, hb2⟩
        have O2 : Hid (IOwn w2 w.heap.size w2.heap.size (.slice a2 n2 c2) (wayS W (k : Int)).1) := Krl.iOwn_wide ho2 HN.out.size (Nat.le_refl _)
        have N2 : Hid (Below w.heap.size w w2) := Frame.next HN.out hb2 HN.out.size
        clear ho2 hb2
        rcases Bool.eq_false_or_eq_true (backB W (k : Int)) with hb | hb
        · have F : Hid (roundB W = true ∧ roundV W = (wayS W (k : Int)).1) := round_some HG.out (by rw [← HF.out, show 4 - k = (4 - (k + 1)) + 1 by omega, first_hit hb])
          rw [hb]
          clear hb
          go_wp2
          go_ret2
          exact ⟨.slice a2 n2 c2, by rw [F.out.1]; rfl, by rw [F.out.2]; exact O2.out, N2.out⟩
        · have F : Hid (firstB W (4 - (k + 1)) (k + 1) = firstB W 4 0) := by
            show _ = _
            rw [← HF.out, show 4 - k = (4 - (k + 1)) + 1 by omega, first_miss hb]
          rw [hb]
          clear hb
          go_wp2
          go_roundw
          case rel => exact ⟨k + 1, by omega, by go_num, F.out, N2.out⟩
          case measure => simp [intOf]; omega
      · obtain rfl : k = 4 := by omega
        have F : Hid (roundB W = false ∧ roundV W = []) := round_none HG.out HF.out.symm
        go_wp2
        go_ret2
        exact ⟨.slice none 0 0, by rw [F.out.1]; rfl, by rw [F.out.2]; exact iOwn_nil _ _ _, HN.out⟩
  · have HG : Hid (areB W = false) := hg
    have F : Hid (roundB W = false ∧ roundV W = []) := round_bad hg
    clear hg
    go_enter Try.func21, Try.ntmps21
    go_wp2_with fail
    refine (areWaits a n ca W _ HR.out).mono ?_
    rintro e w' ⟨rfl, hw'⟩; have hw'' := hw'.symm; clear hw'; subst hw''
    rw [HG.out]
    go_wp2
    go_ret2
    exact ⟨.slice none 0 0, by rw [F.out.1]; rfl, by rw [F.out.2]; exact iOwn_nil _ _ _, Below.refl _ _⟩

set_option maxRecDepth 8000 in
set_option maxHeartbeats 3200000 in
theorem spec_HasRound (v : Value) (W : List Int) (w : World) (h : IIs w v W) :
    Calls Try.prog 22 #[v] w fun e w' => ∃ u, e = .returned (.tuple #[u, .bool (roundB W)]) ∧ IOwn w' w.heap.size w'.heap.size u (roundV W) ∧ Below w.heap.size w w' := by
  obtain ⟨i0, hi, hz0, hz1, hz2⟩ := info_parts Ints.info
  obtain ⟨a, n, ca, rfl, hr, hn⟩ := h
  have HR : Hid (IsRow .i64 w a n ca W) := hr
  have HL : Hid (W.length = n) := hr.len
  clear hr
  by_cases h4 : n = 4
  · subst h4
    have HE : Hid (areB W = W.all (fun z => inB z (-1) 3)) := by show _ = _; unfold areB; rw [decide_eq_true HL.out]; rfl
    rcases Bool.eq_false_or_eq_true (W.all (fun z => inB z (-1) 3)) with hg | hg
    · have HG : Hid (areB W = true) := HE.out.trans hg
      have HA : Hid (W.all (fun z => inB z (-1) 3) = true) := hg
      clear hg
      obtain ⟨b, off, rfl, hbl, hc⟩ := HR.out.cells (by omega)
      have HC : Hid (∀ i, i < 4 → w.cell? ⟨b, off + i, none⟩ = some (.int .i64 (W.getD i 0))) := hc
      have EQ : Hid (∀ q : Nat, W.getD q 0 = nx W (q : Int)) := fun q => by unfold nx; rw [Int.toNat_natCast]
      clear hc
      go_enter Try.func22, Try.ntmps22
      go_wp2_with fail
      refine (Lst.spec_l1All _ 4 ca W (-1) 3 _ HR.out (by omega)).mono ?_
      rintro e w' ⟨rfl, hw'⟩; have hw'' := hw'.symm; clear hw'; subst hw''
      rw [show Lst.allIn (-1) 3 W = true from HA.out]
      go_wp2_with fail
      go_loopw [17] (fun i wr => ∃ k : Nat, k ≤ 4 ∧ i = .int .i64 k ∧ firstB W (4 - k) k = firstB W 4 0 ∧ Below w.heap.size w wr) (fun i _ => 4 - (intOf i).toNat)
      case atStart => exact ⟨0, by omega, rfl, rfl, Below.refl _ _⟩
      case round =>
        obtain ⟨k, hk, rfl, hf, hnx⟩ := hrel
        rename World => wo
        have HF : Hid (firstB W (4 - k) k = firstB W 4 0) := hf
        have HN0 : Hid (Below w.heap.size w wo) := hnx
        have hso := hnx.size
        clear hf
        by_cases hlt : k < 4
        · have hkI : (k : Int) < 4 := by omega
          have ON0 : Hid (On (st0 W k) 0) := on0 HG.out hlt
          have O1 : Hid ((wo.alloc (.cells #[.int .i64 k] 3)).ownsRow w.heap.size 3 1 (.slice (some ⟨wo.heap.size, 0, none⟩) (0 + 1) 1) (0 + 1) (ints .i64 (st0 W k).1)) := own_one wo w.heap.size k hso
          have B1 : Hid (Below w.heap.size w (wo.alloc (.cells #[.int .i64 k] 3))) := hnx.alloc hso _
          have hck : wo.cell? ⟨b, off + k, none⟩ = some (.int .i64 (nx W (k : Int))) := by rw [hnx.cell (p := ⟨b, off + k, none⟩) hbl, ← EQ.out]; exact HC.out k hlt
          have hblo : b < wo.heap.size := by omega
          clear hnx
          go_wp2_with fail
          go_loopw [5, 6] (fun v q wr => ∃ (s : St) (j : Nat) (a' : Option Addr) (c' : Nat), v = .slice a' (j + 1) c' ∧ q = .int .i64 s.2 ∧ On s j ∧ j ≤ 4 ∧ mRun W k (4 - j) s = mRun W k 4 (st0 W k) ∧ wr.ownsRow w.heap.size 3 1 (.slice a' (j + 1) c') (j + 1) (ints .i64 s.1) ∧ Below w.heap.size w wr) (fun v _ _ => 5 - lenOf v)
          case atStart => exact ⟨st0 W k, 0, _, _, rfl, rfl, ON0.out, by omega, rfl, O1.out, B1.out⟩
          case round =>
            obtain ⟨⟨way, q⟩, j, a', c', rfl, rfl, hon, hj, hrun, ho, hnx⟩ := hrel
            have HON : Hid (On (way, q) j) := hon
            have HO : Hid (wr.ownsRow w.heap.size 3 1 (.slice a' (j + 1) c') (j + 1) (ints .i64 way)) := ho
            have HN : Hid (Below w.heap.size w wr) := hnx
            have HRUN : Hid (mRun W k (4 - j) (way, q) = mRun W k 4 (st0 W k)) := hrun
            have HWF : Hid (∀ z ∈ way, (Lit.int .i64 z).wf = true) := fun z hz => by have := hon.mem z hz; exact int_wf z (by omega) (by omega)
            have HR2 : Hid (IsRow .i64 wr a' (j + 1) c' way) := by
              obtain ⟨_, _, e, hr⟩ := isRow_own HO.out HWF.out
              cases e
              exact hr
            have hsr := hnx.size
            have HEND : Hid (mGo k (way, q) = false → mRun W k 4 (st0 W k) = (way, q)) := fun h => by rw [← HRUN.out, mRun_stop h]
            have HBACK : Hid (mGo k (way, q) = false → ((decide (way.length ≤ 4) && (nx W (lastI way) == (k : Int))) = backB W k ∧ (backB W k = true → way = (wayS W k).1))) := fun h => by
              have h1 := model_back HG.out k hlt
              have h2 := model_way HG.out k hlt
              rw [HEND.out h] at h1 h2
              exact ⟨h1, h2⟩
            have HWL : Hid (way.length = j + 1) := hon.len
            have HMISS : Hid (backB W k = false → firstB W (4 - (k + 1)) (k + 1) = firstB W 4 0) := fun hb => by
              rw [← HF.out, show 4 - k = (4 - (k + 1)) + 1 by omega, first_miss hb]
            have HHIT : Hid (backB W k = true → roundB W = true ∧ roundV W = (wayS W (k : Int)).1) := fun hb => round_some HG.out (by rw [← HF.out, show 4 - k = (4 - (k + 1)) + 1 by omega, first_hit hb])
            -- what comes behind the inner loop
            have HLAST : Hid (0 ≤ lastI way ∧ lastI way ≤ 3 ∧ ∃ b' o', a' = some ⟨b', o', none⟩ ∧ wr.cell? ⟨b', o' + j, none⟩ = some (.int .i64 (lastI way))) := by
              have e : lastI way = way.getD j 0 := by unfold lastI; rw [HWL.out]; rfl
              have hm := HON.out.mem _ (getD_mem (zs := way) (i := j) (by rw [HWL.out]; omega))
              obtain ⟨b', o', ha', _, hc'⟩ := HR2.out.cells (by omega)
              rw [e]
              exact ⟨hm.1, hm.2, b', o', ha', hc' j (by omega)⟩
            clear ho hnx hrun hon
            rcases Bool.eq_false_or_eq_true (mGo k (way, q)) with hm | hm
            · have hq0 : 0 ≤ q := (mGo_len hm).1
              have hj4 : j < 4 := by have := (mGo_len hm).2; rw [HWL.out] at this; omega
              have hqk : (q != (k : Int)) = true := (Bool.and_eq_true_iff.1 (Bool.and_eq_true_iff.1 hm).2).1
              have hjI : ((j + 1 : Nat) : Int) ≤ 4 := by omega
              have hq3 : q ≤ 3 := HON.out.hi
              have HST : Hid (On (wstep W (way, q)) (j + 1)) := on_step HG.out HON.out hq0
              have HRUN2 : Hid (mRun W k (4 - (j + 1)) (wstep W (way, q)) = mRun W k 4 (st0 W k)) := by
                show _ = _
                rw [← HRUN.out, show 4 - j = (4 - (j + 1)) + 1 by omega, mRun_step hm]
              obtain ⟨q', rfl⟩ : ∃ q' : Nat, q = (q' : Int) := ⟨q.toNat, by omega⟩
              have hq4 : q' < 4 := by omega
              have hqI : (q' : Int) < 4 := by omega
              have HOa4 : Hid ((wr.alloc (.cells #[.int .i64 q'] 3)).ownsRow w.heap.size 3 1 (.slice a' (j + 1) c') (j + 1) (ints .i64 way)) := own_below HO.out ((Below.refl _ _).alloc (Nat.le_refl _) _)
              have HNa4 : Hid (Below w.heap.size w (wr.alloc (.cells #[.int .i64 q'] 3))) := HN.out.alloc HN.out.size _
              have Sa4 : Hid (0 < 1 → ∃ ad, (some ⟨wr.heap.size, 0, none⟩ : Option Addr) = some ad ∧ ∀ j u, ([.int .i64 q'] : List Value)[j]? = some u → (wr.alloc (.cells #[.int .i64 q'] 3)).cell? (ad.add j) = some u) := news_one wr _ _
              clear hm
              go_wp2_with (at_builtin; refine App.wpList_append_all _ rfl _ _ 24 rfl w.heap.size 3 i0 (.int .i64 0) 1 8 Try.underlying24 hi hz0 hz1 hz2 rfl (by decide) _ _ _ rfl HOa4.out _ 1 _ [.int .i64 q'] rfl rfl Sa4.out (by simp [Value.oneCell']) (by unfold maxLen; omega) (by omega) HNa4.out.size ?_)
              intro a4 c4 w4 hown4 hgrow4
              have O4 : Hid (w4.ownsRow w.heap.size 3 1 (.slice a4 (j + 1 + 1) c4) (j + 1 + 1) (ints .i64 (way ++ [(q' : Int)]))) := by show World.ownsRow _ _ _ _ _ _ _; simpa [ints] using hown4
              have N4 : Hid (Below w.heap.size w w4) := below_app HNa4.out HOa4.out hgrow4 HNa4.out.size (Nat.le_refl _)
              have hcq : w4.cell? ⟨b, off + q', none⟩ = some (.int .i64 (nx W (q' : Int))) := by rw [N4.out.cell (p := ⟨b, off + q', none⟩) hbl, ← EQ.out]; exact HC.out q' hq4
              clear hown4 hgrow4
              go_wp2
              go_roundw
              case rel => exact ⟨wstep W (way, (q' : Int)), j + 1, _, _, rfl, rfl, HST.out, by omega, HRUN2.out, O4.out, N4.out⟩
              case measure => simp [lenOf]; omega
            · have HB := HBACK.out hm
              have HMG : Hid (mGo k (way, q) = false) := hm
              obtain ⟨hl0, hl3, b', o', rfl, hcl⟩ := HLAST.out
              have HB1 : Hid ((decide (way.length ≤ 4) && (nx W (lastI way) == (k : Int))) = backB W k) := HB.1
              have HB2 : Hid (backB W k = true → way = (wayS W k).1) := HB.2
              clear HB hm
              generalize lastI way = L at hcl hl0 hl3 HB1
              obtain ⟨l', rfl⟩ : ∃ l' : Nat, L = (l' : Int) := ⟨L.toNat, by omega⟩
              have hl4 : l' < 4 := by omega
              have hlI : (l' : Int) < 4 := by omega
              have hcw : wr.cell? ⟨b, off + l', none⟩ = some (.int .i64 (nx W (l' : Int))) := by rw [HN.out.cell (p := ⟨b, off + l', none⟩) hbl, ← EQ.out]; exact HC.out l' hl4
              have hwr1 : IntKind.i64.wrap (((j + 1 : Nat) : Int) - 1) = (j : Int) := by simp [IntKind.wrap, IntKind.bits, IntKind.signed]; omega
              by_cases hq0 : 0 ≤ q
              · by_cases hqk : q = (k : Int)
                · subst hqk
                  have hqb : ((k : Int) != (k : Int)) = false := by simp
                  by_cases hj3 : j ≤ 3
                  · have hjI4 : ((j + 1 : Nat) : Int) ≤ 4 := by omega
                    rcases Bool.eq_false_or_eq_true (nx W (l' : Int) == (k : Int)) with hb | hb
                    · have HBK : Hid (backB W k = true) := by show _ = _; rw [← HB1.out, hb, decide_eq_true (by rw [HWL.out]; omega)]; rfl
                      have F : Hid (roundB W = true ∧ roundV W = way) := by have h := HHIT.out HBK.out; rw [← HB2.out HBK.out] at h; exact h
                      go_wp2
                      go_ret2
                      exact ⟨.slice (some ⟨b', o', none⟩) (j + 1) c', by rw [F.out.1]; rfl, by rw [F.out.2]; exact iOwn_of HO.out HWF.out (by omega), HN.out⟩
                    · have HBK : Hid (backB W k = false) := by show _ = _; rw [← HB1.out, hb, Bool.and_false]
                      have F : Hid (firstB W (4 - (k + 1)) (k + 1) = firstB W 4 0) := HMISS.out HBK.out
                      go_wp2
                      go_roundw
                      case rel => exact ⟨k + 1, by omega, by go_num, F.out, HN.out⟩
                      case measure => simp [intOf]; omega
                  · obtain rfl : j = 4 := by omega
                    have hjI4 : ¬ ((4 + 1 : Nat) : Int) ≤ 4 := by omega
                    have HBK : Hid (backB W k = false) := by show _ = _; rw [← HB1.out, decide_eq_false (by rw [HWL.out]; omega)]; rfl
                    have F : Hid (firstB W (4 - (k + 1)) (k + 1) = firstB W 4 0) := HMISS.out HBK.out
                    go_wp2
                    go_roundw
                    case rel => exact ⟨k + 1, by omega, by go_num, F.out, HN.out⟩
                    case measure => simp [intOf]; omega
                · have hqb : (q != (k : Int)) = true := by rw [bne_iff_ne]; exact hqk
                  have hj4 : ¬ j ≤ 3 := fun h => by
                    have e := HMG.out
                    unfold mGo at e
                    simp only [hqb, decide_eq_true hq0, decide_eq_true (show way.length ≤ 4 by rw [HWL.out]; omega)] at e
                    cases e
                  obtain rfl : j = 4 := by omega
                  have hjI4 : ¬ ((4 + 1 : Nat) : Int) ≤ 4 := by omega
                  have HBK : Hid (backB W k = false) := by show _ = _; rw [← HB1.out, decide_eq_false (by rw [HWL.out]; omega)]; rfl
                  have F : Hid (firstB W (4 - (k + 1)) (k + 1) = firstB W 4 0) := HMISS.out HBK.out
                  go_wp2
                  go_roundw
                  case rel => exact ⟨k + 1, by omega, by go_num, F.out, HN.out⟩
                  case measure => simp [intOf]; omega
              · by_cases hj3 : j ≤ 3
                · have hjI4 : ((j + 1 : Nat) : Int) ≤ 4 := by omega
                  rcases Bool.eq_false_or_eq_true (nx W (l' : Int) == (k : Int)) with hb | hb
                  · have HBK : Hid (backB W k = true) := by show _ = _; rw [← HB1.out, hb, decide_eq_true (by rw [HWL.out]; omega)]; rfl
                    have F : Hid (roundB W = true ∧ roundV W = way) := by have h := HHIT.out HBK.out; rw [← HB2.out HBK.out] at h; exact h
                    go_wp2
                    go_ret2
                    exact ⟨.slice (some ⟨b', o', none⟩) (j + 1) c', by rw [F.out.1]; rfl, by rw [F.out.2]; exact iOwn_of HO.out HWF.out (by omega), HN.out⟩
                  · have HBK : Hid (backB W k = false) := by show _ = _; rw [← HB1.out, hb, Bool.and_false]
                    have F : Hid (firstB W (4 - (k + 1)) (k + 1) = firstB W 4 0) := HMISS.out HBK.out
                    go_wp2
                    go_roundw
                    case rel => exact ⟨k + 1, by omega, by go_num, F.out, HN.out⟩
                    case measure => simp [intOf]; omega
                · obtain rfl : j = 4 := by omega
                  have hjI4 : ¬ ((4 + 1 : Nat) : Int) ≤ 4 := by omega
                  have HBK : Hid (backB W k = false) := by show _ = _; rw [← HB1.out, decide_eq_false (by rw [HWL.out]; omega)]; rfl
                  have F : Hid (firstB W (4 - (k + 1)) (k + 1) = firstB W 4 0) := HMISS.out HBK.out
                  go_wp2
                  go_roundw
                  case rel => exact ⟨k + 1, by omega, by go_num, F.out, HN.out⟩
                  case measure => simp [intOf]; omega
        · obtain rfl : k = 4 := by omega
          have F : Hid (roundB W = false ∧ roundV W = []) := round_none HG.out HF.out.symm
          go_wp2
          go_ret2
          exact ⟨.slice none 0 0, by rw [F.out.1]; rfl, by rw [F.out.2]; exact iOwn_nil _ _ _, HN0.out⟩
    · have HA : Hid (W.all (fun z => inB z (-1) 3) = false) := hg
      have F : Hid (roundB W = false ∧ roundV W = []) := round_bad (HE.out.trans hg)
      clear hg
      go_enter Try.func22, Try.ntmps22
      go_wp2_with fail
      refine (Lst.spec_l1All _ 4 ca W (-1) 3 _ HR.out (by omega)).mono ?_
      rintro e w' ⟨rfl, hw'⟩; have hw'' := hw'.symm; clear hw'; subst hw''
      rw [show Lst.allIn (-1) 3 W = false from HA.out]
      go_wp2
      go_ret2
      exact ⟨.slice none 0 0, by rw [F.out.1]; rfl, by rw [F.out.2]; exact iOwn_nil _ _ _, Below.refl _ _⟩
  · have F : Hid (roundB W = false ∧ roundV W = []) := round_bad (by unfold areB; rw [decide_eq_false (by rw [HL.out]; exact h4)]; rfl)
    have hne : ((n : Int) != 4) = true := by rw [bne_iff_ne]; omega
    go_enter Try.func22, Try.ntmps22
    go_wp2
    go_ret2
    exact ⟨.slice none 0 0, by rw [F.out.1]; rfl, by rw [F.out.2]; exact iOwn_nil _ _ _, Below.refl _ _⟩


end Go.Proofs.Ytlcfdfcfmmhdgaa.Hra
