/-
  Contract of the model's OrderBy.
-/
import Derived.Test.YtkondmnkmbdncaaGlg
import Derived.Test.YtkondmnkmbdncaaGlh
namespace Go.Proofs.Ytkondmnkmbdncaa.Gli
open Go.RowKit
open Go.Proofs.Ytkondmnkmbdncaa.Frame Go.Proofs.Ytkondmnkmbdncaa.Mem Go.Proofs.Ytkondmnkmbdncaa.Ints Go.Proofs.Ytkondmnkmbdncaa.Kep Go.Proofs.Ytkondmnkmbdncaa.Lls Go.Proofs.Ytkondmnkmbdncaa.Mis Go.Proofs.Ytkondmnkmbdncaa.Gpu Go.Proofs.Ytkondmnkmbdncaa.Gpv Go.Proofs.Ytkondmnkmbdncaa.Glh
open Go.Proofs.Ytkondmnkmbdncaa.Glb (own_row em_bool iOwn_nil)
open Go.Proofs.Ytkondmnkmbdncaa.Kpi (infoI)
open Go.Proofs.Ytkondmnkmbdncaa.Knl hiding Ll
open Go.Proofs.Ytkondmnkmbdncaa.Rel

set_option maxRecDepth 8000 in
set_option maxHeartbeats 3200000 in
theorem spec_OrderBy (v : Value) (xs : Ll) (w : World) (h : LIs w v xs) :
    Calls Try.prog 31 #[v] w fun e w' => ∃ u, e = .returned (.tuple #[u, .bool (goodG xs)]) ∧ IOwn w' w.heap.size w'.heap.size u (orderV xs) ∧ Below w.heap.size w w' := by
  obtain ⟨i0, hi, hz0, hz1, hz2⟩ := info_parts infoI
  obtain ⟨a, n, c, rs, rfl, hr, rfl, ht⟩ := h
  have H : Hid (LIs w (.slice a n c) (lplain rs)) := ⟨a, n, c, rs, rfl, hr, rfl, ht⟩
  have HI : Hid (IsLs w a n c rs) := hr
  clear hr ht
  rcases em_bool (goodG (lplain rs)) with hg | hg
  · have HG : Hid (goodG (lplain rs) = false) := hg
    clear hg
    go_enter Try.func31, Try.ntmps31
    go_wp2_with fail
    refine (Gla.spec_GoodLinks _ _ _ H.out).mono ?_
    rintro e w' ⟨rfl, hw'⟩; have hw'' := hw'.symm; clear hw'; subst hw''
    rw [HG.out]
    go_wp2
    go_ret2
    refine ⟨_, by rw [HG.out]; rfl, ?_, Below.refl _ _⟩
    unfold orderV
    rw [HG.out]
    exact iOwn_nil _ _ _
  · have HG : Hid (goodG (lplain rs) = true) := hg
    have GP : Hid (GoodP (lplain rs)) := good_iff.1 hg
    clear hg
    go_enter Try.func31, Try.ntmps31
    go_wp2_with fail
    refine (Gla.spec_GoodLinks _ _ _ H.out).mono ?_
    rintro e w' ⟨rfl, hw'⟩; have hw'' := hw'.symm; clear hw'; subst hw''
    rw [HG.out]
    go_wp2_with fail
    refine (Glg.l9Groups a n c rs _ HI.out GP.out).mono ?_
    rintro e w1 ⟨a1, k, c1, rfl, ⟨qs, ho, hp⟩, hb⟩
    have B1 : Hid (Below w.heap.size w w1) := hb
    have FEW : Hid (k ≤ 12 ∧ ∀ r ∈ qs, r.n ≤ 12) := few_rows GP.out ho hp
    have LS : Hid (IsLs w1 a1 k c1 qs) := ho.isLs
    have HL : Hid (qs.length = k) := ho.len
    have HP : Hid (lplain qs = groupsN (lplain rs)) := hp
    have HB : Hid (∀ q, tot (qs.take q) ≤ 144) := fun q => tot_take FEW.out.2 (by rw [ho.len]; exact FEW.out.1) q
    have O1 : Hid (w1.ownsRow w1.heap.size 3 1 (.slice none 0 0) 0 (ints .i64 (lplain (qs.take 0)).flatten)) := World.ownsRow_nil _ _ _ _
    have hk12 : k ≤ 12 := FEW.out.1
    clear ho hb hp
    go_wp2_with fail
    go_loopw [4, 13] (fun v i wr => ∃ (q m : Nat) (a' : Option Addr) (c' : Nat), q ≤ k ∧ i = .int .i64 q ∧ v = .slice a' m c' ∧ m = tot (qs.take q) ∧ wr.ownsRow w1.heap.size 3 1 (.slice a' m c') m (ints .i64 (lplain (qs.take q)).flatten) ∧ Below w1.heap.size w1 wr) (fun _ i _ => k - (intOf i).toNat)
    case atStart => exact ⟨0, 0, none, 0, Nat.zero_le _, rfl, rfl, rfl, O1.out, Below.refl _ _⟩
    case round =>
      obtain ⟨q, m, a', c', hq, rfl, rfl, hm, ho, hnx⟩ := hrel
      have HN : Hid (Below w1.heap.size w1 wr) := hnx
      have HO : Hid (wr.ownsRow w1.heap.size 3 1 (.slice a' m c') m (ints .i64 (lplain (qs.take q)).flatten)) := ho
      have HM : Hid (m = tot (qs.take q)) := hm
      have hmb : m ≤ 144 := by rw [hm]; exact HB.out q
      clear hnx ho hm O1
      by_cases hlt2 : q < k
      · obtain ⟨b, off, rfl, hb, hc⟩ := LS.out.cells (by omega)
        have hkl : q < qs.length := by rw [HL.out]; exact hlt2
        have p0 : wr.cell? ⟨b, off + q, none⟩ = some (.slice (qs.getD q ld).a (qs.getD q ld).n (qs.getD q ld).c) := by rw [HN.out.cell (p := ⟨b, off + q, none⟩) hb]; exact hc q hlt2
        have HT2 : Hid (tot (qs.take (q + 1)) = tot (qs.take q) + (qs.getD q ld).n) := by show _ = _; rw [take_succ_ld hkl, tot_append]; simp [tot]
        have HF : Hid ((lplain (qs.take (q + 1))).flatten = (lplain (qs.take q)).flatten ++ (qs.getD q ld).zs) := by show _ = _; rw [take_succ_ld hkl]; simp [lplain]
        have hrow := IsRow.below (LS.out.rows _ (getD_mem_ld hkl)) HN.out
        have hrn := FEW.out.2 _ (getD_mem_ld hkl)
        generalize qs.getD q ld = r at p0 HT2 HF hrow hrn
        obtain ⟨ra, rn, rc, rz⟩ := r
        simp only at p0 HT2 HF hrow hrn
        have HZL : Hid ((ints .i64 rz).length = rn * 1) := by show _ = _; rw [ints_length, hrow.len]; omega
        have S2 : Hid (0 < rn → ∃ ad, ra = some ad ∧ ∀ j u, (ints .i64 rz)[j]? = some u → wr.cell? (ad.add j) = some u) := news_row hrow
        have hkn : (q : Int) < (k : Int) := by omega
        have hk0 : (0 : Int) ≤ (q : Int) := by omega
        clear hc hb hkl hrow
        go_wp2_with (at_builtin; refine App.wpList_append_all _ rfl _ _ 24 rfl w1.heap.size 3 i0 (.int .i64 0) 1 8 Try.underlying24 hi hz0 hz1 hz2 rfl (by decide) _ m _ rfl HO.out _ rn _ (ints .i64 rz) rfl HZL.out S2.out (one_int rz) (by unfold maxLen; omega) (by omega) HN.out.size ?_)
        intro a4 c4 w4 hown4 hgrow4
        have O4 : Hid (w4.ownsRow w1.heap.size 3 1 (.slice a4 (m + rn) c4) (m + rn) (ints .i64 (lplain (qs.take (q + 1))).flatten)) := by
          show World.ownsRow _ _ _ _ _ _ _
          rw [HF.out]
          unfold ints at *
          rw [List.map_append]
          exact hown4
        have N4 : Hid (Below w1.heap.size w1 w4) := below_app HN.out HO.out hgrow4 HN.out.size (Nat.le_refl _)
        clear hown4 hgrow4
        go_wp2
        go_roundw
        case rel => exact ⟨q + 1, m + rn, a4, c4, by omega, by go_num, rfl, by rw [HT2.out, ← HM.out], O4.out, N4.out⟩
        case measure => simp [intOf]; omega
      · obtain rfl : q = k := by omega
        have B9 : Hid (Below w.heap.size w wr) := Frame.next B1.out HN.out B1.out.size
        have F : Hid (IOwn wr w.heap.size wr.heap.size (.slice a' m c') (orderV (lplain rs))) := by
          have h := HO.out
          rw [List.take_of_length_le (by rw [HL.out]; omega), HP.out] at h
          show IOwn _ _ _ _ _
          unfold orderV
          rw [HG.out]
          exact iOwn_of (own_base h B1.out.size) (order_wf GP.out) (by omega)
        go_wp2
        go_ret2
        exact ⟨_, by rw [HG.out]; rfl, F.out, B9.out⟩


end Go.Proofs.Ytkondmnkmbdncaa.Gli
