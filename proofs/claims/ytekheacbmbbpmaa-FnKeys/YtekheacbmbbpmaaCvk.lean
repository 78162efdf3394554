/-
  Contract of the model's CoverOf.
-/
import Derived.Test.YtekheacbmbbpmaaCvj
import Derived.Test.YtekheacbmbbpmaaApr
import Derived.Test.YtekheacbmbbpmaaSsd
namespace Go.Proofs.Ytekheacbmbbpmaa.Cvk
open Go.RowKit
open Go.Proofs.Ytekheacbmbbpmaa.Frame Go.Proofs.Ytekheacbmbbpmaa.Mem Go.Proofs.Ytekheacbmbbpmaa.Ints Go.Proofs.Ytekheacbmbbpmaa.Kep Go.Proofs.Ytekheacbmbbpmaa.Lls Go.Proofs.Ytekheacbmbbpmaa.Mis Go.Proofs.Ytekheacbmbbpmaa.Dls Go.Proofs.Ytekheacbmbbpmaa.Dlt Go.Proofs.Ytekheacbmbbpmaa.Dlk Go.Proofs.Ytekheacbmbbpmaa.Csa Go.Proofs.Ytekheacbmbbpmaa.Csb Go.Proofs.Ytekheacbmbbpmaa.Csc Go.Proofs.Ytekheacbmbbpmaa.Csd Go.Proofs.Ytekheacbmbbpmaa.Ssc Go.Proofs.Ytekheacbmbbpmaa.Cca Go.Proofs.Ytekheacbmbbpmaa.Cvi Go.Proofs.Ytekheacbmbbpmaa.Cvj
open Go.Proofs.Ytekheacbmbbpmaa.Rel hiding Ll
open Go.Proofs.Ytekheacbmbbpmaa.Cpu hiding Dp

theorem push_next {V w8 w10 : World} {B j c c' : Nat} {a a' : Option Addr} {xs : List LV} {o : Obj} {ua ta : Option Addr} {un uc tn tc : Nat} {d : Dp} (h : OwnG V B a j c xs) (hb : Below V.heap.size V w8) (hB : B ≤ V.heap.size) (ho : EOwn w8 V.heap.size w8.heap.size (.slice ua un uc) (.slice ta tn tc) d) (hg : (w8.alloc o).grownBy w10 (Value.slice a j c).ownBlock) (hown : w10.ownsRow B 36 2 (.slice a' (j + 1) c') (j + 1) (lcells xs ++ [.slice ua un uc, .slice ta tn tc])) : OwnG w10 B a' (j + 1) c' (xs ++ [⟨ua, un, uc, d.1⟩, ⟨ta, tn, tc, d.2⟩]) := by
  obtain ⟨o1, o2, wf1, wf2, bl1, bl2, ff⟩ := eOwn_parts ho
  have ab : Below w8.heap.size w8 (w8.alloc o) := (Below.refl _ _).alloc (Nat.le_refl _) _
  refine g_push (r := ⟨ua, un, uc, d.1⟩) (q := ⟨ta, tn, tc, d.2⟩) ((h.below hb).below ab) (own_below (own_base o1 hB) ab) (own_below (own_base o2 hB) ab) wf1 wf2 (fun s hs => ⟨fun x y hx hy => ?_, fun x y hx hy => ?_⟩) ff hg (by rw [lcells_append]; exact hown)
  · have h1 := (OwnG.lt h s hs x hx).2
    have h2 := (bl1 y hy).1
    omega
  · have h1 := (OwnG.lt h s hs x hx).2
    have h2 := (bl2 y hy).1
    omega
theorem dOwn_any {w wr : World} {B n c : Nat} {a : Option Addr} {xs : List LV} {ds : List Dp} {cols : Int} (h : OwnG wr B a n c xs) (hp : dpl xs = ds) (hn : n ≤ 8) (h6 : cols ≤ 6) (hd : ∀ d ∈ ds, depB cols d = true) (hB : w.heap.size ≤ B) : DOwn wr w.heap.size wr.heap.size (.slice a n c) ds := by
  subst hp
  have hs2 : (n : Int) + sumL xs ≤ 1048576 := by
    have := sum_six (six_rows h.isG h6 hd)
    have hl := h.isG.len
    omega
  exact ⟨_, _, _, xs, rfl, ⟨own_base h.outer hB, fun r hr => own_base (h.inner r hr) hB, h.wf, h.apart, h.apart0⟩, rfl, hs2, fun x hx => by have := own_block h.outer x hx; omega, fun r hr x hx => by have := own_block (h.inner r hr) x hx; omega⟩

set_option maxRecDepth 100000 in
set_option maxHeartbeats 12800000 in
theorem spec_CoverOf (cols : Int) (v : Value) (ds : List Dp) (w : World) (h : DIs w v ds) :
    Calls Try.prog 8 #[.int .i64 cols, v] w fun e w' => ∃ u, e = .returned (.tuple #[u, .bool (goodD cols ds)]) ∧ DOwn w' w.heap.size w'.heap.size u (coverV cols ds) ∧ Below w.heap.size w w' := by
  obtain ⟨i0, hi, hz0, hz1, hz2⟩ := info_parts infoD
  have HD : Hid (DIs w v ds) := h
  obtain ⟨a, n, cap, rs, rfl, hg, rfl, hsz⟩ := h
  have HG0 : Hid (IsG w a n cap rs) := hg
  clear hg hsz
  go_enter Try.func8, Try.ntmps8
  go_wp2_with fail
  refine (Dga.spec_GoodDeps cols _ (dpl rs) _ HD.out).mono ?_
  rintro e w1 ⟨rfl, hb1⟩
  have B1 : Hid (Below w.heap.size w w1) := hb1
  clear hb1
  cases hG : goodD cols (dpl rs)
  · have EV : Hid (coverV cols (dpl rs) = []) := by show _ = _; unfold coverV; rw [hG]; rfl
    have GF : Hid (goodD cols (dpl rs) = false) := hG
    clear hG
    go_wp2
    go_ret2
    refine ⟨.slice none 0 0, by rw [GF.out]; rfl, ?_, B1.out⟩
    rw [EV.out]
    exact ⟨none, 0, 0, [], rfl, ⟨World.ownsRow_nil _ _ _ _, by simp, by simp, by simp, by simp⟩, rfl, by simp [sumL], (fun x hx => by cases hx), by simp⟩
  · have hc := cols_of hG
    have hl0 := dpl_length n rs HG0.out.len
    have EV : Hid (coverV cols (dpl rs) = covS (dpl rs).length (dpl rs) 0) := by show _ = _; unfold coverV; rw [hG]; rfl
    have GT : Hid (goodD cols (dpl rs) = true) := hG
    have hc1 := hc.2.1
    have hc6 := hc.2.2.1
    have hn8 : n ≤ 8 := by rw [← hl0]; exact hc.2.2.2.1
    have HDB : Hid (∀ d ∈ dpl rs, depB cols d = true) := hc.2.2.2.2
    have HL0 : Hid ((dpl rs).length = n) := hl0
    clear hG hc hl0
    have ab1 : Below w1.heap.size w1 (w1.alloc (.cells #[] 36)) := (Below.refl _ _).alloc (Nat.le_refl _) _
    have BA1 : Hid (Below w.heap.size w (w1.alloc (.cells #[] 36))) := Frame.next B1.out ab1 B1.out.size
    have OA1 : Hid ((w1.alloc (.cells #[] 36)).ownsRow w.heap.size 36 2 (.slice (some ⟨w1.heap.size, 0, none⟩) 0 0) 0 []) := own_zero w1 _ _ _ _ rfl B1.out.size
    have SA1 : Hid (0 < n → ∃ ad, a = some ad ∧ ∀ j u, (lcells rs)[j]? = some u → (w1.alloc (.cells #[] 36)).cell? (ad.add j) = some u) := news_g (HG0.out.below BA1.out)
    have HRL : Hid ((lcells rs).length = n * 2) := by show _ = _; rw [lcells_length, HG0.out.len]
    clear ab1
    go_wp2_with (at_builtin; refine App.wpList_append_all _ rfl _ _ 23 rfl w.heap.size 36 i0 (.agg #[.slice none 0 0, .slice none 0 0]) 2 48 Try.underlying23 hi hz0 hz1 hz2 rfl (by decide) _ _ _ rfl OA1.out a n cap (lcells rs) rfl HRL.out SA1.out (one_ls rs) (by unfold maxLen; omega) (by omega) BA1.out.size ?_)
    intro a2 c2 w2 hown2 hgrow2
    have B2 : Hid (Below w.heap.size w w2) := below_app BA1.out OA1.out hgrow2 BA1.out.size (Nat.le_refl _)
    have G2 : Hid (IsG w2 a2 n c2 rs) := isG_outer hown2 (fun r hr => IsRow.below (HG0.out.rows r hr) B2.out)
    clear hown2 hgrow2
    go_wp2_with fail
    go_loopw [6, 7] (fun s i wr => ∃ (k m : Nat) (a' : Option Addr) (c' : Nat) (qs : List LV), k ≤ m ∧ m ≤ 8 ∧ s = .slice a' m c' ∧ i = .int .i64 k ∧ IsG wr a' m c' qs ∧ (∀ d ∈ dpl qs, depB cols d = true) ∧ covS (m - k) (dpl qs) k = covS (dpl rs).length (dpl rs) 0 ∧ Below w.heap.size w wr) (fun s i _ => lenV s - (intOf i).toNat)
    case atStart => exact ⟨0, n, a2, c2, rs, Nat.zero_le _, hn8, rfl, rfl, G2.out, HDB.out, by rw [HL0.out, Nat.sub_zero], B2.out⟩
    case round =>
      obtain ⟨k, m, a', c', qs, hk, hm8, rfl, rfl, hq, hdb, hcv, hnx⟩ := hrel
      have HQ : Hid (IsG wr a' m c' qs) := hq
      have HB : Hid (∀ d ∈ dpl qs, depB cols d = true) := hdb
      have HX : Hid (Below w.heap.size w wr) := hnx
      have HLQ : Hid ((dpl qs).length = m) := dpl_length m qs hq.len
      have HCV : Hid (covS ((dpl qs).length - k) (dpl qs) k = covS (dpl rs).length (dpl rs) 0) := by show _ = _; rw [HLQ.out]; exact hcv
      have hfit := hq.fits
      have hmax := hq.max
      clear hdb hcv
      by_cases hlt : k < m
      · have hltI : (k : Int) < (m : Int) := by omega
        have hle1 : (k : Int) ≤ (c' : Int) := by omega
        obtain ⟨k1, hk1⟩ : ∃ k1, k1 = k + 1 := ⟨_, rfl⟩
        have HK1 : Hid (k1 = k + 1) := hk1
        have hw1 : IntKind.i64.wrap ((k : Int) + 1) = (k1 : Int) := by simp [IntKind.wrap, IntKind.bits, IntKind.signed]; omega
        have hle2 : (k1 : Int) ≤ (m : Int) := by omega
        have hle4 : (k1 : Int) ≤ (c' : Int) := by omega
        have hle3 : (m : Int) ≤ (c' : Int) := by omega
        have hk1m : k1 ≤ m := by omega
        obtain ⟨b, off, fa, fn, fc, ta, tn, tc, d, rfl, p0, p1, he, hd⟩ := Dga.dep_at hq (Below.refl _ _) hlt (fun r hr => by have := six_rows hq hc6 HB.out r hr; omega)
        have HE : Hid (EIs wr (.slice fa fn fc) (.slice ta tn tc) d) := he
        have HGD : Hid ((dpl qs).getD k Dls.d0 = d) := hd
        have P01 : Hid (wr.cell? ⟨b, off + k * 2, none⟩ = some (.slice fa fn fc) ∧ wr.cell? ⟨b, off + k * 2 + 1, none⟩ = some (.slice ta tn tc)) := ⟨p0, p1⟩
        have DPR : Hid (dpl (qs.take (k * 2) ++ qs.drop ((k + 1) * 2)) = othersD (dpl qs) k) := by
          show _ = _
          have e := dpl_append k (qs.take (k * 2)) (qs.drop ((k + 1) * 2)) (by rw [List.length_take, hq.len]; omega)
          rw [e, dpl_take hq.len (by omega), dpl_drop hq.len (by omega)]
          rfl
        obtain ⟨sa, hsa⟩ : ∃ a2, (if c' = k1 then some (⟨b, off, none⟩ : Addr) else some ⟨b, off + k1 * 2, none⟩) = a2 := ⟨_, rfl⟩
        have HPRE : Hid (IsG wr (some ⟨b, off, none⟩) k c' (qs.take (k * 2))) := isG_pre hq (by omega)
        have HSUF : Hid (IsG wr sa (m - k1) (c' - k1) (qs.drop ((k + 1) * 2))) := isG_suf2 hq hk1 (by omega) hsa
        have BA : Hid (Below wr.heap.size wr (wr.drew.alloc (.cells #[] 36))) := ((Below.refl _ _).drew).alloc (Nat.le_refl _) _
        have OA : Hid ((wr.drew.alloc (.cells #[] 36)).ownsRow wr.heap.size 36 2 (.slice (some ⟨wr.heap.size, 0, none⟩) 0 0) 0 []) := own_zero wr.drew _ _ _ _ rfl (Nat.le_refl _)
        have SA : Hid (0 < k → ∃ ad, (some ⟨b, off, none⟩ : Option Addr) = some ad ∧ ∀ j u, (lcells (qs.take (k * 2)))[j]? = some u → (wr.drew.alloc (.cells #[] 36)).cell? (ad.add j) = some u) := news_g (HPRE.out.below BA.out)
        have HPL : Hid ((lcells (qs.take (k * 2))).length = k * 2) := by show _ = _; rw [lcells_length, HPRE.out.len]
        have HSL : Hid ((lcells (qs.drop ((k + 1) * 2))).length = (m - k1) * 2) := by show _ = _; rw [lcells_length, HSUF.out.len]
        clear hq hnx p0 p1 he hd hfit hmax hk1
        go_wp2_with fail
        go_region_held3 (fun _ => True) (trivial) (first | (refine Apr.step_append_all _ (by rfl) _ _ 23 (by rfl) wr.heap.size 36 i0 (.agg #[.slice none 0 0, .slice none 0 0]) 2 48 Try.underlying23 hi hz0 hz1 hz2 rfl (by decide) _ _ _ (by rfl) OA.out (some ⟨b, off, none⟩) k c' (lcells (qs.take (k * 2))) (by rfl) HPL.out SA.out (one_ls _) (by unfold maxLen; omega) (by omega) BA.out.size ?_; intro a4 c4 w4 hown4 hgrow4; have B4 : Hid (Below wr.heap.size wr w4) := below_app BA.out OA.out hgrow4 BA.out.size (Nat.le_refl _); have O4 : Hid (w4.ownsRow wr.heap.size 36 2 (.slice a4 (0 + k) c4) (0 + k) ([] ++ lcells (qs.take (k * 2)))) := hown4; have S4 : Hid (0 < m - k1 → ∃ ad, sa = some ad ∧ ∀ j u, (lcells (qs.drop ((k + 1) * 2)))[j]? = some u → w4.cell? (ad.add j) = some u) := news_g (HSUF.out.below B4.out); clear hown4 hgrow4) | (refine Apr.step_append_all _ (by rfl) _ _ 23 (by rfl) wr.heap.size 36 i0 (.agg #[.slice none 0 0, .slice none 0 0]) 2 48 Try.underlying23 hi hz0 hz1 hz2 rfl (by decide) _ _ _ (by rfl) O4.out sa (m - k1) (c' - k1) (lcells (qs.drop ((k + 1) * 2))) (by rfl) HSL.out S4.out (one_ls _) (by unfold maxLen; omega) (by omega) B4.out.size ?_; intro a5 c5 w5 hown5 hgrow5; have B5 : Hid (Below wr.heap.size wr w5) := below_app B4.out O4.out hgrow5 B4.out.size (Nat.le_refl _); have O5 : Hid (w5.ownsRow wr.heap.size 36 2 (.slice a5 (k + (m - k1)) c5) (k + (m - k1)) (lcells (qs.take (k * 2) ++ qs.drop ((k + 1) * 2)))) := (by have := hown5; rw [Nat.zero_add, List.nil_append] at this; rw [lcells_append]; exact this); clear hown5 hgrow5))
        have HR5 : Hid (IsG w5 a5 (k + (m - k1)) c5 (qs.take (k * 2) ++ qs.drop ((k + 1) * 2))) := isG_outer O5.out (rows_of HQ.out B5.out)
        have NX5 : Hid (Below w.heap.size w w5) := Frame.next HX.out B5.out HX.out.size
        have HBO : Hid (∀ d ∈ othersD (dpl qs) k, depB cols d = true) := fun d hd => HB.out d (others_mem d hd)
        have DI5 : Hid (DIs w5 (.slice a5 (k + (m - k1)) c5) (othersD (dpl qs) k)) := by
          have h := dIs_few HR5.out (by have := HK1.out; omega) hc6 (by rw [DPR.out]; exact HBO.out)
          rw [DPR.out] at h
          exact h
        have HDB1 : Hid (depB cols d = true) := by
          rw [← HGD.out]
          exact HB.out _ (dp_mem (by rw [HLQ.out]; exact hlt))
        have y0 := Frame.held_cell B5.out P01.out.1
        have y1 := Frame.held_cell B5.out P01.out.2
        obtain ⟨⟨fa', fn', fc', e1, hfr, _⟩, ⟨ta', tn', tc', e2, htr, _⟩⟩ := HE.out
        cases e1
        cases e2
        have HFR : Hid (IsRow .i64 w5 fa fn fc d.1) := IsRow.below hfr B5.out
        have HTR : Hid (IsRow .i64 w5 ta tn tc d.2) := IsRow.below htr B5.out
        clear hfr htr
        have KD : Hid (Below w5.heap.size w5 w5.drew) := (Below.refl _ _).drew
        go_wp2_with fail
        go_region_held3 (fun W' => W'.cell? ⟨b, off + k * 2, none⟩ = some (.slice fa fn fc) ∧ W'.cell? ⟨b, off + k * 2 + 1, none⟩ = some (.slice ta tn tc)) (first | exact ⟨Frame.held_cell KD.out y0, Frame.held_cell KD.out y1⟩ | with_reducible exact K6.out) (first | (go_at_call 27; refine (l5Closure (.slice a5 (k + (m - k1)) c5) fa fn fc (othersD (dpl qs) k) d.1 _ (dIs_below DI5.out KD.out) (IsRow.below HFR.out KD.out) (fun d hd => depB_cols (HBO.out d hd) hc6) (dep_up HDB1.out).1 (depB_cols HDB1.out hc6).1).mono ?_; rintro e w6 ⟨u6, rfl, ho6, hb6⟩; obtain ⟨a6, n6, c6, rfl, hr6, hn6⟩ := iOwn_is ho6; have R6 : Hid (IsRow .i64 w6 a6 n6 c6 (clL (othersD (dpl qs) k) d.1)) := hr6; have B6 : Hid (Below w5.heap.size w5 w6) := Frame.next KD.out hb6 KD.out.size; have K6 : Hid (w6.cell? ⟨b, off + k * 2, none⟩ = some (.slice fa fn fc) ∧ w6.cell? ⟨b, off + k * 2 + 1, none⟩ = some (.slice ta tn tc)) := ⟨Frame.held_cell B6.out y0, Frame.held_cell B6.out y1⟩; clear ho6 hr6 hb6) | (go_at_call 31; refine (l5Sub ta a6 tn n6 tc c6 d.2 (clL (othersD (dpl qs) k) d.1) _ (IsRow.below HTR.out B6.out) R6.out).mono ?_; rintro e w7 ⟨rfl, rfl⟩))
        clear y0 y1
        have IMP : insideB d.2 (clL (othersD (dpl qs) k) d.1) = impB (othersD (dpl qs) k) d := rfl
        rw [IMP]
        clear IMP
        have N6 : Hid (Below w.heap.size w _) := Frame.next NX5.out B6.out NX5.out.size
        rcases Bsr.em_bool (impB (othersD (dpl qs) k) d) with hv | hv
        · rw [hv]
          have HV : Hid (impB (othersD (dpl qs) k) ((dpl qs).getD k Dls.d0) = false) := by show _ = _; rw [HGD.out]; exact hv
          clear hv
          go_wp2
          go_roundw
          case rel =>
            refine ⟨k1, m, _, c', qs, by omega, hm8, rfl, by first | rfl | go_num, HQ.out.below (Frame.next B5.out B6.out B5.out.size), HB.out, ?_, N6.out⟩
            have h := HCV.out
            rw [cov_no (by rw [HLQ.out]; exact hlt) HV.out, HLQ.out] at h
            rw [HK1.out]
            exact h
          case measure =>
            have := HK1.out
            simp [intOf, lenV]
            omega
        · rw [hv]
          have HV : Hid (impB (othersD (dpl qs) k) ((dpl qs).getD k Dls.d0) = true) := by show _ = _; rw [HGD.out]; exact hv
          clear hv
          go_wp2
          go_roundw
          case rel =>
            refine ⟨k, k + (m - k1), a5, c5, _, by omega, by have := HK1.out; omega, rfl, rfl, HR5.out.below B6.out, (by rw [DPR.out]; exact HBO.out), ?_, N6.out⟩
            have h := HCV.out
            rw [cov_yes (by rw [HLQ.out]; exact hlt) HV.out, others_len (by rw [HLQ.out]; exact hlt), HLQ.out] at h
            rw [DPR.out, show k + (m - k1) = m - 1 by have := HK1.out; omega]
            exact h
          case measure =>
            have := HK1.out
            simp [intOf, lenV]
            omega
      · obtain rfl : k = m := by omega
        have HF : Hid (covS (dpl rs).length (dpl rs) 0 = dpl qs) := by show _ = _; rw [← HCV.out]; exact cov_end (by rw [HLQ.out]; exact Nat.le_refl _)
        clear hq hnx hk HCV hfit hmax
        obtain ⟨W1, hW1⟩ : ∃ W1, W1 = wr := ⟨_, rfl⟩
        subst hW1
        go_wp2_with fail
        go_loopw [9, 51] (fun s i wz => ∃ (j : Nat) (a1 : Option Addr) (c1 : Nat) (xs : List LV), j ≤ k ∧ i = .int .i64 j ∧ s = .slice a1 j c1 ∧ OwnG wz W1.heap.size a1 j c1 xs ∧ dpl xs = (dpl qs).take j ∧ Below W1.heap.size W1 wz) (fun _ i _ => k - (intOf i).toNat)
        case atStart => exact ⟨0, none, 0, [], Nat.zero_le _, rfl, rfl, ⟨World.ownsRow_nil _ _ _ _, by simp, by simp, by simp, by simp⟩, rfl, Below.refl _ _⟩
        case round =>
          skip
          obtain ⟨j, a', c1, xs, hj, rfl, rfl, hown, hpl, hnx⟩ := hrel
          have HN : Hid (Below W1.heap.size W1 wr) := hnx
          have HPL : Hid (dpl xs = (dpl qs).take j) := hpl
          have HXL : Hid (xs.length = j * 2) := hown.len
          clear hnx hpl
          by_cases hlt : j < k
          · have hltI : (j : Int) < (k : Int) := by omega
            obtain ⟨b, off, fa, fn, fc, ta, tn, tc, d, rfl, p0, p1, he, hd⟩ := Dga.dep_at HQ.out HN.out hlt (fun r hr => by have := six_rows HQ.out hc6 HB.out r hr; omega)
            have HGD : Hid ((dpl qs).getD j Dls.d0 = d) := hd
            obtain ⟨⟨fa', fn', fc', e1, hfr, hfn⟩, ⟨ta', tn', tc', e2, htr, htn⟩⟩ := he
            cases e1
            cases e2
            have HW1 : Hid (∀ z ∈ d.1, (Lit.int .i64 z).wf = true) := hfr.wf
            have HW2 : Hid (∀ z ∈ d.2, (Lit.int .i64 z).wf = true) := htr.wf
            have KV := (Below.refl wr.heap.size wr).alloc (Nat.le_refl _) (.cells #[.slice fa fn fc, .slice ta tn tc] 36)
            have b0 := (Lsa.cells_one wr (.slice fa fn fc) (.slice ta tn tc) 36).1
            have b1 := (Lsa.cells_one wr (.slice fa fn fc) (.slice ta tn tc) 36).2
            have hwV : wr.heap.size < (wr.alloc (.cells #[.slice fa fn fc, .slice ta tn tc] 36)).heap.size := by simp
            have HNE : Hid (∀ x, a' = some x → wr.heap.size ≠ x.block) := fun x hx => by have := (own_block hown.outer x hx).2; omega
            go_wp2_with fail
            generalize (wr.alloc (.cells #[.slice fa fn fc, .slice ta tn tc] 36)) = V at KV b0 b1 hwV ⊢
            have HKV : Hid (Below wr.heap.size wr V) := KV
            have HVW : Hid (wr.heap.size < V.heap.size) := hwV
            have HVZ : Hid (W1.heap.size ≤ V.heap.size) := Nat.le_trans HN.out.size (Nat.le_of_lt hwV)
            have HOV : Hid (OwnG V W1.heap.size a' j c1 xs) := hown.below KV
            have HFR : Hid (IsRow .i64 V fa fn fc d.1) := IsRow.below hfr KV
            have HTR : Hid (IsRow .i64 V ta tn tc d.2) := IsRow.below htr KV
            have BC : Hid (V.cell? ⟨wr.heap.size, 0, none⟩ = some (.slice fa fn fc) ∧ V.cell? ⟨wr.heap.size, 1, none⟩ = some (.slice ta tn tc)) := ⟨b0, b1⟩
            have KD : Hid (Below V.heap.size V V.drew) := (Below.refl _ _).drew
            have BP1 : Hid (Below V.heap.size V (V.drew.alloc (.cells #[] 3))) := Ivb.bw_made _ KD.out
            have BP2 : Hid (Below V.heap.size V ((V.drew.alloc (.cells #[] 3)).alloc (.cells #[] 3))) := Ivb.bw_made _ BP1.out
            have hz1' : (V.drew.alloc (.cells #[] 3)).heap.size = V.heap.size + 1 := by simp
            have E1 : Hid ((V.drew.alloc (.cells #[] 3)).ownsRow (V.heap.size) 3 1 (.slice (some ⟨V.heap.size, 0, none⟩) 0 0) 0 []) := own_zero V.drew _ _ _ _ rfl (Nat.le_refl _)
            have E2a : Hid (((V.drew.alloc (.cells #[] 3)).alloc (.cells #[] 3)).ownsRow (V.heap.size) 3 1 (.slice (some ⟨V.heap.size, 0, none⟩) 0 0) 0 []) := own_below E1.out ((Below.refl _ _).alloc (Nat.le_refl _) _)
            have E2b : Hid (((V.drew.alloc (.cells #[] 3)).alloc (.cells #[] 3)).ownsRow (V.heap.size + 1) 3 1 (.slice (some ⟨V.heap.size + 1, 0, none⟩) 0 0) 0 []) := own_zero (V.drew.alloc (.cells #[] 3)) _ _ _ _ hz1'.symm (by rw [hz1']; exact Nat.le_refl _)
            have ZP2 : Hid (((V.drew.alloc (.cells #[] 3)).alloc (.cells #[] 3)).heap.size = V.heap.size + 2) := by show _ = _; simp
            have ZP1 : Hid ((V.drew.alloc (.cells #[] 3)).heap.size = V.heap.size + 1) := hz1'
            have K1 : Hid (V.drew.cell? ⟨wr.heap.size, 0, none⟩ = some (.slice fa fn fc) ∧ V.drew.cell? ⟨wr.heap.size, 1, none⟩ = some (.slice ta tn tc)) := ⟨Frame.held_cell KD.out BC.out.1, Frame.held_cell KD.out BC.out.2⟩
            have K2 : Hid ((V.drew.alloc (.cells #[] 3)).cell? ⟨wr.heap.size, 0, none⟩ = some (.slice fa fn fc) ∧ (V.drew.alloc (.cells #[] 3)).cell? ⟨wr.heap.size, 1, none⟩ = some (.slice ta tn tc)) := ⟨Frame.held_cell BP1.out BC.out.1, Frame.held_cell BP1.out BC.out.2⟩
            have K3 : Hid (((V.drew.alloc (.cells #[] 3)).alloc (.cells #[] 3)).cell? ⟨wr.heap.size, 0, none⟩ = some (.slice fa fn fc) ∧ ((V.drew.alloc (.cells #[] 3)).alloc (.cells #[] 3)).cell? ⟨wr.heap.size, 1, none⟩ = some (.slice ta tn tc)) := ⟨Frame.held_cell BP2.out BC.out.1, Frame.held_cell BP2.out BC.out.2⟩
            clear KV hown p0 p1 hfr htr hd b0 b1 hwV hz1'
            go_region_held3 (fun W' => W'.cell? ⟨wr.heap.size, 0, none⟩ = some (.slice fa fn fc) ∧ W'.cell? ⟨wr.heap.size, 1, none⟩ = some (.slice ta tn tc))
              (first | exact K1.out | with_reducible exact K10.out | with_reducible exact K8.out | with_reducible exact K6.out | exact K9.out | exact K7.out | exact K2.out | exact K3.out)
              (first | (refine step_int _ (by rfl) _ _ (by rfl) (w6.heap.size) ta tn tc d.2 (by rfl) (by rfl) (by exact EN.out) (by exact IsRow.below HTR.out BX.out) htn ?_; intro a8 c8 w8 h8; have FN := app_fin (V := V) A6.out ((Below.refl _ _).alloc (Nat.le_refl _) _) h8 (Nat.le_refl _) B6.out.size (by have h1 := A6.out.only.size; have h2 := ZP1.out; omega) (Or.inr (Nat.le_refl _)) BP1.out HW1.out HW2.out hfn htn; have EO : Hid (EOwn w8 V.heap.size w8.heap.size (.slice a6 fn c6) (.slice a8 tn c8) d) := FN.1; have B8 : Hid (Below V.heap.size V w8) := FN.2; clear FN h8; have K8 : Hid (w8.cell? ⟨wr.heap.size, 0, none⟩ = some (.slice fa fn fc) ∧ w8.cell? ⟨wr.heap.size, 1, none⟩ = some (.slice ta tn tc)) := ⟨Frame.held_cell B8.out BC.out.1, Frame.held_cell B8.out BC.out.2⟩; have B9 : Hid (Below V.heap.size V (w8.alloc (.cells #[.slice a6 fn c6, .slice a8 tn c8] 36))) := Ivb.bw_made _ B8.out; have K9 : Hid ((w8.alloc (.cells #[.slice a6 fn c6, .slice a8 tn c8] 36)).cell? ⟨wr.heap.size, 0, none⟩ = some (.slice fa fn fc) ∧ (w8.alloc (.cells #[.slice a6 fn c6, .slice a8 tn c8] 36)).cell? ⟨wr.heap.size, 1, none⟩ = some (.slice ta tn tc)) := ⟨Frame.held_cell B9.out BC.out.1, Frame.held_cell B9.out BC.out.2⟩; have OUT9 : Hid ((w8.alloc (.cells #[.slice a6 fn c6, .slice a8 tn c8] 36)).ownsRow W1.heap.size 36 2 (.slice a' j c1) j (lcells xs)) := (HOV.out.below B9.out).outer; have S9 : Hid (0 < 1 → ∃ ad, (some ⟨w8.heap.size, 0, none⟩ : Option Addr) = some ad ∧ ∀ i u, ([.slice a6 fn c6, .slice a8 tn c8] : List Value)[i]? = some u → (w8.alloc (.cells #[.slice a6 fn c6, .slice a8 tn c8] 36)).cell? (ad.add i) = some u) := news_two w8 _ _ _; have Z9 : Hid (W1.heap.size ≤ (w8.alloc (.cells #[.slice a6 fn c6, .slice a8 tn c8] 36)).heap.size) := Nat.le_trans HVZ.out B9.out.size) | (refine step_int _ (by rfl) _ _ (by rfl) (V.heap.size + 1) ta tn tc d.2 (by rfl) (by rfl) (by exact EN2.out) (by exact IsRow.below HTR.out B6.out) htn ?_; intro a8 c8 w8 h8; have FN := app_fin (V := V) A6.out (Below.refl _ _) h8 (Nat.le_refl _) (Nat.le_succ _) (Nat.succ_ne_self _).symm (Or.inl (by have h2 := ZP2.out; omega)) BP2.out HW1.out HW2.out hfn htn; have EO : Hid (EOwn w8 V.heap.size w8.heap.size (.slice a6 fn c6) (.slice a8 tn c8) d) := FN.1; have B8 : Hid (Below V.heap.size V w8) := FN.2; clear FN h8; have K8 : Hid (w8.cell? ⟨wr.heap.size, 0, none⟩ = some (.slice fa fn fc) ∧ w8.cell? ⟨wr.heap.size, 1, none⟩ = some (.slice ta tn tc)) := ⟨Frame.held_cell B8.out BC.out.1, Frame.held_cell B8.out BC.out.2⟩; have B9 : Hid (Below V.heap.size V (w8.alloc (.cells #[.slice a6 fn c6, .slice a8 tn c8] 36))) := Ivb.bw_made _ B8.out; have K9 : Hid ((w8.alloc (.cells #[.slice a6 fn c6, .slice a8 tn c8] 36)).cell? ⟨wr.heap.size, 0, none⟩ = some (.slice fa fn fc) ∧ (w8.alloc (.cells #[.slice a6 fn c6, .slice a8 tn c8] 36)).cell? ⟨wr.heap.size, 1, none⟩ = some (.slice ta tn tc)) := ⟨Frame.held_cell B9.out BC.out.1, Frame.held_cell B9.out BC.out.2⟩; have OUT9 : Hid ((w8.alloc (.cells #[.slice a6 fn c6, .slice a8 tn c8] 36)).ownsRow W1.heap.size 36 2 (.slice a' j c1) j (lcells xs)) := (HOV.out.below B9.out).outer; have S9 : Hid (0 < 1 → ∃ ad, (some ⟨w8.heap.size, 0, none⟩ : Option Addr) = some ad ∧ ∀ i u, ([.slice a6 fn c6, .slice a8 tn c8] : List Value)[i]? = some u → (w8.alloc (.cells #[.slice a6 fn c6, .slice a8 tn c8] 36)).cell? (ad.add i) = some u) := news_two w8 _ _ _; have Z9 : Hid (W1.heap.size ≤ (w8.alloc (.cells #[.slice a6 fn c6, .slice a8 tn c8] 36)).heap.size) := Nat.le_trans HVZ.out B9.out.size) | (refine step_int _ (by rfl) _ _ (by rfl) (V.heap.size) ta tn tc d.2 (by rfl) (by rfl) (by exact EN3.out) (by exact IsRow.below HTR.out B6.out) htn ?_; intro a8 c8 w8 h8; have FN := app_fin (V := V) A6.out (Below.refl _ _) h8 (Nat.le_succ _) (Nat.le_refl _) (Nat.succ_ne_self _) (Or.inl (by have h2 := ZP2.out; omega)) BP2.out HW1.out HW2.out hfn htn; have EO : Hid (EOwn w8 V.heap.size w8.heap.size (.slice a6 fn c6) (.slice a8 tn c8) d) := FN.1; have B8 : Hid (Below V.heap.size V w8) := FN.2; clear FN h8; have K8 : Hid (w8.cell? ⟨wr.heap.size, 0, none⟩ = some (.slice fa fn fc) ∧ w8.cell? ⟨wr.heap.size, 1, none⟩ = some (.slice ta tn tc)) := ⟨Frame.held_cell B8.out BC.out.1, Frame.held_cell B8.out BC.out.2⟩; have B9 : Hid (Below V.heap.size V (w8.alloc (.cells #[.slice a6 fn c6, .slice a8 tn c8] 36))) := Ivb.bw_made _ B8.out; have K9 : Hid ((w8.alloc (.cells #[.slice a6 fn c6, .slice a8 tn c8] 36)).cell? ⟨wr.heap.size, 0, none⟩ = some (.slice fa fn fc) ∧ (w8.alloc (.cells #[.slice a6 fn c6, .slice a8 tn c8] 36)).cell? ⟨wr.heap.size, 1, none⟩ = some (.slice ta tn tc)) := ⟨Frame.held_cell B9.out BC.out.1, Frame.held_cell B9.out BC.out.2⟩; have OUT9 : Hid ((w8.alloc (.cells #[.slice a6 fn c6, .slice a8 tn c8] 36)).ownsRow W1.heap.size 36 2 (.slice a' j c1) j (lcells xs)) := (HOV.out.below B9.out).outer; have S9 : Hid (0 < 1 → ∃ ad, (some ⟨w8.heap.size, 0, none⟩ : Option Addr) = some ad ∧ ∀ i u, ([.slice a6 fn c6, .slice a8 tn c8] : List Value)[i]? = some u → (w8.alloc (.cells #[.slice a6 fn c6, .slice a8 tn c8] 36)).cell? (ad.add i) = some u) := news_two w8 _ _ _; have Z9 : Hid (W1.heap.size ≤ (w8.alloc (.cells #[.slice a6 fn c6, .slice a8 tn c8] 36)).heap.size) := Nat.le_trans HVZ.out B9.out.size) | (refine Apr.step_append_all _ (by rfl) _ _ 23 (by rfl) W1.heap.size 36 i0 (.agg #[.slice none 0 0, .slice none 0 0]) 2 48 Try.underlying23 hi hz0 hz1 hz2 rfl (by decide) _ _ _ (by rfl) OUT9.out _ 1 _ [.slice a6 fn c6, .slice a8 tn c8] (by rfl) (by rfl) S9.out (by simp [Value.oneCell']) (by unfold maxLen; omega) (by omega) Z9.out ?_; intro a10 c10 w10 hown10 hgrow10; have GR : Hid ((w8.alloc (.cells #[.slice a6 fn c6, .slice a8 tn c8] 36)).grownBy w10 (Value.slice a' j c1).ownBlock) := hgrow10; have OW : Hid (w10.ownsRow W1.heap.size 36 2 (.slice a10 (j + 1) c10) (j + 1) (lcells xs ++ [.slice a6 fn c6, .slice a8 tn c8])) := hown10; have K10 : Hid (w10.cell? ⟨wr.heap.size, 0, none⟩ = some (.slice fa fn fc) ∧ w10.cell? ⟨wr.heap.size, 1, none⟩ = some (.slice ta tn tc)) := ⟨grown_cell hgrow10 (Nat.lt_of_lt_of_le HVW.out B9.out.size) HNE.out K9.out.1, grown_cell hgrow10 (Nat.lt_of_lt_of_le HVW.out B9.out.size) HNE.out K9.out.2⟩; clear hown10 hgrow10) | ((refine step_int _ (by rfl) _ _ (by rfl) (V.heap.size + 1) fa fn fc d.1 (by rfl) (by rfl) (by exact E2b.out) (by exact IsRow.below HFR.out BP2.out) hfn ?_; intro a6 c6 w6 h6; have A6 : Hid (App1 ((V.drew.alloc (.cells #[] 3)).alloc (.cells #[] 3)) w6 (V.heap.size + 1) a6 fn c6 d.1) := h6; have B6 : Hid (Below V.heap.size V w6) := app_below h6 (Nat.le_succ _) BP2.out; have K6 : Hid (w6.cell? ⟨wr.heap.size, 0, none⟩ = some (.slice fa fn fc) ∧ w6.cell? ⟨wr.heap.size, 1, none⟩ = some (.slice ta tn tc)) := ⟨Frame.held_cell B6.out BC.out.1, Frame.held_cell B6.out BC.out.2⟩; have EN3 : Hid (w6.ownsRow (V.heap.size) 3 1 (.slice (some ⟨V.heap.size, 0, none⟩) 0 0) 0 []) := app_other A6.out E2a.out (Nat.succ_ne_self _).symm; clear h6)) | ((refine step_int _ (by rfl) _ _ (by rfl) (V.heap.size) fa fn fc d.1 (by rfl) (by rfl) (by exact E1.out) (by exact IsRow.below HFR.out BP1.out) hfn ?_; intro a6 c6 w6 h6; have A6 : Hid (App1 (V.drew.alloc (.cells #[] 3)) w6 (V.heap.size) a6 fn c6 d.1) := h6; have B6 : Hid (Below V.heap.size V w6) := app_below h6 (Nat.le_refl _) BP1.out; have K6 : Hid (w6.cell? ⟨wr.heap.size, 0, none⟩ = some (.slice fa fn fc) ∧ w6.cell? ⟨wr.heap.size, 1, none⟩ = some (.slice ta tn tc)) := ⟨Frame.held_cell B6.out BC.out.1, Frame.held_cell B6.out BC.out.2⟩; have BX : Hid (Below V.heap.size V (w6.alloc (.cells #[] 3))) := Ivb.bw_made _ B6.out; have K7 : Hid ((w6.alloc (.cells #[] 3)).cell? ⟨wr.heap.size, 0, none⟩ = some (.slice fa fn fc) ∧ (w6.alloc (.cells #[] 3)).cell? ⟨wr.heap.size, 1, none⟩ = some (.slice ta tn tc)) := ⟨Frame.held_cell BX.out BC.out.1, Frame.held_cell BX.out BC.out.2⟩; have EN : Hid ((w6.alloc (.cells #[] 3)).ownsRow (w6.heap.size) 3 1 (.slice (some ⟨w6.heap.size, 0, none⟩) 0 0) 0 []) := own_zero w6 _ _ _ _ rfl (Nat.le_refl _); clear h6)) | ((refine step_int _ (by rfl) _ _ (by rfl) (V.heap.size) fa fn fc d.1 (by rfl) (by rfl) (by exact E2a.out) (by exact IsRow.below HFR.out BP2.out) hfn ?_; intro a6 c6 w6 h6; have A6 : Hid (App1 ((V.drew.alloc (.cells #[] 3)).alloc (.cells #[] 3)) w6 (V.heap.size) a6 fn c6 d.1) := h6; have B6 : Hid (Below V.heap.size V w6) := app_below h6 (Nat.le_refl _) BP2.out; have K6 : Hid (w6.cell? ⟨wr.heap.size, 0, none⟩ = some (.slice fa fn fc) ∧ w6.cell? ⟨wr.heap.size, 1, none⟩ = some (.slice ta tn tc)) := ⟨Frame.held_cell B6.out BC.out.1, Frame.held_cell B6.out BC.out.2⟩; have EN2 : Hid (w6.ownsRow (V.heap.size + 1) 3 1 (.slice (some ⟨V.heap.size + 1, 0, none⟩) 0 0) 0 []) := app_other A6.out E2b.out (Nat.succ_ne_self _); clear h6)))
            all_goals
              have O10 : Hid (OwnG w10 W1.heap.size a10 (j + 1) c10 (xs ++ [⟨a6, fn, c6, d.1⟩, ⟨a8, tn, c8, d.2⟩])) := push_next HOV.out B8.out HVZ.out EO.out GR.out OW.out
              have N10 : Hid (Below W1.heap.size W1 w10) := below_app (Frame.next (Frame.next HN.out HKV.out HN.out.size) B9.out HVZ.out) OUT9.out GR.out Z9.out (Nat.le_refl _)
              go_wp2
              go_roundw
              case rel =>
                refine ⟨j + 1, a10, c10, _, by omega, by go_num, rfl, O10.out, ?_, N10.out⟩
                rw [dpl_append j xs _ HXL.out, HPL.out, dp_take_succ (by rw [HLQ.out]; exact hlt), HGD.out]
                rfl
              case measure => simp [intOf]; omega
          · obtain rfl : j = k := by omega
            have HO : Hid (OwnG wr W1.heap.size a' j c1 xs) := hown
            have HPF : Hid (dpl xs = dpl qs) := by
              have := HPL.out
              rwa [List.take_of_length_le (by rw [HLQ.out]; exact Nat.le_refl _)] at this
            have NW : Hid (Below w.heap.size w wr) := Frame.next HX.out HN.out HX.out.size
            clear hown
            go_wp2
            go_ret2
            refine ⟨_, by rw [GT.out]; rfl, ?_, NW.out⟩
            rw [EV.out, HF.out]
            exact dOwn_any HO.out HPF.out hm8 hc6 HB.out HX.out.size


end Go.Proofs.Ytekheacbmbbpmaa.Cvk
