/-
  Contract of the model's SplitAll.
-/
import Derived.Test.YthhldnlbneamiaaSqh
import Derived.Test.YthhldnlbneamiaaKfa
import Derived.Test.YthhldnlbneamiaaApr
namespace Go.Proofs.Ythhldnlbneamiaa.Sqa
open Go.RowKit
open Go.Proofs.Ythhldnlbneamiaa.Ssc Go.Proofs.Ythhldnlbneamiaa.Frame Go.Proofs.Ythhldnlbneamiaa.Mem Go.Proofs.Ythhldnlbneamiaa.Ints Go.Proofs.Ythhldnlbneamiaa.Kep Go.Proofs.Ythhldnlbneamiaa.Lls Go.Proofs.Ythhldnlbneamiaa.Mis Go.Proofs.Ythhldnlbneamiaa.Dls Go.Proofs.Ythhldnlbneamiaa.Dlt Go.Proofs.Ythhldnlbneamiaa.Dlk Go.Proofs.Ythhldnlbneamiaa.Csa Go.Proofs.Ythhldnlbneamiaa.Csb Go.Proofs.Ythhldnlbneamiaa.Csc Go.Proofs.Ythhldnlbneamiaa.Csd Go.Proofs.Ythhldnlbneamiaa.Csf Go.Proofs.Ythhldnlbneamiaa.Spx Go.Proofs.Ythhldnlbneamiaa.Spy Go.Proofs.Ythhldnlbneamiaa.Bpu Go.Proofs.Ythhldnlbneamiaa.Bsp Go.Proofs.Ythhldnlbneamiaa.Bsq Go.Proofs.Ythhldnlbneamiaa.Spr Go.Proofs.Ythhldnlbneamiaa.Sqh Go.Proofs.Ythhldnlbneamiaa.Knl
open Go.Proofs.Ythhldnlbneamiaa.Rel hiding Ll
open Go.Proofs.Ythhldnlbneamiaa.Cpu hiding Dp

theorem dOf_cols {ds : List Dp} {p : List Int} : UpN (dOf ds p).1 ∧ InC (dOf ds p).1 ∧ InC (dOf ds p).2 := by
  have hl : ∀ f : Cs, InC (listI f) := fun f z hz => by obtain ⟨i, hi, _, rfl⟩ := mem_listI.1 hz; omega
  unfold dOf
  cases badF ds p with
  | none => exact ⟨List.Pairwise.nil, (fun z hz => by cases hz), (fun z hz => by cases hz)⟩
  | some n => exact ⟨up_listI _, hl _, hl _⟩
theorem rows_two {w : World} {rs : List LV} {x y : LV} {k : Nat} (h : ∀ r ∈ rs, IsRow .i64 w r.a r.n r.c r.zs) (hx : IsRow .i64 w x.a x.n x.c x.zs) (hy : IsRow .i64 w y.a y.n y.c y.zs) : ∀ r ∈ rs.take k ++ [x, y] ++ rs.drop (k + 1), IsRow .i64 w r.a r.n r.c r.zs := fun r hr => by
  rcases List.mem_append.1 hr with hr | hr
  · rcases List.mem_append.1 hr with hr | hr
    · exact h r (List.mem_of_mem_take hr)
    · rcases List.mem_cons.1 hr with rfl | hr
      · exact hx
      · rw [List.mem_singleton.1 hr]; exact hy
  · exact h r (List.mem_of_mem_drop hr)

theorem take_next {l : Pl} {k : Nat} (h : k < l.length) : l.take (k + 1) = l.take k ++ [l.getD k []] := by
  rw [List.take_add_one, List.getD, List.getElem?_eq_getElem h]
  rfl
theorem lOwn_few {w wr : World} {B n cc c : Nat} {a : Option Addr} {xs : List LV} {l : Pl} (h : OwnLs wr B a n cc xs) (hp : lplain xs = l) (hg : ∀ p ∈ l, GoodP c p) (hc : c ≤ 6) (hn : n ≤ 729) (hB : w.heap.size ≤ B) : LOwn wr w.heap.size wr.heap.size (.slice a n cc) l := by
  subst hp
  have hr6 : ∀ r ∈ xs, r.n ≤ 6 := fun r hr => by
    have hx := hg r.zs (List.mem_map.2 ⟨r, hr, rfl⟩)
    rw [← (h.isLs.rows r hr).len]
    exact up_length hx.1 (fun z hz => by have := hx.2 z hz; omega)
  have hs := Cvi.sum_six hr6
  have hl := h.isLs.len
  refine ⟨a, n, cc, xs, rfl, Krl.ownLs_base h hB, rfl, by unfold totalL; omega, fun x hx => ?_, fun r hr x hx => ?_⟩
  · have := own_block h.outer x hx
    omega
  · have := own_block (h.inner r hr) x hx
    omega

set_option maxRecDepth 100000 in
set_option maxHeartbeats 12800000 in
theorem spec_SplitAll (cols : Int) (v : Value) (ds : List Dp) (w : World) (h : DIs w v ds) :
    Calls Try.prog 32 #[.int .i64 cols, v] w fun e w' => ∃ u, e = .returned (.tuple #[u, .bool (goodD cols ds)]) ∧ LOwn w' w.heap.size w'.heap.size u (partsV cols ds) ∧ Below w.heap.size w w' := by
  obtain ⟨i0, hi, hz0, hz1, hz2⟩ := info_parts Ints.info
  obtain ⟨i1, hj, hy0, hy1, hy2⟩ := info_parts infoL
  have HD : Hid (DIs w v ds) := h
  clear h
  go_enter Try.func32, Try.ntmps32
  go_wp2_with fail
  refine (Dga.spec_GoodDeps cols v ds _ HD.out).mono ?_
  rintro e w1 ⟨rfl, hb1⟩
  have B1 : Hid (Below w.heap.size w w1) := hb1
  clear hb1
  cases hG : goodD cols ds
  · have EV : Hid (partsV cols ds = []) := by show _ = _; unfold partsV; rw [hG]; rfl
    have GF : Hid (goodD cols ds = false) := hG
    clear hG
    go_wp2
    go_ret2
    refine ⟨.slice none 0 0, by rw [GF.out]; rfl, ?_, B1.out⟩
    rw [EV.out]
    exact ⟨none, 0, 0, [], rfl, ⟨World.ownsRow_nil _ _ _ _, by simp, by simp, by simp, by simp⟩, rfl, by simp [totalL, sumL], (fun x hx => by cases hx), by simp⟩
  · have hc := cols_of hG
    obtain ⟨c, hcc⟩ : ∃ c : Nat, cols = (c : Int) := ⟨cols.toNat, by omega⟩
    have hc6 : c ≤ 6 := by have := hc.2.2.1; omega
    have hc1 : 1 ≤ c := by have := hc.2.1; omega
    have HC : Hid (Cols ds) := hc.1
    subst hcc
    have EV : Hid (partsV (c : Int) ds = endOf ds [allC c]) := by show _ = _; unfold partsV; rw [hG, Int.toNat_natCast]; rfl
    have GT : Hid (goodD (c : Int) ds = true) := hG
    have hsh : wrap64 ((2 : Int) ^ c) = ((2 ^ c : Nat) : Int) := Bsr.shl_one hc6
    have hN64 : 2 ^ c ≤ 64 := Bsr.pow_six hc6
    have hN1 : 1 ≤ 2 ^ c := Nat.pow_pos (by decide)
    obtain ⟨N, hNe⟩ : ∃ N : Nat, N = 2 ^ c := ⟨_, rfl⟩
    have HNE : Hid (N = 2 ^ c) := hNe
    rw [← hNe] at hsh hN64 hN1
    clear hG hc hNe
    go_wp2_with fail
    rw [hsh]
    rw [show (N : Int) - 1 = ((N - 1 : Nat) : Int) by omega]
    refine (l5List (N - 1) _ (by omega)).mono ?_
    rintro e w2 ⟨u2, rfl, ho2, hb2⟩
    have e2 : listI (bitS ((N - 1 : Nat) : Int)) = allC c := by rw [HNE.out]; exact list_congr (fun i hi => bit_all c (by omega) i hi)
    rw [e2] at ho2
    obtain ⟨a2, n2, c2, rfl, hr2, hn2⟩ := iOwn_is ho2
    have R2 : Hid (IsRow .i64 w2 a2 n2 c2 (allC c)) := hr2
    have B2 : Hid (Below w.heap.size w w2) := Frame.next B1.out hb2 B1.out.size
    clear ho2 hb2 hr2 e2 hsh hN64 hN1
    have AB : Hid (Below w2.heap.size w2 (w2.alloc (.cells #[.slice a2 n2 c2] 24))) := (Below.refl _ _).alloc (Nat.le_refl _) _
    have C2 : Hid ((w2.alloc (.cells #[.slice a2 n2 c2] 24)).cell? ⟨w2.heap.size, 0, none⟩ = some (.slice a2 n2 c2)) := by show _ = _; rw [World.cell?_alloc_at _ _ _ _ rfl]; rfl
    have G2 : Hid (IsLs (w2.alloc (.cells #[.slice a2 n2 c2] 24)) (some ⟨w2.heap.size, 0, none⟩) 1 1 [⟨a2, n2, c2, allC c⟩]) := ⟨rfl, Nat.le_refl _, by unfold maxLen; decide, fun r hr => by rw [List.mem_singleton.1 hr]; exact IsRow.below R2.out AB.out, fun _ => ⟨_, _, rfl, by simp, fun i hi => (by obtain rfl : i = 0 := Nat.lt_one_iff.1 hi; exact C2.out)⟩⟩
    have X2 : Hid (Below w.heap.size w (w2.alloc (.cells #[.slice a2 n2 c2] 24))) := Frame.next B2.out AB.out B2.out.size
    clear C2
    go_wp2_with fail
    go_loopw [6, 7] (fun s i wr => ∃ (k m : Nat) (a' : Option Addr) (c' : Nat) (rs : List LV), k ≤ m ∧ s = .slice a' m c' ∧ i = .int .i64 k ∧ IsLs wr a' m c' rs ∧ (∀ p ∈ lplain rs, GoodP c p) ∧ mu (lplain rs) ≤ 729 ∧ (∀ r, Runs ds (lplain rs) k r → Runs ds [allC c] 0 r) ∧ Below w.heap.size w wr) (fun s i wr => 2 * muW wr s + (lenV s - (intOf i).toNat))
    case atStart => exact ⟨0, 1, _, 1, _, Nat.zero_le _, rfl, rfl, G2.out, (fun p hp => by rw [List.mem_singleton.1 hp]; exact all_good), mu_all hc6, fun r hr => hr, X2.out⟩
    case round =>
      obtain ⟨k, m, a', c', rs, hk, rfl, rfl, hq, hgp, hmu, hrun, hnx⟩ := hrel
      have HQ : Hid (IsLs wr a' m c' rs) := hq
      have HP : Hid (∀ p ∈ lplain rs, GoodP c p) := hgp
      have HR : Hid (∀ r, Runs ds (lplain rs) k r → Runs ds [allC c] 0 r) := hrun
      have HX : Hid (Below w.heap.size w wr) := hnx
      have HL : Hid ((lplain rs).length = m) := by show _ = _; rw [show (lplain rs).length = rs.length by simp [lplain]]; exact hq.len
      have hm729 : m ≤ 729 := by rw [← HL.out]; exact Nat.le_trans (mu_len _) hmu
      have HMU : Hid (mu (lplain rs) ≤ 729) := hmu
      have hfit := hq.fits
      have hmax := hq.max
      clear hgp hrun hmu
      by_cases hlt : k < m
      · have hltI : (k : Int) < (m : Int) := by omega
        have hle1 : (k : Int) ≤ (c' : Int) := by omega
        obtain ⟨k1, hk1⟩ : ∃ k1, k1 = k + 1 := ⟨_, rfl⟩
        have HK1 : Hid (k1 = k + 1) := hk1
        have hw1 : IntKind.i64.wrap ((k : Int) + 1) = (k1 : Int) := by simp [IntKind.wrap, IntKind.bits, IntKind.signed]; omega
        have hle2 : (k1 : Int) ≤ (m : Int) := by omega
        have hle4 : (k1 : Int) ≤ (c' : Int) := by omega
        have hle3 : (m : Int) ≤ (c' : Int) := by omega
        have hk1m : k1 ≤ m := by omega
        have HM0 : Hid (muW wr (.slice a' m c') = mu (lplain rs)) := muW_is hq (by omega)
        obtain ⟨b, off, pa, pn, pc, p, rfl, p0, hrow, hpk, hrk⟩ := part_at hq hlt
        have HPK : Hid ((lplain rs).getD k [] = p) := hpk
        have HRW : Hid (IsRow .i64 wr pa pn pc p) := hrow
        have HPM : Hid (p ∈ lplain rs) := by
          rw [← hpk]
          rw [List.getD, List.getElem?_eq_getElem (by rw [HL.out]; exact hlt)]
          exact List.getElem_mem _
        have hp6 : pn ≤ 6 := by
          rw [← hrow.len]
          exact up_length (HP.out p HPM.out).1 (fun z hz => by have := (HP.out p HPM.out).2 z hz; omega)
        have P0 : Hid (wr.cell? ⟨b, off + k, none⟩ = some (.slice pa pn pc)) := p0
        clear hk1 hrow hpk hrk
        go_wp2_with fail
        refine (l6Bad v pa pn pc ds p _ (dIs_below HD.out HX.out) HRW.out HC.out (HP.out p HPM.out).1 ((HP.out p HPM.out).inC hc6) (by omega)).mono ?_
        rintro e w3 ⟨ua, un, uc, ta, tn, tc, rfl, ho3, hb3⟩
        rw [show (badF ds p).isSome = isBad ds p from rfl, show badO ds p (badF ds p) = dOf ds p from rfl] at *
        have X3 : Hid (Below wr.heap.size wr w3) := hb3
        have E3 : Hid (EOwn w3 wr.heap.size w3.heap.size (.slice ua un uc) (.slice ta tn tc) (dOf ds p)) := ho3
        clear ho3 hb3
        rcases Bsr.em_bool (isBad ds p) with hv | hv
        · rw [hv]
          have HV : Hid (isBad ds ((lplain rs).getD k []) = false) := by show _ = _; rw [HPK.out]; exact hv
          clear hv p0
          go_wp2
          have BV : Below wr.heap.size wr (w3.alloc (.cells #[.slice ua un uc, .slice ta tn tc] 26)) := X3.out.alloc X3.out.size _
          have Q1 := HQ.out.below BV
          have M1 := muW_is Q1 (by omega)
          refine ⟨⟨k1, m, _, c', rs, hk1m, rfl, rfl, Q1, HP.out, HMU.out, ?_, Frame.next HX.out BV HX.out.size⟩, ?_⟩
          · intro r hr
            rw [HK1.out] at hr
            exact HR.out r (Runs.skip (by rw [HL.out]; exact hlt) HV.out hr)
          · rw [M1, HM0.out]
            have := HK1.out
            simp [intOf, lenV]
            omega
        · rw [hv]
          have HBD : Hid (isBad ds ((lplain rs).getD k []) = true) := by show _ = _; rw [HPK.out]; exact hv
          clear hv p0
          have KV := (Below.refl w3.heap.size w3).alloc (Nat.le_refl _) (.cells #[.slice ua un uc, .slice ta tn tc] 26)
          have b0 := (Lsa.cells_one w3 (.slice ua un uc) (.slice ta tn tc) 26).1
          have b1 := (Lsa.cells_one w3 (.slice ua un uc) (.slice ta tn tc) 26).2
          go_upto_region 9 with fail
          generalize (w3.alloc (.cells #[.slice ua un uc, .slice ta tn tc] 26)) = V at KV b0 b1 ⊢
          have XV : Hid (Below wr.heap.size wr V) := Frame.next X3.out KV X3.out.size
          have HKV : Hid (Below w3.heap.size w3 V) := KV
          have KB : Hid (V.cell? ⟨w3.heap.size, 0, none⟩ = some (.slice ua un uc) ∧ V.cell? ⟨w3.heap.size, 1, none⟩ = some (.slice ta tn tc) ∧ V.cell? ⟨b, off + k, none⟩ = some (.slice pa pn pc)) := ⟨b0, b1, Frame.held_cell XV.out P0.out⟩
          have AV : Hid (Below V.heap.size V (V.alloc (.cells #[] 24))) := (Below.refl _ _).alloc (Nat.le_refl _) _
          have OA : Hid ((V.alloc (.cells #[] 24)).ownsRow V.heap.size 24 1 (.slice (some ⟨V.heap.size, 0, none⟩) 0 0) 0 []) := own_zero V _ _ _ _ rfl (Nat.le_refl _)
          have HPRE : Hid (IsLs wr (some ⟨b, off, none⟩) k c' (rs.take k)) := isL_pre HQ.out (by omega)
          obtain ⟨sa, hsa⟩ : ∃ a2, (if c' = k1 then some (⟨b, off, none⟩ : Addr) else some ⟨b, off + k1, none⟩) = a2 := ⟨_, rfl⟩
          have HSUF : Hid (IsLs wr sa (m - k1) (c' - k1) (rs.drop k1)) := isL_suf HQ.out hk1m hsa
          have SA : Hid (0 < k → ∃ ad, (some ⟨b, off, none⟩ : Option Addr) = some ad ∧ ∀ j u, (lcells (rs.take k))[j]? = some u → (V.alloc (.cells #[] 24)).cell? (ad.add j) = some u) := news_ls (HPRE.out.below (Frame.next XV.out AV.out XV.out.size))
          have HPL : Hid ((lcells (rs.take k)).length = k * 1) := by show _ = _; rw [lcells_length, HPRE.out.len]; omega
          have HSL : Hid ((lcells (rs.drop k1)).length = (m - k1) * 1) := by show _ = _; rw [lcells_length, HSUF.out.len]; omega
          clear KV b0 b1
          go_wp2_with (at_builtin; refine App.wpList_append_all _ rfl _ _ 31 rfl V.heap.size 24 i1 (.slice none 0 0) 1 24 Try.underlying31 hj hy0 hy1 hy2 rfl (by decide) _ _ _ rfl OA.out _ k _ (lcells (rs.take k)) rfl HPL.out SA.out (one_ls _) (by unfold maxLen; omega) (by omega) AV.out.size ?_)
          intro a4 c4 w4 hown4 hgrow4
          have B4 : Hid (Below V.heap.size V w4) := below_app AV.out OA.out hgrow4 AV.out.size (Nat.le_refl _)
          have O4 : Hid (w4.ownsRow V.heap.size 24 1 (.slice a4 k c4) k (lcells (rs.take k))) := by have := hown4; (try rw [Nat.zero_add] at this); (try rw [List.nil_append] at this); exact this
          clear hown4 hgrow4
          go_wp2_with fail
          have D4 : Hid (Below V.heap.size V w4.drew) := B4.out.drew
          have Y4 : Hid (Below w4.heap.size w4 w4.drew) := (Below.refl _ _).drew
          have K4 : Hid (w4.drew.cell? ⟨w3.heap.size, 0, none⟩ = some (.slice ua un uc) ∧ w4.drew.cell? ⟨w3.heap.size, 1, none⟩ = some (.slice ta tn tc) ∧ w4.drew.cell? ⟨b, off + k, none⟩ = some (.slice pa pn pc)) := ⟨Frame.held_cell D4.out KB.out.1, Frame.held_cell D4.out KB.out.2.1, Frame.held_cell D4.out KB.out.2.2⟩
          have RU : Hid (IsRow .i64 V ua un uc (dOf ds p).1) := (by obtain ⟨_, _, _, e, hr, _⟩ := iOwn_is E3.out.1; cases e; exact IsRow.below hr HKV.out)
          have RT : Hid (IsRow .i64 V ta tn tc (dOf ds p).2) := (by obtain ⟨_, _, _, e, hr, _⟩ := iOwn_is E3.out.2.1; cases e; exact IsRow.below hr HKV.out)
          have RP : Hid (IsRow .i64 V pa pn pc p) := IsRow.below HRW.out XV.out
          have htn : tn ≤ 1048576 := by obtain ⟨_, _, _, e, _, hn⟩ := iOwn_is E3.out.2.1; cases e; exact hn
          have DC : Hid (UpN (dOf ds p).1 ∧ InC (dOf ds p).1 ∧ InC (dOf ds p).2) := dOf_cols
          go_region_held3 (fun W' => W'.cell? ⟨w3.heap.size, 0, none⟩ = some (.slice ua un uc) ∧ W'.cell? ⟨w3.heap.size, 1, none⟩ = some (.slice ta tn tc) ∧ W'.cell? ⟨b, off + k, none⟩ = some (.slice pa pn pc))
            (first | exact K4.out | with_reducible exact K8.out | with_reducible exact K6.out | with_reducible exact K5.out | exact K7.out)
            (first | (go_at_call 107; refine (l6Either ua ta un tn uc tc (dOf ds p).1 (dOf ds p).2 _ (IsRow.below RU.out D4.out) (IsRow.below RT.out D4.out) DC.out.1 DC.out.2.1 DC.out.2.2 htn).mono ?_; rintro e w5 ⟨u5, rfl, ho5, hb5⟩; obtain ⟨a5, n5, c5, rfl, own5, wf5, hn5, bl5⟩ := ho5; have X5 : Hid (Below V.heap.size V w5) := Frame.next D4.out hb5 D4.out.size; have Y5 : Hid (Below w4.heap.size w4 w5) := Frame.next Y4.out hb5 Y4.out.size; have Z5 : Hid (w5.ownsRow w4.drew.heap.size 3 1 (.slice a5 n5 c5) n5 (ints .i64 (eithL (dOf ds p).1 (dOf ds p).2))) := own5; have F5 : Hid (∀ z ∈ (eithL (dOf ds p).1 (dOf ds p).2), (Lit.int .i64 z).wf = true) := wf5; have K5 : Hid (w5.cell? ⟨w3.heap.size, 0, none⟩ = some (.slice ua un uc) ∧ w5.cell? ⟨w3.heap.size, 1, none⟩ = some (.slice ta tn tc) ∧ w5.cell? ⟨b, off + k, none⟩ = some (.slice pa pn pc)) := ⟨Frame.held_cell X5.out KB.out.1, Frame.held_cell X5.out KB.out.2.1, Frame.held_cell X5.out KB.out.2.2⟩; clear own5 wf5 bl5 hb5) | (go_at_call 108; refine (l6Less pa ta pn tn pc tc p (dOf ds p).2 _ (IsRow.below RP.out X5.out) (IsRow.below RT.out X5.out) (by omega)).mono ?_; rintro e w6 ⟨u6, rfl, ho6, hb6⟩; obtain ⟨a6, n6, c6, rfl, own6, wf6, hn6, bl6⟩ := ho6; have X6 : Hid (Below V.heap.size V w6) := Frame.next X5.out hb6 X5.out.size; have Y6 : Hid (Below w4.heap.size w4 w6) := Frame.next Y5.out hb6 Y5.out.size; have Z56 : Hid (w6.ownsRow w4.drew.heap.size 3 1 (.slice a5 n5 c5) n5 (ints .i64 (eithL (dOf ds p).1 (dOf ds p).2))) := own_below Z5.out hb6; have Z6 : Hid (w6.ownsRow w5.heap.size 3 1 (.slice a6 n6 c6) n6 (ints .i64 (lessC p (dOf ds p).2))) := own6; have F6 : Hid (∀ z ∈ (lessC p (dOf ds p).2), (Lit.int .i64 z).wf = true) := wf6; have K6 : Hid (w6.cell? ⟨w3.heap.size, 0, none⟩ = some (.slice ua un uc) ∧ w6.cell? ⟨w3.heap.size, 1, none⟩ = some (.slice ta tn tc) ∧ w6.cell? ⟨b, off + k, none⟩ = some (.slice pa pn pc)) := ⟨Frame.held_cell X6.out KB.out.1, Frame.held_cell X6.out KB.out.2.1, Frame.held_cell X6.out KB.out.2.2⟩; have X7 : Hid (Below V.heap.size V (w6.alloc (.cells #[.slice a5 n5 c5, .slice a6 n6 c6] 24))) := Ivb.bw_made _ X6.out; have Y7 : Hid (Below w4.heap.size w4 (w6.alloc (.cells #[.slice a5 n5 c5, .slice a6 n6 c6] 24))) := Ivb.bw_made _ Y6.out; have K7 : Hid ((w6.alloc (.cells #[.slice a5 n5 c5, .slice a6 n6 c6] 24)).cell? ⟨w3.heap.size, 0, none⟩ = some (.slice ua un uc) ∧ (w6.alloc (.cells #[.slice a5 n5 c5, .slice a6 n6 c6] 24)).cell? ⟨w3.heap.size, 1, none⟩ = some (.slice ta tn tc) ∧ (w6.alloc (.cells #[.slice a5 n5 c5, .slice a6 n6 c6] 24)).cell? ⟨b, off + k, none⟩ = some (.slice pa pn pc)) := ⟨Frame.held_cell X7.out KB.out.1, Frame.held_cell X7.out KB.out.2.1, Frame.held_cell X7.out KB.out.2.2⟩; have OUT7 : Hid ((w6.alloc (.cells #[.slice a5 n5 c5, .slice a6 n6 c6] 24)).ownsRow V.heap.size 24 1 (.slice a4 k c4) k (lcells (rs.take k))) := own_below O4.out Y7.out; have S7 : Hid (0 < 2 → ∃ ad, (some ⟨w6.heap.size, 0, none⟩ : Option Addr) = some ad ∧ ∀ i u, ([.slice a5 n5 c5, .slice a6 n6 c6] : List Value)[i]? = some u → (w6.alloc (.cells #[.slice a5 n5 c5, .slice a6 n6 c6] 24)).cell? (ad.add i) = some u) := (fun _ => Cvj.news_two w6 _ _ _ (by decide)); clear own6 wf6 bl6 hb6) | (refine Apr.step_append_all _ (by rfl) _ _ 31 (by rfl) V.heap.size 24 i1 (.slice none 0 0) 1 24 Try.underlying31 hj hy0 hy1 hy2 rfl (by decide) _ _ _ (by rfl) OUT7.out _ 2 _ [.slice a5 n5 c5, .slice a6 n6 c6] (by rfl) (by rfl) S7.out (by simp [Value.oneCell']) (by unfold maxLen; omega) (by omega) X7.out.size ?_; intro a8 c8 w8 hown8 hgrow8; have X8 : Hid (Below V.heap.size V w8) := below_app X7.out OUT7.out hgrow8 X7.out.size (Nat.le_refl _); have ab : Below w6.heap.size w6 (w6.alloc (.cells #[.slice a5 n5 c5, .slice a6 n6 c6] 24)) := (Below.refl _ _).alloc (Nat.le_refl _) _; have Z58 : Hid (w8.ownsRow w4.drew.heap.size 3 1 (.slice a5 n5 c5) n5 (ints .i64 (eithL (dOf ds p).1 (dOf ds p).2))) := Sc.own_kept (own_below Z56.out ab) OUT7.out Sc.intNe hgrow8; have Z68 : Hid (w8.ownsRow w5.heap.size 3 1 (.slice a6 n6 c6) n6 (ints .i64 (lessC p (dOf ds p).2))) := Sc.own_kept (own_below Z6.out ab) OUT7.out Sc.intNe hgrow8; have O8 : Hid (w8.ownsRow V.heap.size 24 1 (.slice a8 (k + 2) c8) (k + 2) (lcells (rs.take k ++ [⟨a5, n5, c5, (eithL (dOf ds p).1 (dOf ds p).2)⟩, ⟨a6, n6, c6, (lessC p (dOf ds p).2)⟩]))) := (by rw [lcells_append]; exact hown8); have K8 : Hid (w8.cell? ⟨w3.heap.size, 0, none⟩ = some (.slice ua un uc) ∧ w8.cell? ⟨w3.heap.size, 1, none⟩ = some (.slice ta tn tc) ∧ w8.cell? ⟨b, off + k, none⟩ = some (.slice pa pn pc)) := ⟨Frame.held_cell X8.out KB.out.1, Frame.held_cell X8.out KB.out.2.1, Frame.held_cell X8.out KB.out.2.2⟩; clear ab hown8 hgrow8))
          have S8 : Hid (0 < m - k1 → ∃ ad, sa = some ad ∧ ∀ j u, (lcells (rs.drop k1))[j]? = some u → w8.cell? (ad.add j) = some u) := news_ls (HSUF.out.below (Frame.next XV.out X8.out XV.out.size))
          go_wp2_with (at_builtin; refine App.wpList_append_all _ rfl _ _ 31 rfl V.heap.size 24 i1 (.slice none 0 0) 1 24 Try.underlying31 hj hy0 hy1 hy2 rfl (by decide) _ _ _ rfl O8.out sa (m - k1) _ (lcells (rs.drop k1)) rfl HSL.out S8.out (one_ls _) (by unfold maxLen; omega) (by omega) X8.out.size ?_)
          intro a9 c9 w9 hown9 hgrow9
          have X9 : Hid (Below V.heap.size V w9) := below_app X8.out O8.out hgrow9 X8.out.size (Nat.le_refl _)
          have W9 : Hid (Below wr.heap.size wr w9) := Frame.next XV.out X9.out XV.out.size
          have O9 : Hid (w9.ownsRow V.heap.size 24 1 (.slice a9 (k + 2 + (m - k1)) c9) (k + 2 + (m - k1)) (lcells (rs.take k ++ [⟨a5, n5, c5, (eithL (dOf ds p).1 (dOf ds p).2)⟩, ⟨a6, n6, c6, (lessC p (dOf ds p).2)⟩] ++ rs.drop (k + 1)))) := by rw [lcells_append, ← HK1.out]; exact hown9
          have Z5f := isRow_own (Sc.own_kept Z58.out O8.out Sc.intNe hgrow9) F5.out
          have Z6f := isRow_own (Sc.own_kept Z68.out O8.out Sc.intNe hgrow9) F6.out
          have G9 : Hid (IsLs w9 a9 (k + 2 + (m - k1)) c9 (rs.take k ++ [⟨a5, n5, c5, (eithL (dOf ds p).1 (dOf ds p).2)⟩, ⟨a6, n6, c6, (lessC p (dOf ds p).2)⟩] ++ rs.drop (k + 1))) := isLs_outer O9.out (rows_two (fun r hr => IsRow.below (HQ.out.rows r hr) W9.out) (by obtain ⟨_, _, e, hr⟩ := Z5f; cases e; exact hr) (by obtain ⟨_, _, e, hr⟩ := Z6f; cases e; exact hr))
          have LP : Hid (lplain (rs.take k ++ [⟨a5, n5, c5, (eithL (dOf ds p).1 (dOf ds p).2)⟩, ⟨a6, n6, c6, (lessC p (dOf ds p).2)⟩] ++ rs.drop (k + 1)) = stepL ds (lplain rs) k) := by show _ = _; rw [lplain_step]; unfold stepL; rw [HPK.out]
          clear hown9 hgrow9 Z5f Z6f
          go_wp2
          have M9 := muW_is G9.out (by omega)
          have HLT : k < (lplain rs).length := by rw [HL.out]; exact hlt
          have MS := mu_step HLT HP.out hc6 HBD.out
          refine ⟨⟨k, k + 2 + (m - k1), a9, c9, _, by omega, rfl, rfl, G9.out, (by rw [LP.out]; exact good_step HLT HP.out hc6 HBD.out), (by rw [LP.out]; have := HMU.out; omega), ?_, Frame.next HX.out W9.out HX.out.size⟩, ?_⟩
          · intro r hr
            rw [LP.out] at hr
            exact HR.out r (Runs.split HLT HBD.out hr)
          · rw [M9, HM0.out, LP.out]
            have := HK1.out
            simp [intOf, lenV]
            omega
      · obtain rfl : k = m := by omega
        have HE : Hid (endOf ds [allC c] = lplain rs) := endOf_is (HR.out _ (Runs.fin (by rw [HL.out]; exact Nat.le_refl _)))
        clear hq hnx hk hfit hmax
        obtain ⟨W1, hW1⟩ : ∃ W1, W1 = wr := ⟨_, rfl⟩
        subst hW1
        go_wp2_with fail
        go_loopw [11, 69] (fun s i wz => ∃ (j : Nat) (a1 : Option Addr) (c1 : Nat) (xs : List LV), j ≤ k ∧ i = .int .i64 j ∧ s = .slice a1 j c1 ∧ OwnLs wz W1.heap.size a1 j c1 xs ∧ lplain xs = (lplain rs).take j ∧ Below W1.heap.size W1 wz) (fun _ i _ => k - (intOf i).toNat)
        case atStart => exact ⟨0, none, 0, [], Nat.zero_le _, rfl, rfl, ⟨World.ownsRow_nil _ _ _ _, by simp, by simp, by simp, by simp⟩, rfl, Below.refl _ _⟩
        case round =>
          obtain ⟨j, a1, c1, xs, hjk, rfl, rfl, hown, hpl, hnx⟩ := hrel
          have HN : Hid (Below W1.heap.size W1 wr) := hnx
          have HPL : Hid (lplain xs = (lplain rs).take j) := hpl
          have HO : Hid (OwnLs wr W1.heap.size a1 j c1 xs) := hown
          clear hnx hpl hown
          by_cases hlt : j < k
          · have hltI : (j : Int) < (k : Int) := by omega
            obtain ⟨b, off, pa, pn, pc, p, rfl, p0, hrow, hpk, hrk⟩ := part_at HQ.out hlt
            have HPK : Hid ((lplain rs).getD j [] = p) := hpk
            have q0 := Frame.held_cell HN.out p0
            have HRW : Hid (IsRow .i64 wr pa pn pc p) := IsRow.below hrow HN.out
            have HPM : Hid (p ∈ lplain rs) := by
              rw [← hpk]
              rw [List.getD, List.getElem?_eq_getElem (by rw [HL.out]; exact hlt)]
              exact List.getElem_mem _
            have hp6 : pn ≤ 6 := by
              rw [← hrow.len]
              exact up_length (HP.out p HPM.out).1 (fun z hz => by have := (HP.out p HPM.out).2 z hz; omega)
            have AV : Hid (Below wr.heap.size wr (wr.alloc (.cells #[] 3))) := (Below.refl _ _).alloc (Nat.le_refl _) _
            have OA : Hid ((wr.alloc (.cells #[] 3)).ownsRow wr.heap.size 3 1 (.slice (some ⟨wr.heap.size, 0, none⟩) 0 0) 0 []) := own_zero wr _ _ _ _ rfl (Nat.le_refl _)
            have SA : Hid (0 < pn → ∃ ad, pa = some ad ∧ ∀ i u, (ints .i64 p)[i]? = some u → (wr.alloc (.cells #[] 3)).cell? (ad.add i) = some u) := news_row (IsRow.below HRW.out AV.out)
            have HIL : Hid ((ints .i64 p).length = pn * 1) := by show _ = _; rw [ints_length, HRW.out.len]; omega
            clear p0 hrow hpk hrk
            go_wp2_with (at_builtin; refine App.wpList_append_all _ rfl _ _ 24 rfl wr.heap.size 3 i0 (.int .i64 0) 1 8 Try.underlying24 hi hz0 hz1 hz2 rfl (by decide) _ _ _ rfl OA.out pa pn pc (ints .i64 p) rfl HIL.out SA.out (one_int _) (by unfold maxLen; omega) (by omega) AV.out.size ?_)
            intro a5 c5 w5 hown5 hgrow5
            have B5 : Hid (Below wr.heap.size wr w5) := below_app AV.out OA.out hgrow5 AV.out.size (Nat.le_refl _)
            have Z5 : Hid (w5.ownsRow wr.heap.size 3 1 (.slice a5 pn c5) pn (ints .i64 p)) := by have := hown5; (try rw [Nat.zero_add] at this); (try rw [List.nil_append] at this); exact this
            clear hown5 hgrow5
            have ab : Below w5.heap.size w5 (w5.alloc (.cells #[.slice a5 pn c5] 24)) := (Below.refl _ _).alloc (Nat.le_refl _) _
            have O6 : Hid (OwnLs (w5.alloc (.cells #[.slice a5 pn c5] 24)) W1.heap.size a1 j c1 xs) := (HO.out.below B5.out).below ab
            have R6 : Hid ((w5.alloc (.cells #[.slice a5 pn c5] 24)).ownsRow W1.heap.size 3 1 (.slice a5 pn c5) pn (ints .i64 p)) := own_below (own_base Z5.out HN.out.size) ab
            have F6 : Hid (∀ s ∈ xs, Far s.a a5) := fun s hs x y hx hy => by
              have h1 := (own_block (HO.out.inner s hs) x hx).2
              have h2 := (own_block Z5.out y hy).1
              omega
            have X6 : Hid (Below W1.heap.size W1 (w5.alloc (.cells #[.slice a5 pn c5] 24))) := Ivb.bw_made _ (Ivb.bw_call HN.out B5.out)
            have S6 : Hid (0 < 1 → ∃ ad, (some ⟨w5.heap.size, 0, none⟩ : Option Addr) = some ad ∧ ∀ i u, ([.slice a5 pn c5] : List Value)[i]? = some u → (w5.alloc (.cells #[.slice a5 pn c5] 24)).cell? (ad.add i) = some u) := news_one w5 _ _
            have OUT6 : Hid ((w5.alloc (.cells #[.slice a5 pn c5] 24)).ownsRow W1.heap.size 24 1 (.slice a1 j c1) j (lcells xs)) := O6.out.outer
            clear ab
            go_wp2_with (at_builtin; refine App.wpList_append_all _ rfl _ _ 31 rfl W1.heap.size 24 i1 (.slice none 0 0) 1 24 Try.underlying31 hj hy0 hy1 hy2 rfl (by decide) _ _ _ rfl OUT6.out _ 1 _ [.slice a5 pn c5] rfl rfl S6.out (by simp [Value.oneCell']) (by unfold maxLen; omega) (by omega) X6.out.size ?_)
            intro a7 c7 w7 hown7 hgrow7
            have LC : Hid (lcells (xs ++ [⟨a5, pn, c5, p⟩]) = lcells xs ++ [.slice a5 pn c5]) := by show _ = _; rw [lcells_append]; rfl
            have O7 : Hid (OwnLs w7 W1.heap.size a7 (j + 1) c7 (xs ++ [⟨a5, pn, c5, p⟩])) := Kfa.ls_push O6.out R6.out HRW.out.wf F6.out hgrow7 (by rw [LC.out]; exact hown7)
            have X7 : Hid (Below W1.heap.size W1 w7) := below_app X6.out OUT6.out hgrow7 X6.out.size (Nat.le_refl _)
            clear hown7 hgrow7
            go_wp2
            go_roundw
            case rel =>
              refine ⟨j + 1, a7, c7, _, by omega, by go_num, rfl, O7.out, ?_, X7.out⟩
              rw [show lplain (xs ++ [⟨a5, pn, c5, p⟩]) = lplain xs ++ [p] by simp [lplain], HPL.out, ← HPK.out]
              exact (take_next (by rw [HL.out]; exact hlt)).symm
            case measure => simp [intOf]; omega
          · obtain rfl : j = k := by omega
            have HPF : Hid (lplain xs = lplain rs) := by
              have := HPL.out
              rwa [List.take_of_length_le (by rw [HL.out]; exact Nat.le_refl _)] at this
            have NW : Hid (Below w.heap.size w wr) := Frame.next HX.out HN.out HX.out.size
            go_wp2
            go_ret2
            refine ⟨_, by rw [GT.out]; rfl, ?_, NW.out⟩
            rw [EV.out, HE.out]
            exact lOwn_few HO.out HPF.out HP.out hc6 hm729 HX.out.size


end Go.Proofs.Ythhldnlbneamiaa.Sqa
