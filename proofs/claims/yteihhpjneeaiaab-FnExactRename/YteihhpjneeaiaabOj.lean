/-
  Contract of the program's WithoutOf.
-/
import Derived.Test.YteihhpjneeaiaabOi
import Derived.Test.YteihhpjneeaiaabOg
namespace Go.Proofs.Yteihhpjneeaiaab.Oj
open Go.RowKit
open Go.Proofs.Yteihhpjneeaiaab.Frame Go.Proofs.Yteihhpjneeaiaab.Mem Go.Proofs.Yteihhpjneeaiaab.Ints Go.Proofs.Yteihhpjneeaiaab.Kep Go.Proofs.Yteihhpjneeaiaab.Lls Go.Proofs.Yteihhpjneeaiaab.Rpu Go.Proofs.Yteihhpjneeaiaab.Krl Go.Proofs.Yteihhpjneeaiaab.Oa Go.Proofs.Yteihhpjneeaiaab.Ob Go.Proofs.Yteihhpjneeaiaab.Oe Go.Proofs.Yteihhpjneeaiaab.Og Go.Proofs.Yteihhpjneeaiaab.Oh Go.Proofs.Yteihhpjneeaiaab.Oi Go.Proofs.Yteihhpjneeaiaab.Mis Go.Proofs.Yteihhpjneeaiaab.Told Go.Proofs.Yteihhpjneeaiaab.Rel

def outOf (qs rs : List LV) : List LV := rs.filter fun r => !decide (r.zs ∈ lplain qs)
theorem out_in {qs rs : List LV} {k : Nat} (h : k < rs.length) (e : (!decide ((rs.getD k ld).zs ∈ lplain qs)) = true) : outOf qs (rs.take (k + 1)) = outOf qs (rs.take k) ++ [rs.getD k ld] := by
  rw [take_succ_ld h]
  unfold outOf
  rw [List.filter_append, List.filter_cons, if_pos e]
  rfl
theorem out_out {qs rs : List LV} {k : Nat} (h : k < rs.length) (e : (!decide ((rs.getD k ld).zs ∈ lplain qs)) = false) : outOf qs (rs.take (k + 1)) = outOf qs (rs.take k) := by
  rw [take_succ_ld h]
  unfold outOf
  rw [List.filter_append, List.filter_cons, if_neg (by rw [e]; exact Bool.false_ne_true)]
  simp
theorem lplain_out (qs rs : List LV) : lplain (outOf qs rs) = (lplain rs).filter fun t => !decide (t ∈ lplain qs) := by
  unfold outOf lplain
  rw [List.filter_map]
  rfl

set_option maxRecDepth 4000 in
set_option maxHeartbeats 1600000 in
theorem kept_without (a : Option Addr) (n ca : Nat) (rs : List LV) (pb snn snc : Nat) (qa : Option Addr) (qs : List LV) (w : World) (h : IsLs w a n ca rs) (hn : n ≤ 100000) (hc : w.cell? ⟨pb, 1, none⟩ = some (.slice qa snn snc)) (hq : IsLs w qa snn snc qs) (hsn : snn ≤ 1048576) (hu : Strict (lplain qs)) :
    Calls Try.prog 36 #[.slice a n ca, .func (.func 37) #[] #[.pointer (some ⟨pb, 0, none⟩)]] w fun e w' => ∃ a' m c', e = .returned (.slice a' m c') ∧ m ≤ n ∧ w'.ownsRow w.heap.size 22 1 (.slice a' m c') m (lcells (outOf qs rs)) ∧ Below w.heap.size w w' := by
  obtain ⟨i0, hi, hz0, hz1, hz2⟩ := info_parts infoL
  have HI : Hid (IsLs w a n ca rs) := h
  have HL : Hid (rs.length = n) := h.len
  have HQ : Hid (IsLs w qa snn snc qs) := hq
  have HU : Hid (Strict (lplain qs)) := hu
  have HC : Hid (w.cell? ⟨pb, 1, none⟩ = some (.slice qa snn snc)) := hc
  clear h hq hu hc
  go_enter Try.func36, Try.ntmps36
  go_wp2_with (at_make; refine wpList_make_own _ rfl _ _ 23 rfl w.heap.size 22 i0 (.slice none 0 0) 1 Try.underlying23 hi hz0 hz1 _ _ _ n rfl rfl rfl ?d2 ?d3 (Nat.le_refl _) ?_)
  case d2 => rw [hz2]; omega
  case d3 => unfold maxLen; omega
  intro w3 hown3 hgrow3
  have B3 : Hid (Below w.heap.size w w3) := below_make (Below.refl _ _) hgrow3 (Nat.le_refl _)
  have O3 : Hid (w3.ownsRow w.heap.size 22 1 (.slice (some ⟨w.heap.size, 0, none⟩) 0 n) 0 []) := hown3
  clear hown3 hgrow3
  go_wp2_with fail
  go_loopw [5, 13] (fun v i wr => ∃ (k m : Nat) (a' : Option Addr) (c' : Nat), k ≤ n ∧ m ≤ k ∧ i = .int .i64 k ∧ v = .slice a' m c' ∧ wr.ownsRow w.heap.size 22 1 (.slice a' m c') m (lcells (outOf qs (rs.take k))) ∧ Below w.heap.size w wr) (fun _ i _ => n - (intOf i).toNat)
  case atStart => exact ⟨0, 0, _, _, Nat.zero_le _, Nat.le_refl _, rfl, rfl, O3.out, B3.out⟩
  case round =>
    obtain ⟨k, m, a', c', hk, hmk, rfl, rfl, ho, hnx⟩ := hrel
    have HO : Hid (wr.ownsRow w.heap.size 22 1 (.slice a' m c') m (lcells (outOf qs (rs.take k)))) := ho
    have HN : Hid (Below w.heap.size w wr) := hnx
    have hsr := hnx.size
    clear ho
    by_cases hlt : k < n
    · obtain ⟨b, off, rfl, hbl, hc⟩ := HI.out.cells (by omega)
      have hkl : k < rs.length := by rw [HL.out]; exact hlt
      have hck : wr.cell? ⟨b, off + k, none⟩ = some (.slice (rs.getD k ld).a (rs.getD k ld).n (rs.getD k ld).c) := by rw [hnx.cell (p := ⟨b, off + k, none⟩) hbl]; exact hc k hlt
      have r1 := IsRow.below (HI.out.rows _ (getD_mem_ld hkl)) hnx
      have HIN : Hid ((!decide ((rs.getD k ld).zs ∈ lplain qs)) = true → outOf qs (rs.take (k + 1)) = outOf qs (rs.take k) ++ [rs.getD k ld]) := fun e => out_in hkl e
      have HOUT : Hid ((!decide ((rs.getD k ld).zs ∈ lplain qs)) = false → outOf qs (rs.take (k + 1)) = outOf qs (rs.take k)) := fun e => out_out hkl e
      generalize rs.getD k ld = x at hck r1 HIN HOUT
      obtain ⟨xa, xn, xc, xs⟩ := x
      simp only at hck r1
      have R1 : Hid (IsRow .i64 wr xa xn xc xs) := r1
      have HIN' : Hid ((!decide (xs ∈ lplain qs)) = true → outOf qs (rs.take (k + 1)) = outOf qs (rs.take k) ++ [⟨xa, xn, xc, xs⟩]) := HIN.out
      have HOUT' : Hid ((!decide (xs ∈ lplain qs)) = false → outOf qs (rs.take (k + 1)) = outOf qs (rs.take k)) := HOUT.out
      have HCW : Hid (wr.cell? ⟨pb, 1, none⟩ = some (.slice qa snn snc)) := Frame.held_cell hnx HC.out
      have HQW : Hid (IsLs wr qa snn snc qs) := HQ.out.below hnx
      have HO2 : Hid ((wr.alloc (.cells #[.slice xa xn xc] 22)).ownsRow w.heap.size 22 1 (.slice a' m c') m (lcells (outOf qs (rs.take k)))) := own_below HO.out ((Below.refl _ _).alloc (Nat.le_refl _) _)
      have HN2 : Hid (Below w.heap.size w (wr.alloc (.cells #[.slice xa xn xc] 22))) := HN.out.alloc hsr _
      have S2 : Hid (0 < 1 → ∃ ad, (some ⟨wr.heap.size, 0, none⟩ : Option Addr) = some ad ∧ ∀ j u, ([.slice xa xn xc] : List Value)[j]? = some u → (wr.alloc (.cells #[.slice xa xn xc] 22)).cell? (ad.add j) = some u) := news_one wr _ _
      clear hc hnx hkl r1 HIN HOUT
      cases hv : !decide (xs ∈ lplain qs)
      · have HV : Hid ((!decide (xs ∈ lplain qs)) = false) := hv
        have F : Hid (outOf qs (rs.take (k + 1)) = outOf qs (rs.take k)) := HOUT'.out hv
        clear hv HIN' HOUT' HO2 HN2 S2
        go_wp2_with fail
        refine (without_closure _ _ _ xs pb snn snc qa qs _ HCW.out HQW.out R1.out hsn HU.out).mono ?_
        rintro e w' ⟨rfl, rfl⟩
        rw [HV.out]
        go_wp2_with fail
        go_roundw
        case rel => exact ⟨k + 1, m, a', c', by omega, by omega, by go_num, rfl, by rw [F.out]; exact HO.out, HN.out⟩
        case measure => simp [intOf]; omega
      · have HV : Hid ((!decide (xs ∈ lplain qs)) = true) := hv
        have F : Hid (outOf qs (rs.take (k + 1)) = outOf qs (rs.take k) ++ [⟨xa, xn, xc, xs⟩]) := HIN'.out hv
        clear hv HIN' HOUT'
        go_wp2_with fail
        refine (without_closure _ _ _ xs pb snn snc qa qs _ HCW.out HQW.out R1.out hsn HU.out).mono ?_
        rintro e w' ⟨rfl, rfl⟩
        rw [HV.out]
        go_wp2_with (at_builtin; refine App.wpList_append_all _ rfl _ _ 23 rfl w.heap.size 22 i0 (.slice none 0 0) 1 24 Try.underlying23 hi hz0 hz1 hz2 rfl (by decide) _ _ _ rfl HO2.out _ 1 _ [.slice xa xn xc] rfl rfl S2.out (by simp [Value.oneCell']) (by unfold maxLen; omega) (by omega) HN2.out.size ?_)
        intro a4 c4 w4 hown4 hgrow4
        have O4 : Hid (w4.ownsRow w.heap.size 22 1 (.slice a4 (m + 1) c4) (m + 1) (lcells (outOf qs (rs.take (k + 1))))) := by show World.ownsRow _ _ _ _ _ _ _; rw [F.out]; simpa [lcells, lcell] using hown4
        have N4 : Hid (Below w.heap.size w w4) := below_app HN2.out HO2.out hgrow4 HN2.out.size (Nat.le_refl _)
        clear hown4 hgrow4
        go_wp2
        go_roundw
        case rel => exact ⟨k + 1, m + 1, a4, c4, by omega, by omega, by go_num, rfl, O4.out, N4.out⟩
        case measure => simp [intOf]; omega
    · have F : Hid (wr.ownsRow w.heap.size 22 1 (.slice a' m c') m (lcells (outOf qs rs))) := by have := HO.out; rwa [List.take_of_length_le (by rw [HL.out]; omega)] at this
      clear hnx
      go_wp2
      go_ret
      exact ⟨_, _, _, rfl, by omega, F.out, HN.out⟩

theorem start3 {w w1 : World} {ua ta va sa : Option Addr} {un uc tn tc vn vc sn sc : Nat} (hb : Below (((w.alloc (.cells #[.slice ua un uc, .slice ta tn tc] 27)).alloc (.cells #[.slice va vn vc, .slice sa sn sc] 27)).alloc (.cells #[.slice none 0 0, .slice none 0 0] 27)).heap.size (((w.alloc (.cells #[.slice ua un uc, .slice ta tn tc] 27)).alloc (.cells #[.slice va vn vc, .slice sa sn sc] 27)).alloc (.cells #[.slice none 0 0, .slice none 0 0] 27)) w1) :
    (w1.cell? ⟨w.heap.size, 0, none⟩ = some (.slice ua un uc) ∧ w1.cell? ⟨w.heap.size, 1, none⟩ = some (.slice ta tn tc) ∧ w1.cell? ⟨w.heap.size + 1, 0, none⟩ = some (.slice va vn vc) ∧ w1.cell? ⟨w.heap.size + 1, 1, none⟩ = some (.slice sa sn sc)) ∧ (w1.cell? ⟨w.heap.size + 2, 0, none⟩ = some (.slice none 0 0) ∧ w1.cell? ⟨w.heap.size + 2, 1, none⟩ = some (.slice none 0 0) ∧ w1.frozen? ⟨w.heap.size + 2, 0, none⟩ = false ∧ w1.frozen? ⟨w.heap.size + 2, 1, none⟩ = false ∧ w.heap.size + 2 + 1 ≤ w1.heap.size) ∧ Below w.heap.size w w1 := by
  have hs2 : (((w.alloc (.cells #[.slice ua un uc, .slice ta tn tc] 27)).alloc (.cells #[.slice va vn vc, .slice sa sn sc] 27)).alloc (.cells #[.slice none 0 0, .slice none 0 0] 27)).heap.size = w.heap.size + 3 := by simp
  have B2 : Below w.heap.size w (((w.alloc (.cells #[.slice ua un uc, .slice ta tn tc] 27)).alloc (.cells #[.slice va vn vc, .slice sa sn sc] 27)).alloc (.cells #[.slice none 0 0, .slice none 0 0] 27)) := (((Below.refl _ _).alloc (Nat.le_refl _) _).alloc (by simp) _).alloc (by simp; omega) _
  have bc := Frame.bcell hb
  rw [hs2] at bc
  refine ⟨⟨?_, ?_, ?_, ?_⟩, ⟨?_, ?_, ?_, ?_, bc.2.2⟩, Frame.next B2 hb B2.size⟩
  · rw [bc.1 _ _ (by omega)]; go_simp
  · rw [bc.1 _ _ (by omega)]; go_simp
  · rw [bc.1 _ _ (by omega)]; go_simp
  · rw [bc.1 _ _ (by omega)]; go_simp
  · rw [bc.1 _ _ (by omega)]; go_simp
  · rw [bc.1 _ _ (by omega)]; go_simp
  · rw [bc.2.1 _ _ (by omega)]; go_simp
  · rw [bc.2.1 _ _ (by omega)]; go_simp
theorem without_no {a b : Rl} (h : twoB a b = false) : withoutV a b = ([], []) ∧ withoutG a b = false := by
  unfold withoutV withoutG
  rw [h]
  exact ⟨rfl, rfl⟩
theorem without_yes {a b : Rl} (h : twoB a b = true) : withoutV a b = tellV a.1 (withoutL a b) ∧ withoutG a b = tellG a.1 (withoutL a b) := by
  unfold withoutV withoutG
  rw [h]
  exact ⟨rfl, rfl⟩
theorem two_good {a b : Rl} (h : twoB a b = true) : Rel.Good a.1 a.2 ∧ Rel.Good b.1 b.2 ∧ a.1 = b.1 := by
  unfold twoB at h
  rw [Bool.and_eq_true, Bool.and_eq_true, decide_eq_true_eq] at h
  exact ⟨good_iff.1 h.1.1, good_iff.1 h.1.2, h.2⟩

set_option maxRecDepth 4000 in
set_option maxHeartbeats 3200000 in
theorem impl_WithoutOf (u t v s : Value) (a b : Rl) (w : World) (h1 : QIs w u t a) (h2 : QIs w v s b) : Calls Try.prog 15 #[.agg #[u, t], .agg #[v, s]] w (RTold (withoutV a b) (withoutG a b) w) := by
  have H1 : Hid (QIs w u t a) := h1
  have H2 : Hid (QIs w v s b) := h2
  obtain ⟨⟨ua, un, uc, rfl, hu, hun⟩, ta, tn, tc, rs, rfl, ht, hrs, htt⟩ := h1
  obtain ⟨⟨va, vn, vc, rfl, hv, hvn⟩, sa, sn, sc, qs, rfl, hs, hqs, hss⟩ := h2
  have HU : Hid (IsRow .i64 w ua un uc a.1) := hu
  have HT : Hid (IsLs w ta tn tc rs) := ht
  have HS : Hid (IsLs w sa sn sc qs) := hs
  have HRS : Hid (lplain rs = a.2) := hrs
  have HQS : Hid (lplain qs = b.2) := hqs
  have HTL : Hid (rs.length = tn) := ht.len
  have HSL : Hid (qs.length = sn) := hs.len
  have HUL : Hid (a.1.length = un) := hu.len
  have B2 : Hid (Below w.heap.size w (((w.alloc (.cells #[.slice ua un uc, .slice ta tn tc] 27)).alloc (.cells #[.slice va vn vc, .slice sa sn sc] 27)).alloc (.cells #[.slice none 0 0, .slice none 0 0] 27))) := (((Below.refl _ _).alloc (Nat.le_refl _) _).alloc (by simp) _).alloc (by simp; omega) _
  clear hu ht hrs htt hv hs hqs hss
  cases hg : twoB a b
  · have HG : Hid (twoB a b = false) := hg
    have F : Hid (withoutV a b = ([], []) ∧ withoutG a b = false) := without_no hg
    clear hg
    go_enter Try.func15, Try.ntmps15
    go_wp2_with fail
    refine (impl_haveSameNames _ _ _ _ a b _ (qIs_below H1.out B2.out) (qIs_below H2.out B2.out)).mono ?_
    rintro e w1 ⟨rfl, hb1⟩
    rw [HG.out]
    obtain ⟨⟨d0, d1, d2, d3⟩, ⟨c0, c1, f0, f1, hs1⟩, b1⟩ := start3 hb1
    have B1 : Hid (Below w.heap.size w w1) := b1
    clear hb1 b1
    go_wp2
    refine bodyPost_ret (v := .tuple #[.agg #[.slice none 0 0, .slice none 0 0], .bool false]) (by simp [results, Try.results15, go_sem, c0, c1]) rfl ?_
    rw [F.out.1, F.out.2]
    exact told_none (by omega) B1.out
  · have HG : Hid (twoB a b = true) := hg
    obtain ⟨ga, gb, gn⟩ := two_good hg
    have GA : Hid (Rel.Good a.1 a.2) := ga
    have F : Hid (withoutV a b = tellV a.1 (withoutL a b) ∧ withoutG a b = tellG a.1 (withoutL a b)) := without_yes hg
    have HST : Hid (Strict (lplain qs)) := by rw [HQS.out]; exact up_strict gb.up gb.wide
    have hmost : tn ≤ 60 := by
      have h1 := ga.most
      rw [← HRS.out, Oa.lplain_length, HTL.out] at h1
      exact h1
    have hmostb : sn ≤ 60 := by
      have h1 := gb.most
      rw [← HQS.out, Oa.lplain_length, HSL.out] at h1
      exact h1
    have hfew : un ≤ 6 := by have := ga.few; rw [HUL.out] at this; exact this
    have HRN : Hid (∀ x ∈ outOf qs rs, x.zs.length = un) := fun x hx => by
      have hx' : x ∈ rs := (List.mem_filter.1 hx).1
      have h1 := GA.out.wide x.zs (by rw [← HRS.out]; exact List.mem_map_of_mem hx')
      rw [h1, HUL.out]
    have HPL : Hid ((lplain (outOf qs rs)).map (fun x => pick a.1 x a.1) = withoutL a b) := by
      show _ = _
      have e : lplain (outOf qs rs) = withoutL a b := by rw [lplain_out, HRS.out, HQS.out]; rfl
      rw [e]
      exact map_pick_all GA.out.upN (fun t ht => GA.out.wide t (List.mem_filter.1 ht).1)
    clear hg ga gb gn
    go_enter Try.func15, Try.ntmps15
    go_wp2_with fail
    refine (impl_haveSameNames _ _ _ _ a b _ (qIs_below H1.out B2.out) (qIs_below H2.out B2.out)).mono ?_
    rintro e w1 ⟨rfl, hb1⟩
    rw [HG.out]
    obtain ⟨⟨d0, d1, d2, d3⟩, ⟨c0, c1, f0, f1, hs1⟩, b1⟩ := start3 hb1
    have C1 : Hid (w1.cell? ⟨w.heap.size + 2, 0, none⟩ = some (.slice none 0 0) ∧ w1.cell? ⟨w.heap.size + 2, 1, none⟩ = some (.slice none 0 0) ∧ w1.frozen? ⟨w.heap.size + 2, 0, none⟩ = false ∧ w1.frozen? ⟨w.heap.size + 2, 1, none⟩ = false ∧ w.heap.size + 2 + 1 ≤ w1.heap.size) := ⟨c0, c1, f0, f1, hs1⟩
    have D1 : Hid (w1.cell? ⟨w.heap.size, 0, none⟩ = some (.slice ua un uc) ∧ w1.cell? ⟨w.heap.size + 1, 1, none⟩ = some (.slice sa sn sc)) := ⟨d0, d3⟩
    have B1 : Hid (Below w.heap.size w w1) := b1
    clear hb1 b1 c0 c1 f0 f1
    go_wp2_with fail
    refine (kept_without _ _ _ rs (w.heap.size + 1) sn sc sa qs _ (HT.out.below B1.out) (by omega) D1.out.2 (HS.out.below B1.out) (by omega) HST.out).mono ?_
    rintro e w3 ⟨a3, m3, c3, rfl, hm3, ho3, hb3⟩
    have B3 : Hid (Below w.heap.size w w3) := Frame.next B1.out hb3 B1.out.size
    have HL3 : Hid (IsLs w3 a3 m3 c3 (outOf qs rs)) := isLs_outer ho3 (fun x hx => IsRow.below (HT.out.rows x (List.mem_filter.1 hx).1) B3.out)
    clear d0 d1 d2 d3
    have d0 : w3.cell? ⟨w.heap.size, 0, none⟩ = some (.slice ua un uc) := Frame.held_cell hb3 D1.out.1
    have C3 : Hid (w3.cell? ⟨w.heap.size + 2, 0, none⟩ = some (.slice none 0 0) ∧ w3.cell? ⟨w.heap.size + 2, 1, none⟩ = some (.slice none 0 0) ∧ w3.frozen? ⟨w.heap.size + 2, 0, none⟩ = false ∧ w3.frozen? ⟨w.heap.size + 2, 1, none⟩ = false ∧ w.heap.size + 2 + 1 ≤ w3.heap.size) := told_cells C1.out hb3
    have hs3 : w.heap.size + 2 + 1 ≤ w3.heap.size := C3.out.2.2.2.2
    have hsm : m3 * (un + 1) ≤ 1048576 := by
      have h1 : m3 * (un + 1) ≤ 60 * 7 := Nat.mul_le_mul (by omega) (by omega)
      omega
    clear ho3 hb3
    go_wp2_with fail
    refine (impl_underNames _ _ _ _ _ _ _ _ _ a.1 a.1 (outOf qs rs) _ (IsRow.below HU.out B3.out) HL3.out (IsRow.below HU.out B3.out) (by omega) (by omega) hsm HRN.out (fun z hz => hz)).mono ?_
    rintro e w8 ⟨pa, pn, pc, ya, yn, yc, rfl, hq8, hb8⟩
    rw [HPL.out] at hq8 ⊢
    obtain ⟨c0, c1, f0, f1, hs8⟩ := told_cells C3.out hb8
    have Q8 : Hid (QOwn w8 w3.heap.size w8.heap.size (.slice pa pn pc) (.slice ya yn yc) (tellV a.1 (withoutL a b))) := hq8
    have B8 : Hid (Below w.heap.size w w8) := Frame.next B3.out hb8 B3.out.size
    clear hq8 hb8 d0
    go_wp2
    refine bodyPost_ret (v := .tuple #[.agg #[.slice pa pn pc, .slice ya yn yc], .bool (tellG a.1 (withoutL a b))]) (by simp [results, Try.results15, go_sem, c0, c1]) rfl ?_
    rw [F.out.1, F.out.2]
    exact told_end (by omega) (by omega) hs3 Q8.out B8.out


end Go.Proofs.Yteihhpjneeaiaab.Oj
