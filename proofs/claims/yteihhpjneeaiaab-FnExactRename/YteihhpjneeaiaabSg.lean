/-
  Contracts of the model's l3Has and WithoutOf.
-/
import Derived.Test.YteihhpjneeaiaabSd
import Derived.Test.YteihhpjneeaiaabSf
namespace Go.Proofs.Yteihhpjneeaiaab.Sg
open Go.RowKit
open Go.Proofs.Yteihhpjneeaiaab.Frame Go.Proofs.Yteihhpjneeaiaab.Mem Go.Proofs.Yteihhpjneeaiaab.Ints Go.Proofs.Yteihhpjneeaiaab.Kep Go.Proofs.Yteihhpjneeaiaab.Lls Go.Proofs.Yteihhpjneeaiaab.Rpu Go.Proofs.Yteihhpjneeaiaab.Krl Go.Proofs.Yteihhpjneeaiaab.Sa Go.Proofs.Yteihhpjneeaiaab.Sb Go.Proofs.Yteihhpjneeaiaab.Sc Go.Proofs.Yteihhpjneeaiaab.Sd Go.Proofs.Yteihhpjneeaiaab.Sf Go.Proofs.Yteihhpjneeaiaab.Mis Go.Proofs.Yteihhpjneeaiaab.Told Go.Proofs.Yteihhpjneeaiaab.Rel

set_option maxHeartbeats 800000 in
theorem spec_l3Has (a ta : Option Addr) (n ca tn tc : Nat) (rs : List LV) (x : List Int) (w : World) (ha : IsLs w a n ca rs) (hx : IsRow .i64 w ta tn tc x) (hn : n ≤ 1048576) :
    Calls Try.prog 35 #[.slice a n ca, .slice ta tn tc] w fun e w' => e = .returned (.bool (decide (x ∈ lplain rs))) ∧ Below w.heap.size w w' := by
  have HI : Hid (IsLs w a n ca rs) := ha
  have HX : Hid (IsRow .i64 w ta tn tc x) := hx
  have HL : Hid (rs.length = n) := ha.len
  clear ha hx
  go_enter Try.func35, Try.ntmps35
  go_wp2
  go_loopw [9] (fun i wr => ∃ k : Nat, k ≤ n ∧ i = .int .i64 k ∧ x ∉ lplain (rs.take k) ∧ Below w.heap.size w wr) (fun i _ => n - (intOf i).toNat)
  case atStart => exact ⟨0, Nat.zero_le _, rfl, by simp [lplain], Below.refl _ _⟩
  case round =>
    obtain ⟨k, hk, rfl, hno, hnx⟩ := hrel
    have HNO : Hid (x ∉ lplain (rs.take k)) := hno
    have HN : Hid (Below w.heap.size w wr) := hnx
    clear hno
    by_cases hlt : k < n
    · obtain ⟨b, off, rfl, hbl, hc⟩ := HI.out.cells (by omega)
      have hkl : k < rs.length := by rw [HL.out]; exact hlt
      have p0 : wr.cell? ⟨b, off + k, none⟩ = some (.slice (rs.getD k ld).a (rs.getD k ld).n (rs.getD k ld).c) := by rw [hnx.cell (p := ⟨b, off + k, none⟩) hbl]; exact hc k hlt
      have r1 := IsRow.below (HI.out.rows _ (getD_mem_ld hkl)) hnx
      have HXY : Hid (((rs.getD k ld).zs = x → x ∈ lplain rs) ∧ ((rs.getD k ld).zs ≠ x → x ∉ lplain (rs.take (k + 1)))) := by
        refine ⟨fun e => e ▸ List.mem_map_of_mem (getD_mem_ld hkl), fun e hm => ?_⟩
        rw [take_succ_ld hkl] at hm
        simp only [lplain, List.map_append, List.mem_append, List.map_cons, List.map_nil, List.mem_singleton] at hm
        rcases hm with hm | hm
        · exact HNO.out hm
        · exact e hm.symm
      generalize rs.getD k ld = y at p0 r1 HXY
      obtain ⟨ya, yn, yc, yz⟩ := y
      simp only at p0 r1
      have R1 : Hid (IsRow .i64 wr ya yn yc yz) := r1
      have HF : Hid ((yz = x → x ∈ lplain rs) ∧ (yz ≠ x → x ∉ lplain (rs.take (k + 1)))) := HXY.out
      clear hc hkl r1 HXY hnx
      cases hv : decide (yz = x)
      · have HV : Hid (decide (yz = x) = false) := hv
        have F : Hid (x ∉ lplain (rs.take (k + 1))) := HF.out.2 (of_decide_eq_false hv)
        clear hv HF
        go_wp2_with fail
        refine (spec_l1Same _ _ _ _ _ _ yz x _ R1.out (IsRow.below HX.out HN.out)).mono ?_
        rintro e w1 ⟨rfl, hb1⟩
        rw [HV.out]
        have N1 : Hid (Below w.heap.size w w1) := Frame.next HN.out hb1 HN.out.size
        clear hb1 p0
        go_wp2
        go_roundw
        case rel => exact ⟨k + 1, by omega, by go_num, F.out, N1.out⟩
        case measure => simp [intOf]; omega
      · have HV : Hid (decide (yz = x) = true) := hv
        have F : Hid (decide (x ∈ lplain rs) = true) := decide_eq_true (HF.out.1 (of_decide_eq_true hv))
        clear hv HF
        go_wp2_with fail
        refine (spec_l1Same _ _ _ _ _ _ yz x _ R1.out (IsRow.below HX.out HN.out)).mono ?_
        rintro e w1 ⟨rfl, hb1⟩
        rw [HV.out]
        have N1 : Hid (Below w.heap.size w w1) := Frame.next HN.out hb1 HN.out.size
        clear hb1 p0
        go_wp2
        go_ret
        exact ⟨ret_bool F.out.symm, N1.out⟩
    · have F : Hid (decide (x ∈ lplain rs) = false) := decide_eq_false (by
        have h := HNO.out
        rwa [List.take_of_length_le (by rw [HL.out]; omega)] at h)
      clear hnx
      go_wp2
      go_ret
      exact ⟨ret_bool F.out.symm, HN.out⟩

theorem start3 {w w1 : World} {ua ta va sa : Option Addr} {un uc tn tc vn vc sn sc : Nat} (hb : Below (((w.alloc (.cells #[.slice ua un uc, .slice ta tn tc] 27)).alloc (.cells #[.slice va vn vc, .slice sa sn sc] 27)).alloc (.cells #[.slice none 0 0, .slice none 0 0] 27)).heap.size (((w.alloc (.cells #[.slice ua un uc, .slice ta tn tc] 27)).alloc (.cells #[.slice va vn vc, .slice sa sn sc] 27)).alloc (.cells #[.slice none 0 0, .slice none 0 0] 27)) w1) :
    (w1.cell? ⟨w.heap.size, 0, none⟩ = some (.slice ua un uc) ∧ w1.cell? ⟨w.heap.size, 1, none⟩ = some (.slice ta tn tc) ∧ w1.cell? ⟨w.heap.size + 1, 0, none⟩ = some (.slice va vn vc) ∧ w1.cell? ⟨w.heap.size + 1, 1, none⟩ = some (.slice sa sn sc)) ∧ (w1.cell? ⟨w.heap.size + 2, 0, none⟩ = some (.slice none 0 0) ∧ w1.cell? ⟨w.heap.size + 2, 1, none⟩ = some (.slice none 0 0) ∧ w1.frozen? ⟨w.heap.size + 2, 0, none⟩ = false ∧ w1.frozen? ⟨w.heap.size + 2, 1, none⟩ = false ∧ w.heap.size + 2 + 1 ≤ w1.heap.size) ∧ Below w.heap.size w w1 := by
  have hs2 : (((w.alloc (.cells #[.slice ua un uc, .slice ta tn tc] 27)).alloc (.cells #[.slice va vn vc, .slice sa sn sc] 27)).alloc (.cells #[.slice none 0 0, .slice none 0 0] 27)).heap.size = w.heap.size + 3 := by simp
  have B2 : Below w.heap.size w (((w.alloc (.cells #[.slice ua un uc, .slice ta tn tc] 27)).alloc (.cells #[.slice va vn vc, .slice sa sn sc] 27)).alloc (.cells #[.slice none 0 0, .slice none 0 0] 27)) := (((Below.refl _ _).alloc (Nat.le_refl _) _).alloc (by simp) _).alloc (by simp; omega) _
  have bc := Frame.bcell hb
  rw [hs2] at bc
  refine ⟨⟨?_, ?_, ?_, ?_⟩, ⟨?_, ?_, ?_, ?_, bc.2.2⟩, Frame.next B2 hb B2.size⟩
  · rw [bc.1 _ _ (by omega)]; go_simp
  · rw [bc.1 _ _ (by omega)]; go_simp
  · rw [bc.1 _ _ (by omega)]; go_simp
  · rw [bc.1 _ _ (by omega)]; go_simp
  · rw [bc.1 _ _ (by omega)]; go_simp
  · rw [bc.1 _ _ (by omega)]; go_simp
  · rw [bc.2.1 _ _ (by omega)]; go_simp
  · rw [bc.2.1 _ _ (by omega)]; go_simp
theorem told_none {w w1 : World} {b : Nat} {v0 v1 : Value} (hb : w.heap.size ≤ b) (hB : Below w.heap.size w w1) : RTold ([], []) false w (.returned (.tuple #[.agg #[.slice none 0 0, .slice none 0 0], .bool false])) ((w1.setCell ⟨b, 0, none⟩ v0).setCell ⟨b, 1, none⟩ v1) :=
  ⟨_, _, _, _, _, _, rfl, own_none _ _ _, (hB.setCell hb _).setCell hb _⟩
theorem without_no {a b : Rl} (h : twoB a b = false) : withoutV a b = ([], []) ∧ withoutG a b = false := by
  unfold withoutV withoutG
  rw [h]
  exact ⟨rfl, rfl⟩
theorem without_yes {a b : Rl} (h : twoB a b = true) : withoutV a b = tellV a.1 (withoutL a b) ∧ withoutG a b = tellG a.1 (withoutL a b) := by
  unfold withoutV withoutG
  rw [h]
  exact ⟨rfl, rfl⟩
theorem two_good {a b : Rl} (h : twoB a b = true) : Rel.Good a.1 a.2 ∧ Rel.Good b.1 b.2 ∧ a.1 = b.1 := by
  unfold twoB at h
  rw [Bool.and_eq_true, Bool.and_eq_true, decide_eq_true_eq] at h
  exact ⟨good_iff.1 h.1.1, good_iff.1 h.1.2, h.2⟩
def outOf (qs rs : List LV) : List LV := rs.filter fun r => !decide (r.zs ∈ lplain qs)
theorem out_in {qs rs : List LV} {k : Nat} (h : k < rs.length) (e : decide ((rs.getD k ld).zs ∈ lplain qs) = false) : outOf qs (rs.take (k + 1)) = outOf qs (rs.take k) ++ [rs.getD k ld] := by
  rw [take_succ_ld h]
  unfold outOf
  rw [List.filter_append, List.filter_cons, if_pos (by rw [e]; rfl)]
  rfl
theorem out_out {qs rs : List LV} {k : Nat} (h : k < rs.length) (e : decide ((rs.getD k ld).zs ∈ lplain qs) = true) : outOf qs (rs.take (k + 1)) = outOf qs (rs.take k) := by
  rw [take_succ_ld h]
  unfold outOf
  rw [List.filter_append, List.filter_cons, if_neg (by rw [e]; exact Bool.false_ne_true)]
  simp
theorem lplain_out (qs rs : List LV) : lplain (outOf qs rs) = (lplain rs).filter fun t => !decide (t ∈ lplain qs) := by
  unfold outOf lplain
  rw [List.filter_map]
  rfl

set_option maxRecDepth 4000 in
set_option maxHeartbeats 3200000 in
theorem spec_WithoutOf (u t v s : Value) (a b : Rl) (w : World) (h1 : QIs w u t a) (h2 : QIs w v s b) : Calls Try.prog 14 #[.agg #[u, t], .agg #[v, s]] w (RTold (withoutV a b) (withoutG a b) w) := by
  obtain ⟨i0, hi, hz0, hz1, hz2⟩ := info_parts infoL
  have H1 : Hid (QIs w u t a) := h1
  have H2 : Hid (QIs w v s b) := h2
  obtain ⟨⟨ua, un, uc, rfl, hu, hun⟩, ta, tn, tc, rs, rfl, ht, hrs, htt⟩ := h1
  obtain ⟨⟨va, vn, vc, rfl, hv, hvn⟩, sa, sn, sc, qs, rfl, hs, hqs, hss⟩ := h2
  have HU : Hid (IsRow .i64 w ua un uc a.1) := hu
  have HT : Hid (IsLs w ta tn tc rs) := ht
  have HS : Hid (IsLs w sa sn sc qs) := hs
  have HRS : Hid (lplain rs = a.2) := hrs
  have HQS : Hid (lplain qs = b.2) := hqs
  have HTL : Hid (rs.length = tn) := ht.len
  have HSL : Hid (qs.length = sn) := hs.len
  have HUL : Hid (a.1.length = un) := hu.len
  have B2 : Hid (Below w.heap.size w (((w.alloc (.cells #[.slice ua un uc, .slice ta tn tc] 27)).alloc (.cells #[.slice va vn vc, .slice sa sn sc] 27)).alloc (.cells #[.slice none 0 0, .slice none 0 0] 27))) := (((Below.refl _ _).alloc (Nat.le_refl _) _).alloc (by simp) _).alloc (by simp; omega) _
  clear hu ht hrs htt hv hs hqs hss
  cases hg : twoB a b
  · have HG : Hid (twoB a b = false) := hg
    have F : Hid (withoutV a b = ([], []) ∧ withoutG a b = false) := without_no hg
    clear hg
    go_enter Try.func14, Try.ntmps14
    go_wp2_with fail
    refine (spec_l3Two _ _ _ _ a b _ (qIs_below H1.out B2.out) (qIs_below H2.out B2.out)).mono ?_
    rintro e w1 ⟨rfl, hb1⟩
    rw [HG.out]
    obtain ⟨⟨d0, d1, d2, d3⟩, ⟨c0, c1, f0, f1, hs1⟩, b1⟩ := start3 hb1
    have B1 : Hid (Below w.heap.size w w1) := b1
    clear hb1 b1
    go_wp2
    refine bodyPost_ret (v := .tuple #[.agg #[.slice none 0 0, .slice none 0 0], .bool false]) (by simp [results, Try.results14, go_sem, c0, c1]) rfl ?_
    rw [F.out.1, F.out.2]
    exact told_none (by omega) B1.out
  · have HG : Hid (twoB a b = true) := hg
    obtain ⟨ga, gb, gn⟩ := two_good hg
    have GA : Hid (Rel.Good a.1 a.2) := ga
    have F : Hid (withoutV a b = tellV a.1 (withoutL a b) ∧ withoutG a b = tellG a.1 (withoutL a b)) := without_yes hg
    have hmost : tn ≤ 60 := by
      have h1 := ga.most
      rw [← HRS.out, Sb.lplain_length, HTL.out] at h1
      exact h1
    have hmostb : sn ≤ 60 := by
      have h1 := gb.most
      rw [← HQS.out, Sb.lplain_length, HSL.out] at h1
      exact h1
    have hfew : un ≤ 6 := by have := ga.few; rw [HUL.out] at this; exact this
    have HRN : Hid (∀ x ∈ outOf qs rs, x.zs.length = un) := fun x hx => by
      have hx' : x ∈ rs := (List.mem_filter.1 hx).1
      have h1 := GA.out.wide x.zs (by rw [← HRS.out]; exact List.mem_map_of_mem hx')
      rw [h1, HUL.out]
    have HPL : Hid (lplain (outOf qs rs) = withoutL a b) := by show _ = _; rw [lplain_out, HRS.out, HQS.out]; rfl
    clear hg ga gb gn
    go_enter Try.func14, Try.ntmps14
    go_wp2_with fail
    refine (spec_l3Two _ _ _ _ a b _ (qIs_below H1.out B2.out) (qIs_below H2.out B2.out)).mono ?_
    rintro e w1 ⟨rfl, hb1⟩
    rw [HG.out]
    obtain ⟨⟨d0, d1, d2, d3⟩, ⟨c0, c1, f0, f1, hs1⟩, b1⟩ := start3 hb1
    have C1 : Hid (w1.cell? ⟨w.heap.size + 2, 0, none⟩ = some (.slice none 0 0) ∧ w1.cell? ⟨w.heap.size + 2, 1, none⟩ = some (.slice none 0 0) ∧ w1.frozen? ⟨w.heap.size + 2, 0, none⟩ = false ∧ w1.frozen? ⟨w.heap.size + 2, 1, none⟩ = false ∧ w.heap.size + 2 + 1 ≤ w1.heap.size) := ⟨c0, c1, f0, f1, hs1⟩
    have D1 : Hid (w1.cell? ⟨w.heap.size, 0, none⟩ = some (.slice ua un uc) ∧ w1.cell? ⟨w.heap.size + 1, 1, none⟩ = some (.slice sa sn sc)) := ⟨d0, d3⟩
    have B1 : Hid (Below w.heap.size w w1) := b1
    clear hb1 b1 c0 c1 f0 f1
    go_wp2_with fail
    clear d0 d1 d2 d3
    go_loopw [6, 17] (fun o i wr => ∃ (k m : Nat) (a' : Option Addr) (c' : Nat), k ≤ tn ∧ m ≤ k ∧ i = .int .i64 k ∧ o = .slice a' m c' ∧ wr.ownsRow w1.heap.size 22 1 (.slice a' m c') m (lcells (outOf qs (rs.take k))) ∧ Below w1.heap.size w1 wr) (fun _ i _ => tn - (intOf i).toNat)
    case atStart => exact ⟨0, 0, none, 0, Nat.zero_le _, Nat.le_refl _, rfl, rfl, World.ownsRow_nil _ _ _ _, Below.refl _ _⟩
    case round =>
      obtain ⟨k, m, a', c', hk, hmk, rfl, rfl, ho, hnx⟩ := hrel
      have HO : Hid (wr.ownsRow w1.heap.size 22 1 (.slice a' m c') m (lcells (outOf qs (rs.take k)))) := ho
      have HNX : Hid (Below w1.heap.size w1 wr) := hnx
      have HBW : Hid (Below w.heap.size w wr) := Frame.next B1.out hnx B1.out.size
      have hsr := hnx.size
      have q0 : wr.cell? ⟨w.heap.size, 0, none⟩ = some (.slice ua un uc) := Frame.held_cell hnx D1.out.1
      have q3 : wr.cell? ⟨w.heap.size + 1, 1, none⟩ = some (.slice sa sn sc) := Frame.held_cell hnx D1.out.2
      clear ho
      by_cases hlt : k < tn
      · obtain ⟨b', off, rfl, hbl, hc⟩ := HT.out.cells (by omega)
        have hkl : k < rs.length := by rw [HTL.out]; exact hlt
        have p0 : wr.cell? ⟨b', off + k, none⟩ = some (.slice (rs.getD k ld).a (rs.getD k ld).n (rs.getD k ld).c) := by rw [HBW.out.cell (p := ⟨b', off + k, none⟩) hbl]; exact hc k hlt
        have r1 := IsRow.below (HT.out.rows _ (getD_mem_ld hkl)) HBW.out
        have HIN : Hid (decide ((rs.getD k ld).zs ∈ lplain qs) = false → outOf qs (rs.take (k + 1)) = outOf qs (rs.take k) ++ [rs.getD k ld]) := fun e => out_in hkl e
        have HOUT : Hid (decide ((rs.getD k ld).zs ∈ lplain qs) = true → outOf qs (rs.take (k + 1)) = outOf qs (rs.take k)) := fun e => out_out hkl e
        generalize rs.getD k ld = x at p0 r1 HIN HOUT
        obtain ⟨xa, xn, xc, xs⟩ := x
        simp only at p0 r1
        have R1 : Hid (IsRow .i64 wr xa xn xc xs) := r1
        have HIN' : Hid (decide (xs ∈ lplain qs) = false → outOf qs (rs.take (k + 1)) = outOf qs (rs.take k) ++ [⟨xa, xn, xc, xs⟩]) := HIN.out
        have HOUT' : Hid (decide (xs ∈ lplain qs) = true → outOf qs (rs.take (k + 1)) = outOf qs (rs.take k)) := HOUT.out
        clear hc hkl r1 HIN HOUT hnx
        cases hv : decide (xs ∈ lplain qs)
        · have HV : Hid (decide (xs ∈ lplain qs) = false) := hv
          have FX : Hid (outOf qs (rs.take (k + 1)) = outOf qs (rs.take k) ++ [⟨xa, xn, xc, xs⟩]) := HIN'.out hv
          clear hv HIN' HOUT'
          go_wp2_with fail
          refine (spec_l3Has _ _ _ _ _ _ qs xs _ (HS.out.below HBW.out) R1.out (by omega)).mono ?_
          rintro e w3 ⟨rfl, hb3⟩
          rw [HV.out]
          have B3 : Hid (Below w1.heap.size w1 w3) := Frame.next HNX.out hb3 hsr
          have O3 : Hid ((w3.alloc (.cells #[.slice xa xn xc] 22)).ownsRow w1.heap.size 22 1 (.slice a' m c') m (lcells (outOf qs (rs.take k)))) := own_below (own_below HO.out hb3) ((Below.refl _ _).alloc (Nat.le_refl _) _)
          have N3 : Hid (Below w1.heap.size w1 (w3.alloc (.cells #[.slice xa xn xc] 22))) := B3.out.alloc B3.out.size _
          have S3 : Hid (0 < 1 → ∃ ad, (some ⟨w3.heap.size, 0, none⟩ : Option Addr) = some ad ∧ ∀ j u, ([.slice xa xn xc] : List Value)[j]? = some u → (w3.alloc (.cells #[.slice xa xn xc] 22)).cell? (ad.add j) = some u) := news_one w3 _ _
          clear hb3 q0 q3 p0
          go_wp2_with (at_builtin; refine App.wpList_append_all _ rfl _ _ 23 rfl w1.heap.size 22 i0 (.slice none 0 0) 1 24 Try.underlying23 hi hz0 hz1 hz2 rfl (by decide) _ _ _ rfl O3.out _ 1 _ [.slice xa xn xc] rfl rfl S3.out (by simp [Value.oneCell']) (by unfold maxLen; omega) (by omega) N3.out.size ?_)
          intro a4 c4 w4 hown4 hgrow4
          have O4 : Hid (w4.ownsRow w1.heap.size 22 1 (.slice a4 (m + 1) c4) (m + 1) (lcells (outOf qs (rs.take (k + 1))))) := by show World.ownsRow _ _ _ _ _ _ _; rw [FX.out]; simpa [lcells, lcell] using hown4
          have N4 : Hid (Below w1.heap.size w1 w4) := below_app N3.out O3.out hgrow4 N3.out.size (Nat.le_refl _)
          clear hown4 hgrow4
          go_wp2
          go_roundw
          case rel => exact ⟨k + 1, m + 1, a4, c4, by omega, by omega, by go_num, rfl, O4.out, N4.out⟩
          case measure => simp [intOf]; omega
        · have HV : Hid (decide (xs ∈ lplain qs) = true) := hv
          have FX : Hid (outOf qs (rs.take (k + 1)) = outOf qs (rs.take k)) := HOUT'.out hv
          clear hv HIN' HOUT'
          go_wp2_with fail
          refine (spec_l3Has _ _ _ _ _ _ qs xs _ (HS.out.below HBW.out) R1.out (by omega)).mono ?_
          rintro e w3 ⟨rfl, hb3⟩
          rw [HV.out]
          have B3 : Hid (Below w1.heap.size w1 w3) := Frame.next HNX.out hb3 hsr
          have O3 : Hid (w3.ownsRow w1.heap.size 22 1 (.slice a' m c') m (lcells (outOf qs (rs.take (k + 1))))) := by show World.ownsRow _ _ _ _ _ _ _; rw [FX.out]; exact own_below HO.out hb3
          clear hb3 q0 q3 p0
          go_wp2
          go_roundw
          case rel => exact ⟨k + 1, m, a', c', by omega, by omega, by go_num, rfl, O3.out, B3.out⟩
          case measure => simp [intOf]; omega
      · obtain rfl : k = tn := by omega
        have HO' : Hid (wr.ownsRow w1.heap.size 22 1 (.slice a' m c') m (lcells (outOf qs rs))) := by have := HO.out; rwa [List.take_of_length_le (by rw [HTL.out]; omega)] at this
        have HL8 : Hid (IsLs wr a' m c' (outOf qs rs)) := isLs_outer HO'.out (fun x hx => IsRow.below (HT.out.rows x (List.mem_filter.1 hx).1) HBW.out)
        have CW : Hid (wr.cell? ⟨w.heap.size + 2, 0, none⟩ = some (.slice none 0 0) ∧ wr.cell? ⟨w.heap.size + 2, 1, none⟩ = some (.slice none 0 0) ∧ wr.frozen? ⟨w.heap.size + 2, 0, none⟩ = false ∧ wr.frozen? ⟨w.heap.size + 2, 1, none⟩ = false ∧ w.heap.size + 2 + 1 ≤ wr.heap.size) := told_cells C1.out hnx
        have hsm : m * (un + 1) ≤ 1048576 := by
          have h1 : m * (un + 1) ≤ 60 * 7 := Nat.mul_le_mul (by omega) (by omega)
          omega
        clear hnx
        go_wp2_with fail
        refine (spec_l3Tell _ _ _ _ _ _ un a.1 (outOf qs rs) _ (IsRow.below HU.out HBW.out) HL8.out (by omega) (by omega) (by omega) HRN.out hsm).mono ?_
        rintro e w8 ⟨pa, pn, pc, ya, yn, yc, rfl, hq8, hb8⟩
        rw [HPL.out] at hq8 ⊢
        obtain ⟨c0, c1, f0, f1, hs8⟩ := told_cells CW.out hb8
        have Q8 : Hid (QOwn w8 wr.heap.size w8.heap.size (.slice pa pn pc) (.slice ya yn yc) (tellV a.1 (withoutL a b))) := hq8
        have B8 : Hid (Below w.heap.size w w8) := Frame.next HBW.out hb8 HBW.out.size
        clear hq8 hb8 q0 q3
        go_wp2
        refine bodyPost_ret (v := .tuple #[.agg #[.slice pa pn pc, .slice ya yn yc], .bool (tellG a.1 (withoutL a b))]) (by simp [results, Try.results14, go_sem, c0, c1]) rfl ?_
        rw [F.out.1, F.out.2]
        exact told_end (by omega) (by omega) CW.out.2.2.2.2 Q8.out B8.out


end Go.Proofs.Yteihhpjneeaiaab.Sg
