/-
  Contract of the model's UnionOf.
-/
import Derived.Test.YteihhpjneeaiaabSg
import Derived.Test.YteihhpjneeaiaabApr
namespace Go.Proofs.Yteihhpjneeaiaab.Sh
open Go.RowKit
open Go.Proofs.Yteihhpjneeaiaab.Frame Go.Proofs.Yteihhpjneeaiaab.Mem Go.Proofs.Yteihhpjneeaiaab.Ints Go.Proofs.Yteihhpjneeaiaab.Kep Go.Proofs.Yteihhpjneeaiaab.Lls Go.Proofs.Yteihhpjneeaiaab.Rpu Go.Proofs.Yteihhpjneeaiaab.Krl Go.Proofs.Yteihhpjneeaiaab.Sa Go.Proofs.Yteihhpjneeaiaab.Sb Go.Proofs.Yteihhpjneeaiaab.Sc Go.Proofs.Yteihhpjneeaiaab.Sd Go.Proofs.Yteihhpjneeaiaab.Sf Go.Proofs.Yteihhpjneeaiaab.Mis Go.Proofs.Yteihhpjneeaiaab.Told Go.Proofs.Yteihhpjneeaiaab.Rel

theorem union_no {a b : Rl} (h : twoB a b = false) : unionV a b = ([], []) ∧ unionG a b = false := by
  unfold unionV unionG
  rw [h]
  exact ⟨rfl, rfl⟩
theorem union_yes {a b : Rl} (h : twoB a b = true) : unionV a b = tellV a.1 (a.2 ++ b.2) ∧ unionG a b = tellG a.1 (a.2 ++ b.2) := by
  unfold unionV unionG
  rw [h]
  exact ⟨rfl, rfl⟩
theorem far2 {w : World} {b b' o : Nat} {v v0 v1 : Value} (h : w.cell? ⟨b', o, none⟩ = some v) (hb : b ≠ b') : ((w.setCell ⟨b, 0, none⟩ v0).setCell ⟨b, 1, none⟩ v1).cell? ⟨b', o, none⟩ = some v := by
  rw [World.cell?_setCell_far _ _ _ _ hb, World.cell?_setCell_far _ _ _ _ hb]
  exact h

set_option maxRecDepth 4000 in
set_option maxHeartbeats 3200000 in
theorem spec_UnionOf (u t v s : Value) (a b : Rl) (w : World) (h1 : QIs w u t a) (h2 : QIs w v s b) : Calls Try.prog 8 #[.agg #[u, t], .agg #[v, s]] w (RTold (unionV a b) (unionG a b) w) := by
  obtain ⟨i0, hi, hz0, hz1, hz2⟩ := info_parts infoL
  have H1 : Hid (QIs w u t a) := h1
  have H2 : Hid (QIs w v s b) := h2
  obtain ⟨⟨ua, un, uc, rfl, hu, hun⟩, ta, tn, tc, rs, rfl, ht, hrs, htt⟩ := h1
  obtain ⟨⟨va, vn, vc, rfl, hv, hvn⟩, sa, sn, sc, qs, rfl, hs, hqs, hss⟩ := h2
  have HU : Hid (IsRow .i64 w ua un uc a.1) := hu
  have HT : Hid (IsLs w ta tn tc rs) := ht
  have HS : Hid (IsLs w sa sn sc qs) := hs
  have HRS : Hid (lplain rs = a.2) := hrs
  have HQS : Hid (lplain qs = b.2) := hqs
  have HTL : Hid (rs.length = tn) := ht.len
  have HSL : Hid (qs.length = sn) := hs.len
  have HUL : Hid (a.1.length = un) := hu.len
  have B2 : Hid (Below w.heap.size w (((w.alloc (.cells #[.slice ua un uc, .slice ta tn tc] 27)).alloc (.cells #[.slice va vn vc, .slice sa sn sc] 27)).alloc (.cells #[.slice none 0 0, .slice none 0 0] 27))) := (((Below.refl _ _).alloc (Nat.le_refl _) _).alloc (by simp) _).alloc (by simp; omega) _
  clear hu ht hrs htt hv hs hqs hss
  cases hg : twoB a b
  · have HG : Hid (twoB a b = false) := hg
    have F : Hid (unionV a b = ([], []) ∧ unionG a b = false) := union_no hg
    clear hg
    go_enter Try.func8, Try.ntmps8
    go_wp2_with fail
    refine (spec_l3Two _ _ _ _ a b _ (qIs_below H1.out B2.out) (qIs_below H2.out B2.out)).mono ?_
    rintro e w1 ⟨rfl, hb1⟩
    rw [HG.out]
    obtain ⟨⟨d0, d1, d2, d3⟩, ⟨c0, c1, f0, f1, hs1⟩, b1⟩ := Sg.start3 hb1
    have B1 : Hid (Below w.heap.size w w1) := b1
    clear hb1 b1
    go_wp2
    refine bodyPost_ret (v := .tuple #[.agg #[.slice none 0 0, .slice none 0 0], .bool false]) (by simp [results, Try.results8, go_sem, c0, c1]) rfl ?_
    rw [F.out.1, F.out.2]
    exact Sg.told_none (by omega) B1.out
  · have HG : Hid (twoB a b = true) := hg
    obtain ⟨ga, gb, gn⟩ := Sg.two_good hg
    have GA : Hid (Rel.Good a.1 a.2) := ga
    have F : Hid (unionV a b = tellV a.1 ((a.2 ++ b.2)) ∧ unionG a b = tellG a.1 ((a.2 ++ b.2))) := union_yes hg
    have hmost : tn ≤ 60 := by
      have h1 := ga.most
      rw [← HRS.out, Sb.lplain_length, HTL.out] at h1
      exact h1
    have hmostb : sn ≤ 60 := by
      have h1 := gb.most
      rw [← HQS.out, Sb.lplain_length, HSL.out] at h1
      exact h1
    have hfew : un ≤ 6 := by have := ga.few; rw [HUL.out] at this; exact this
    have HRN : Hid (∀ x ∈ rs ++ qs, x.zs.length = un) := fun x hx => by
      rcases List.mem_append.1 hx with hx' | hx'
      · have h1 := GA.out.wide x.zs (by rw [← HRS.out]; exact List.mem_map_of_mem hx')
        rw [h1, HUL.out]
      · have h1 := gb.wide x.zs (by rw [← HQS.out]; exact List.mem_map_of_mem hx')
        rw [h1, ← gn, HUL.out]
    have HPL : Hid (lplain (rs ++ qs) = a.2 ++ b.2) := by show _ = _; unfold lplain at *; rw [List.map_append, HRS.out, HQS.out]
    clear hg ga gb gn
    go_enter Try.func8, Try.ntmps8
    go_wp2_with fail
    refine (spec_l3Two _ _ _ _ a b _ (qIs_below H1.out B2.out) (qIs_below H2.out B2.out)).mono ?_
    rintro e w1 ⟨rfl, hb1⟩
    rw [HG.out]
    obtain ⟨⟨d0, d1, d2, d3⟩, ⟨c0, c1, f0, f1, hs1⟩, b1⟩ := Sg.start3 hb1
    have C1 : Hid (w1.cell? ⟨w.heap.size + 2, 0, none⟩ = some (.slice none 0 0) ∧ w1.cell? ⟨w.heap.size + 2, 1, none⟩ = some (.slice none 0 0) ∧ w1.frozen? ⟨w.heap.size + 2, 0, none⟩ = false ∧ w1.frozen? ⟨w.heap.size + 2, 1, none⟩ = false ∧ w.heap.size + 2 + 1 ≤ w1.heap.size) := ⟨c0, c1, f0, f1, hs1⟩
    have D1 : Hid (w1.cell? ⟨w.heap.size, 0, none⟩ = some (.slice ua un uc) ∧ w1.cell? ⟨w.heap.size, 1, none⟩ = some (.slice ta tn tc) ∧ w1.cell? ⟨w.heap.size + 1, 1, none⟩ = some (.slice sa sn sc)) := ⟨d0, d1, d3⟩
    have B1 : Hid (Below w.heap.size w w1) := b1
    clear hb1 b1 c0 c1 f0 f1
    go_wp2_with fail
    clear d0 d1 d2 d3
    have BA : Hid (Below w1.heap.size w1 (w1.drew.alloc (.cells #[] 22))) := ((Below.refl _ _).drew).alloc (Nat.le_refl _) _
    have OA : Hid ((w1.drew.alloc (.cells #[] 22)).ownsRow w1.heap.size 22 1 (.slice (some ⟨w1.heap.size, 0, none⟩) 0 0) 0 []) := own_zero _ _ _ _ _ rfl (Nat.le_refl _)
    have SA : Hid (0 < tn → ∃ ad, ta = some ad ∧ ∀ j u, (lcells rs)[j]? = some u → (w1.drew.alloc (.cells #[] 22)).cell? (ad.add j) = some u) := news_ls (HT.out.below (Frame.next B1.out BA.out B1.out.size))
    have K0 : Hid (w1.drew.cell? ⟨w.heap.size, 0, none⟩ = some (.slice ua un uc) ∧ w1.drew.cell? ⟨w.heap.size, 1, none⟩ = some (.slice ta tn tc) ∧ w1.drew.cell? ⟨w.heap.size + 1, 1, none⟩ = some (.slice sa sn sc)) := D1.out
    have K1 : Hid ((w1.drew.alloc (.cells #[] 22)).cell? ⟨w.heap.size, 0, none⟩ = some (.slice ua un uc) ∧ (w1.drew.alloc (.cells #[] 22)).cell? ⟨w.heap.size, 1, none⟩ = some (.slice ta tn tc) ∧ (w1.drew.alloc (.cells #[] 22)).cell? ⟨w.heap.size + 1, 1, none⟩ = some (.slice sa sn sc)) := ⟨Frame.held_cell BA.out D1.out.1, Frame.held_cell BA.out D1.out.2.1, Frame.held_cell BA.out D1.out.2.2⟩
    have hrl : (lcells rs).length = tn * 1 := by rw [lcells_length, HTL.out]; omega
    have hql : (lcells qs).length = sn * 1 := by rw [lcells_length, HSL.out]; omega
    have hsm : (tn + sn) * (un + 1) ≤ 1048576 := by
      have h1 : (tn + sn) * (un + 1) ≤ 120 * 7 := Nat.mul_le_mul (by omega) (by omega)
      omega
    have HRL : Hid ((lcells rs).length = tn * 1) := hrl
    have HQL : Hid ((lcells qs).length = sn * 1) := hql
    clear hrl hql
    go_region_held3 (fun w' => w'.cell? ⟨w.heap.size, 0, none⟩ = some (.slice ua un uc) ∧ w'.cell? ⟨w.heap.size, 1, none⟩ = some (.slice ta tn tc) ∧ w'.cell? ⟨w.heap.size + 1, 1, none⟩ = some (.slice sa sn sc)) (first | exact K0.out | exact K1.out | exact K2.out | exact K3.out | exact K4.out | exact K5.out) (first | (go_at_call 23; refine (spec_l3Tell _ _ _ _ _ _ un a.1 (rs ++ qs) _ (IsRow.below HU.out BB3.out) HL3.out (by omega) (by omega) (by omega) HRN.out hsm).mono ?_; rintro e w8 ⟨pa, pn, pc, ya, yn, yc, rfl, hq8, hb8⟩; rw [HPL.out] at hq8 ⊢; obtain ⟨c0, c1, f0, f1, hs8⟩ := told_cells C3.out hb8; have Q8 : Hid (QOwn w8 w3.heap.size w8.heap.size (.slice pa pn pc) (.slice ya yn yc) (tellV a.1 (a.2 ++ b.2))) := hq8; have B8 : Hid (Below w.heap.size w w8) := Frame.next BB3.out hb8 BB3.out.size; have K4 : Hid (w8.cell? ⟨w.heap.size, 0, none⟩ = some (.slice ua un uc) ∧ w8.cell? ⟨w.heap.size, 1, none⟩ = some (.slice ta tn tc) ∧ w8.cell? ⟨w.heap.size + 1, 1, none⟩ = some (.slice sa sn sc)) := ⟨Frame.held_cell hb8 K3.out.1, Frame.held_cell hb8 K3.out.2.1, Frame.held_cell hb8 K3.out.2.2⟩; have K5 : Hid (((w8.setCell ⟨w.heap.size + 2, 0, none⟩ (.slice pa pn pc)).setCell ⟨w.heap.size + 2, 1, none⟩ (.slice ya yn yc)).cell? ⟨w.heap.size, 0, none⟩ = some (.slice ua un uc) ∧ ((w8.setCell ⟨w.heap.size + 2, 0, none⟩ (.slice pa pn pc)).setCell ⟨w.heap.size + 2, 1, none⟩ (.slice ya yn yc)).cell? ⟨w.heap.size, 1, none⟩ = some (.slice ta tn tc) ∧ ((w8.setCell ⟨w.heap.size + 2, 0, none⟩ (.slice pa pn pc)).setCell ⟨w.heap.size + 2, 1, none⟩ (.slice ya yn yc)).cell? ⟨w.heap.size + 1, 1, none⟩ = some (.slice sa sn sc)) := ⟨far2 K4.out.1 (by omega), far2 K4.out.2.1 (by omega), far2 K4.out.2.2 (by omega)⟩; clear hq8 hb8) | (refine Apr.step_append_all _ (by rfl) _ _ 23 (by rfl) w1.heap.size 22 i0 (.slice none 0 0) 1 24 Try.underlying23 hi hz0 hz1 hz2 rfl (by decide) _ _ _ (by rfl) OA.out ta tn tc (lcells rs) (by rfl) HRL.out SA.out (one_ls rs) (by unfold maxLen; omega) (by omega) BA.out.size ?_; intro a2 c2 w2 hown2 hgrow2; have B2' : Hid (Below w1.heap.size w1 w2) := below_app BA.out OA.out hgrow2 BA.out.size (Nat.le_refl _); have O2 : Hid (w2.ownsRow w1.heap.size 22 1 (.slice a2 (0 + tn) c2) (0 + tn) ([] ++ lcells rs)) := hown2; have S2 : Hid (0 < sn → ∃ ad, sa = some ad ∧ ∀ j u, (lcells qs)[j]? = some u → w2.cell? (ad.add j) = some u) := news_ls (HS.out.below (Frame.next B1.out B2'.out B1.out.size)); have K2 : Hid (w2.cell? ⟨w.heap.size, 0, none⟩ = some (.slice ua un uc) ∧ w2.cell? ⟨w.heap.size, 1, none⟩ = some (.slice ta tn tc) ∧ w2.cell? ⟨w.heap.size + 1, 1, none⟩ = some (.slice sa sn sc)) := ⟨Frame.held_cell B2'.out D1.out.1, Frame.held_cell B2'.out D1.out.2.1, Frame.held_cell B2'.out D1.out.2.2⟩; clear hown2 hgrow2) | (refine Apr.step_append_all _ (by rfl) _ _ 23 (by rfl) w1.heap.size 22 i0 (.slice none 0 0) 1 24 Try.underlying23 hi hz0 hz1 hz2 rfl (by decide) _ _ _ (by rfl) O2.out sa sn sc (lcells qs) (by rfl) HQL.out S2.out (one_ls qs) (by unfold maxLen; omega) (by omega) B2'.out.size ?_; intro a3 c3 w3 hown3 hgrow3; have B3 : Hid (Below w1.heap.size w1 w3) := below_app B2'.out O2.out hgrow3 B2'.out.size (Nat.le_refl _); have O3 : Hid (w3.ownsRow w1.heap.size 22 1 (.slice a3 (tn + sn) c3) (tn + sn) (lcells (rs ++ qs))) := (by have := hown3; rw [Nat.zero_add, List.nil_append] at this; unfold lcells at *; rw [List.map_append]; exact this); have BB3 : Hid (Below w.heap.size w w3) := Frame.next B1.out B3.out B1.out.size; have HL3 : Hid (IsLs w3 a3 (tn + sn) c3 (rs ++ qs)) := isLs_outer O3.out (fun x hx => (List.mem_append.1 hx).elim (fun h => IsRow.below (HT.out.rows x h) BB3.out) (fun h => IsRow.below (HS.out.rows x h) BB3.out)); have K3 : Hid (w3.cell? ⟨w.heap.size, 0, none⟩ = some (.slice ua un uc) ∧ w3.cell? ⟨w.heap.size, 1, none⟩ = some (.slice ta tn tc) ∧ w3.cell? ⟨w.heap.size + 1, 1, none⟩ = some (.slice sa sn sc)) := ⟨Frame.held_cell B3.out D1.out.1, Frame.held_cell B3.out D1.out.2.1, Frame.held_cell B3.out D1.out.2.2⟩; have C3 : Hid (w3.cell? ⟨w.heap.size + 2, 0, none⟩ = some (.slice none 0 0) ∧ w3.cell? ⟨w.heap.size + 2, 1, none⟩ = some (.slice none 0 0) ∧ w3.frozen? ⟨w.heap.size + 2, 0, none⟩ = false ∧ w3.frozen? ⟨w.heap.size + 2, 1, none⟩ = false ∧ w.heap.size + 2 + 1 ≤ w3.heap.size) := told_cells C1.out B3.out; clear hown3 hgrow3))
    go_wp2
    refine bodyPost_ret (v := .tuple #[.agg #[.slice pa pn pc, .slice ya yn yc], .bool (tellG a.1 (a.2 ++ b.2))]) (by simp [results, Try.results8, go_sem, c0, c1]) rfl ?_
    rw [F.out.1, F.out.2]
    exact told_end (by omega) (by have := C3.out.2.2.2.2; omega) C3.out.2.2.2.2 Q8.out B8.out


end Go.Proofs.Yteihhpjneeaiaab.Sh
