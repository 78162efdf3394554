/-
  Contracts of the model's l3Two and SameTuples.
-/
import Derived.Test.YteihhpjneeaiaabSb
import Derived.Test.YteihhpjneeaiaabTold
namespace Go.Proofs.Yteihhpjneeaiaab.Sf
open Go.RowKit
open Go.Proofs.Yteihhpjneeaiaab.Frame Go.Proofs.Yteihhpjneeaiaab.Mem Go.Proofs.Yteihhpjneeaiaab.Ints Go.Proofs.Yteihhpjneeaiaab.Kep Go.Proofs.Yteihhpjneeaiaab.Lls Go.Proofs.Yteihhpjneeaiaab.Rpu Go.Proofs.Yteihhpjneeaiaab.Krl Go.Proofs.Yteihhpjneeaiaab.Sa Go.Proofs.Yteihhpjneeaiaab.Sb Go.Proofs.Yteihhpjneeaiaab.Rel

/-- Two relations in boxes: what is read of them later. -/
theorem start_two {w w1 : World} {ua ta va sa : Option Addr} {un uc tn tc vn vc sn sc : Nat} (hb : Below ((w.alloc (.cells #[.slice ua un uc, .slice ta tn tc] 27)).alloc (.cells #[.slice va vn vc, .slice sa sn sc] 27)).heap.size ((w.alloc (.cells #[.slice ua un uc, .slice ta tn tc] 27)).alloc (.cells #[.slice va vn vc, .slice sa sn sc] 27)) w1) :
    (w1.cell? ⟨w.heap.size, 0, none⟩ = some (.slice ua un uc) ∧ w1.cell? ⟨w.heap.size, 1, none⟩ = some (.slice ta tn tc) ∧ w1.cell? ⟨w.heap.size + 1, 0, none⟩ = some (.slice va vn vc) ∧ w1.cell? ⟨w.heap.size + 1, 1, none⟩ = some (.slice sa sn sc)) ∧ Below w.heap.size w w1 := by
  have hs2 : ((w.alloc (.cells #[.slice ua un uc, .slice ta tn tc] 27)).alloc (.cells #[.slice va vn vc, .slice sa sn sc] 27)).heap.size = w.heap.size + 2 := by simp
  have B2 : Below w.heap.size w ((w.alloc (.cells #[.slice ua un uc, .slice ta tn tc] 27)).alloc (.cells #[.slice va vn vc, .slice sa sn sc] 27)) := ((Below.refl _ _).alloc (Nat.le_refl _) _).alloc (by simp) _
  have bc := Frame.bcell hb
  rw [hs2] at bc
  refine ⟨⟨?_, ?_, ?_, ?_⟩, Frame.next B2 hb B2.size⟩
  · rw [bc.1 _ _ (by omega)]; go_simp
  · rw [bc.1 _ _ (by omega)]; go_simp
  · rw [bc.1 _ _ (by omega)]; go_simp
  · rw [bc.1 _ _ (by omega)]; go_simp
theorem two_kept {w w1 w2 : World} {x0 x1 y0 y1 : Value} (h : w1.cell? ⟨w.heap.size, 0, none⟩ = some x0 ∧ w1.cell? ⟨w.heap.size, 1, none⟩ = some x1 ∧ w1.cell? ⟨w.heap.size + 1, 0, none⟩ = some y0 ∧ w1.cell? ⟨w.heap.size + 1, 1, none⟩ = some y1) (hb : Below w1.heap.size w1 w2) : w2.cell? ⟨w.heap.size, 0, none⟩ = some x0 ∧ w2.cell? ⟨w.heap.size, 1, none⟩ = some x1 ∧ w2.cell? ⟨w.heap.size + 1, 0, none⟩ = some y0 ∧ w2.cell? ⟨w.heap.size + 1, 1, none⟩ = some y1 :=
  ⟨Frame.held_cell hb h.1, Frame.held_cell hb h.2.1, Frame.held_cell hb h.2.2.1, Frame.held_cell hb h.2.2.2⟩

set_option maxRecDepth 4000 in
set_option maxHeartbeats 1600000 in
theorem spec_l3Two (u t v s : Value) (a b : Rl) (w : World) (h1 : QIs w u t a) (h2 : QIs w v s b) : Calls Try.prog 22 #[.agg #[u, t], .agg #[v, s]] w fun e w' => e = .returned (.bool (twoB a b)) ∧ Below w.heap.size w w' := by
  have H1 : Hid (QIs w u t a) := h1
  have H2 : Hid (QIs w v s b) := h2
  obtain ⟨⟨ua, un, uc, rfl, hu, hun⟩, ta, tn, tc, rs, rfl, ht, hrs, htt⟩ := h1
  obtain ⟨⟨va, vn, vc, rfl, hv, hvn⟩, sa, sn, sc, qs, rfl, hs, hqs, hss⟩ := h2
  have HU : Hid (IsRow .i64 w ua un uc a.1) := hu
  have HV : Hid (IsRow .i64 w va vn vc b.1) := hv
  have B2 : Hid (Below w.heap.size w ((w.alloc (.cells #[.slice ua un uc, .slice ta tn tc] 27)).alloc (.cells #[.slice va vn vc, .slice sa sn sc] 27))) := ((Below.refl _ _).alloc (Nat.le_refl _) _).alloc (by simp) _
  clear hu ht hrs htt hv hs hqs hss
  cases hg : goodR a.1 a.2
  · have HG : Hid (goodR a.1 a.2 = false) := hg
    have F : Hid (twoB a b = false) := by show _ = _; unfold twoB; rw [hg]; rfl
    clear hg
    go_enter Try.func22, Try.ntmps22
    go_wp2_with fail
    refine (spec_GoodRelation _ _ a _ (qIs_below H1.out B2.out)).mono ?_
    rintro e w1 ⟨rfl, hb1⟩
    rw [HG.out]
    have B1 : Hid (Below w.heap.size w w1) := (start_two hb1).2
    clear hb1
    go_wp2
    go_ret
    exact ⟨ret_bool F.out.symm, B1.out⟩
  · have HG : Hid (goodR a.1 a.2 = true) := hg
    cases hk : goodR b.1 b.2
    · have HK : Hid (goodR b.1 b.2 = false) := hk
      have F : Hid (twoB a b = false) := by show _ = _; unfold twoB; rw [hk]; simp
      clear hg hk
      go_enter Try.func22, Try.ntmps22
      go_wp2_with fail
      refine (spec_GoodRelation _ _ a _ (qIs_below H1.out B2.out)).mono ?_
      rintro e w1 ⟨rfl, hb1⟩
      rw [HG.out]
      obtain ⟨⟨d0, d1, d2, d3⟩, b1⟩ := start_two hb1
      have B1 : Hid (Below w.heap.size w w1) := b1
      clear hb1 b1
      go_wp2_with fail
      refine (spec_GoodRelation _ _ b _ (qIs_below H2.out B1.out)).mono ?_
      rintro e w3 ⟨rfl, hb3⟩
      rw [HK.out]
      have B3 : Hid (Below w.heap.size w w3) := Frame.next B1.out hb3 B1.out.size
      clear hb3 d0 d1 d2 d3
      go_wp2
      go_ret
      exact ⟨ret_bool F.out.symm, B3.out⟩
    · have HK : Hid (goodR b.1 b.2 = true) := hk
      have F : Hid (twoB a b = decide (a.1 = b.1)) := by show _ = _; unfold twoB; rw [hg, hk]; rfl
      clear hg hk
      go_enter Try.func22, Try.ntmps22
      go_wp2_with fail
      refine (spec_GoodRelation _ _ a _ (qIs_below H1.out B2.out)).mono ?_
      rintro e w1 ⟨rfl, hb1⟩
      rw [HG.out]
      obtain ⟨⟨d0, d1, d2, d3⟩, b1⟩ := start_two hb1
      have C1 : Hid (w1.cell? ⟨w.heap.size, 0, none⟩ = some (.slice ua un uc) ∧ w1.cell? ⟨w.heap.size, 1, none⟩ = some (.slice ta tn tc) ∧ w1.cell? ⟨w.heap.size + 1, 0, none⟩ = some (.slice va vn vc) ∧ w1.cell? ⟨w.heap.size + 1, 1, none⟩ = some (.slice sa sn sc)) := ⟨d0, d1, d2, d3⟩
      have B1 : Hid (Below w.heap.size w w1) := b1
      clear hb1 b1
      go_wp2_with fail
      refine (spec_GoodRelation _ _ b _ (qIs_below H2.out B1.out)).mono ?_
      rintro e w3 ⟨rfl, hb3⟩
      rw [HK.out]
      have B3 : Hid (Below w.heap.size w w3) := Frame.next B1.out hb3 B1.out.size
      clear d0 d1 d2 d3
      obtain ⟨d0, d1, d2, d3⟩ := two_kept C1.out hb3
      clear hb3
      go_wp2_with fail
      refine (spec_l1Same _ _ _ _ _ _ a.1 b.1 _ (IsRow.below HU.out B3.out) (IsRow.below HV.out B3.out)).mono ?_
      rintro e w4 ⟨rfl, hb4⟩
      have B4 : Hid (Below w.heap.size w w4) := Frame.next B3.out hb4 B3.out.size
      clear hb4 d0 d1 d2 d3
      go_wp2
      go_ret
      exact ⟨ret_bool F.out.symm, B4.out⟩

theorem ne_long {xs ys : List LV} {n m : Nat} (hx : xs.length = n) (hy : ys.length = m) (h : n ≠ m) : lplain xs ≠ lplain ys := fun e => h (by rw [← hx, ← hy, ← Sb.lplain_length xs, ← Sb.lplain_length ys, e])

set_option maxRecDepth 4000 in
set_option maxHeartbeats 1600000 in
theorem spec_SameTuples (u t v s : Value) (a b : Rl) (w : World) (h1 : QIs w u t a) (h2 : QIs w v s b) : Calls Try.prog 18 #[.agg #[u, t], .agg #[v, s]] w fun e w' => e = .returned (.tuple #[.bool (sameV a b), .bool (joinB a b)]) ∧ Below w.heap.size w w' := by
  have H1 : Hid (QIs w u t a) := h1
  have H2 : Hid (QIs w v s b) := h2
  obtain ⟨⟨ua, un, uc, rfl, hu, hun⟩, ta, tn, tc, rs, rfl, ht, hrs, htt⟩ := h1
  obtain ⟨⟨va, vn, vc, rfl, hv, hvn⟩, sa, sn, sc, qs, rfl, hs, hqs, hss⟩ := h2
  have HU : Hid (IsRow .i64 w ua un uc a.1) := hu
  have HV : Hid (IsRow .i64 w va vn vc b.1) := hv
  have HT : Hid (IsLs w ta tn tc rs) := ht
  have HS : Hid (IsLs w sa sn sc qs) := hs
  have HRS : Hid (lplain rs = a.2) := hrs
  have HQS : Hid (lplain qs = b.2) := hqs
  have LR : Hid (rs.length = tn) := ht.len
  have LQ : Hid (qs.length = sn) := hs.len
  have htn : tn ≤ 1048576 := by have := (Knl.small_ls htt).1; rw [ht.len] at this; exact this
  have hsn : sn ≤ 1048576 := by have := (Knl.small_ls hss).1; rw [hs.len] at this; exact this
  have B2 : Hid (Below w.heap.size w ((w.alloc (.cells #[.slice ua un uc, .slice ta tn tc] 27)).alloc (.cells #[.slice va vn vc, .slice sa sn sc] 27))) := ((Below.refl _ _).alloc (Nat.le_refl _) _).alloc (by simp) _
  clear hu ht hrs htt hv hs hqs hss
  cases hg : goodR a.1 a.2
  · have HG : Hid (goodR a.1 a.2 = false) := hg
    have F : Hid (sameV a b = false ∧ joinB a b = false) := by show _ ∧ _; unfold sameV joinB; rw [hg]; exact ⟨rfl, rfl⟩
    clear hg
    go_enter Try.func18, Try.ntmps18
    go_wp2_with fail
    refine (spec_GoodRelation _ _ a _ (qIs_below H1.out B2.out)).mono ?_
    rintro e w1 ⟨rfl, hb1⟩
    rw [HG.out]
    have B1 : Hid (Below w.heap.size w w1) := (start_two hb1).2
    clear hb1
    go_wp2
    go_ret2
    rw [F.out.1, F.out.2]
    exact ⟨rfl, B1.out⟩
  · have HG : Hid (goodR a.1 a.2 = true) := hg
    cases hk : goodR b.1 b.2
    · have HK : Hid (goodR b.1 b.2 = false) := hk
      have F : Hid (sameV a b = false ∧ joinB a b = false) := by show _ ∧ _; unfold sameV joinB; rw [hg, hk]; exact ⟨rfl, rfl⟩
      clear hg hk
      go_enter Try.func18, Try.ntmps18
      go_wp2_with fail
      refine (spec_GoodRelation _ _ a _ (qIs_below H1.out B2.out)).mono ?_
      rintro e w1 ⟨rfl, hb1⟩
      rw [HG.out]
      obtain ⟨⟨d0, d1, d2, d3⟩, b1⟩ := start_two hb1
      have B1 : Hid (Below w.heap.size w w1) := b1
      clear hb1 b1
      go_wp2_with fail
      refine (spec_GoodRelation _ _ b _ (qIs_below H2.out B1.out)).mono ?_
      rintro e w3 ⟨rfl, hb3⟩
      rw [HK.out]
      have B3 : Hid (Below w.heap.size w w3) := Frame.next B1.out hb3 B1.out.size
      clear hb3 d0 d1 d2 d3
      go_wp2
      go_ret2
      rw [F.out.1, F.out.2]
      exact ⟨rfl, B3.out⟩
    · have HK : Hid (goodR b.1 b.2 = true) := hk
      have F : Hid (sameV a b = (decide (a.1 = b.1) && decide (lplain rs = lplain qs)) ∧ joinB a b = true) := by show _ ∧ _; unfold sameV joinB; rw [hg, hk, HRS.out, HQS.out]; exact ⟨rfl, rfl⟩
      clear hg hk
      cases hd : decide (a.1 = b.1)
      all_goals
        have HD : Hid (decide (a.1 = b.1) = _) := hd
        clear hd
        go_enter Try.func18, Try.ntmps18
        go_wp2_with fail
        refine (spec_GoodRelation _ _ a _ (qIs_below H1.out B2.out)).mono ?_
        rintro e w1 ⟨rfl, hb1⟩
        rw [HG.out]
        obtain ⟨⟨d0, d1, d2, d3⟩, b1⟩ := start_two hb1
        have C1 : Hid (w1.cell? ⟨w.heap.size, 0, none⟩ = some (.slice ua un uc) ∧ w1.cell? ⟨w.heap.size, 1, none⟩ = some (.slice ta tn tc) ∧ w1.cell? ⟨w.heap.size + 1, 0, none⟩ = some (.slice va vn vc) ∧ w1.cell? ⟨w.heap.size + 1, 1, none⟩ = some (.slice sa sn sc)) := ⟨d0, d1, d2, d3⟩
        have B1 : Hid (Below w.heap.size w w1) := b1
        clear hb1 b1
        go_wp2_with fail
        refine (spec_GoodRelation _ _ b _ (qIs_below H2.out B1.out)).mono ?_
        rintro e w3 ⟨rfl, hb3⟩
        rw [HK.out]
        have B3 : Hid (Below w.heap.size w w3) := Frame.next B1.out hb3 B1.out.size
        clear d0 d1 d2 d3
        obtain ⟨d0, d1, d2, d3⟩ := two_kept C1.out hb3
        have C3 : Hid (w3.cell? ⟨w.heap.size, 0, none⟩ = some (.slice ua un uc) ∧ w3.cell? ⟨w.heap.size, 1, none⟩ = some (.slice ta tn tc) ∧ w3.cell? ⟨w.heap.size + 1, 0, none⟩ = some (.slice va vn vc) ∧ w3.cell? ⟨w.heap.size + 1, 1, none⟩ = some (.slice sa sn sc)) := ⟨d0, d1, d2, d3⟩
        clear hb3
        go_wp2_with fail
        refine (spec_l1Same _ _ _ _ _ _ a.1 b.1 _ (IsRow.below HU.out B3.out) (IsRow.below HV.out B3.out)).mono ?_
        rintro e w4 ⟨rfl, hb4⟩
        rw [HD.out]
        have B4 : Hid (Below w.heap.size w w4) := Frame.next B3.out hb4 B3.out.size
        clear d0 d1 d2 d3
        obtain ⟨d0, d1, d2, d3⟩ := two_kept C3.out hb4
        clear hb4
      · go_wp2
        refine wp_loop_rounds 1 ?_
        rw [rounds_succ]
        go_wp2
        go_ret2
        rw [F.out.1, F.out.2, HD.out]
        exact ⟨rfl, B4.out⟩
      · by_cases hnm : tn = sn
        · subst hnm
          have hb0 : ((tn : Int) == (tn : Int)) = true := by rw [beq_iff_eq]
          have C4 : Hid (w4.cell? ⟨w.heap.size, 1, none⟩ = some (.slice ta tn tc) ∧ w4.cell? ⟨w.heap.size + 1, 1, none⟩ = some (.slice sa tn sc)) := ⟨d1, d3⟩
          go_wp2_with fail
          clear d0 d1 d2 d3
          go_loopw [6, 7] (fun sv iv wr => ∃ (k : Nat) (bb : Bool), sv = .bool bb ∧ iv = .int .i64 k ∧ k ≤ tn ∧ (bb = true → lplain (rs.take k) = lplain (qs.take k)) ∧ (bb = false → lplain rs ≠ lplain qs) ∧ Below w4.heap.size w4 wr) (fun _ iv _ => tn - (intOf iv).toNat)
          case atStart => exact ⟨0, true, rfl, rfl, Nat.zero_le _, fun _ => rfl, fun h => absurd h (by simp), Below.refl _ _⟩
          case round =>
            obtain ⟨k, bb, rfl, rfl, hk, h1, h2, hnx⟩ := hrel
            have HN : Hid (Below w4.heap.size w4 wr) := hnx
            have HBW : Hid (Below w.heap.size w wr) := Frame.next B4.out hnx B4.out.size
            have q1 : wr.cell? ⟨w.heap.size, 1, none⟩ = some (.slice ta tn tc) := Frame.held_cell hnx C4.out.1
            have q3 : wr.cell? ⟨w.heap.size + 1, 1, none⟩ = some (.slice sa tn sc) := Frame.held_cell hnx C4.out.2
            cases bb
            · have HF : Hid (decide (lplain rs = lplain qs) = false) := decide_eq_false (h2 rfl)
              clear h1 h2 hnx
              go_wp2
              go_ret2
              rw [F.out.1, F.out.2, HD.out, HF.out]
              exact ⟨rfl, HBW.out⟩
            · have Heq : Hid (lplain (rs.take k) = lplain (qs.take k)) := h1 rfl
              clear h1 h2
              by_cases hlt : k < tn
              · obtain ⟨b1, o1, rfl, hb1, hc1⟩ := HT.out.cells (by omega)
                obtain ⟨b2, o2, rfl, hb2, hc2⟩ := HS.out.cells (by omega)
                have kx : k < rs.length := by rw [LR.out]; exact hlt
                have ky : k < qs.length := by rw [LQ.out]; exact hlt
                have p1 : wr.cell? ⟨b1, o1 + k, none⟩ = some (.slice (rs.getD k ld).a (rs.getD k ld).n (rs.getD k ld).c) := by rw [HBW.out.cell (p := ⟨b1, o1 + k, none⟩) hb1]; exact hc1 k hlt
                have p2 : wr.cell? ⟨b2, o2 + k, none⟩ = some (.slice (qs.getD k ld).a (qs.getD k ld).n (qs.getD k ld).c) := by rw [HBW.out.cell (p := ⟨b2, o2 + k, none⟩) hb2]; exact hc2 k hlt
                have r1 := HT.out.rows _ (getD_mem_ld kx)
                have r2 := HS.out.rows _ (getD_mem_ld ky)
                have HXY : Hid (((rs.getD k ld).zs = (qs.getD k ld).zs → lplain (rs.take (k + 1)) = lplain (qs.take (k + 1))) ∧ ((rs.getD k ld).zs ≠ (qs.getD k ld).zs → lplain rs ≠ lplain qs)) :=
                  ⟨fun e => eq_take_ld rs qs k kx ky Heq.out e, fun e h => e (by rw [← lplain_get rs k kx, ← lplain_get qs k ky, h])⟩
                generalize rs.getD k ld = x at p1 r1 HXY
                generalize qs.getD k ld = y at p2 r2 HXY
                obtain ⟨xa, xn, xc, xv⟩ := x
                obtain ⟨ya, yn, yc, yv⟩ := y
                simp only at p1 p2 r1 r2
                have R1 : Hid (IsRow .i64 w xa xn xc xv) := r1
                have R2 : Hid (IsRow .i64 w ya yn yc yv) := r2
                have HFF : Hid ((xv = yv → lplain (rs.take (k + 1)) = lplain (qs.take (k + 1))) ∧ (xv ≠ yv → lplain rs ≠ lplain qs)) := HXY.out
                have hkI : decide ((k : Int) < (tn : Int)) = true := decide_eq_true (by omega)
                have hk0 : (0 : Int) ≤ (k : Int) := by omega
                have hk1 : (k : Int) < (tn : Int) := by omega
                clear hc1 hc2 r1 r2 HXY kx ky hnx
                go_wp2_with fail
                go_region_held3 (fun w' => Below wr.heap.size wr w' ∧ w'.cell? ⟨b1, o1 + k, none⟩ = some (.slice xa xn xc) ∧ w'.cell? ⟨b2, o2 + k, none⟩ = some (.slice ya yn yc) ∧ w'.cell? ⟨w.heap.size, 1, none⟩ = some (.slice (some ⟨b1, o1, none⟩) tn tc) ∧ w'.cell? ⟨w.heap.size + 1, 1, none⟩ = some (.slice (some ⟨b2, o2, none⟩) tn sc))
                  (first | exact ⟨(Below.refl _ _).drew, p1, p2, q1, q3⟩ | exact (fun kb => ⟨kb, Frame.held_cell kb p1, Frame.held_cell kb p2, Frame.held_cell kb q1, Frame.held_cell kb q3⟩) (Frame.held_next ‹Below wr.heap.size wr _ ∧ _› hb))
                  (first | (go_at_call 52; refine (spec_l1Same _ _ _ _ _ _ xv yv _ ?_ ?_).mono ?_; exact IsRow.below R1.out (Frame.next HBW.out (And.left ‹Below wr.heap.size wr _ ∧ _›) HBW.out.size); exact IsRow.below R2.out (Frame.next HBW.out (And.left ‹Below wr.heap.size wr _ ∧ _›) HBW.out.size); rintro e w5 ⟨rfl, hb⟩))
                have N5 : Hid (Below w4.heap.size w4 w5) := Frame.next HN.out (And.left ‹Below wr.heap.size wr _ ∧ _›) HN.out.size
                clear p1 p2 hb
                go_wp2
                go_roundw
                case rel => exact ⟨k + 1, decide (xv = yv), rfl, by go_num, by omega, fun h => HFF.out.1 (of_decide_eq_true h), fun h => HFF.out.2 (of_decide_eq_false h), N5.out⟩
                case measure => simp [intOf]; omega
              · have HF : Hid (decide (lplain rs = lplain qs) = true) := decide_eq_true (by
                  have h := Heq.out
                  rwa [List.take_of_length_le (by rw [LR.out]; omega), List.take_of_length_le (by rw [LQ.out]; omega)] at h)
                have hkI : decide ((k : Int) < (tn : Int)) = false := decide_eq_false (by omega)
                clear hnx
                go_wp2
                go_ret2
                rw [F.out.1, F.out.2, HD.out, HF.out]
                exact ⟨rfl, HBW.out⟩
        · have hb0 : ((tn : Int) == (sn : Int)) = false := by rw [beq_eq_false_iff_ne]; omega
          have HF : Hid (decide (lplain rs = lplain qs) = false) := decide_eq_false (ne_long LR.out LQ.out hnm)
          go_wp2
          refine wp_loop_rounds 1 ?_
          rw [rounds_succ]
          go_wp2
          go_ret2
          rw [F.out.1, F.out.2, HD.out, HF.out]
          exact ⟨rfl, B4.out⟩


end Go.Proofs.Yteihhpjneeaiaab.Sf
