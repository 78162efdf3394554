/-
  What holds in a relation: contract of the program's HoldsIn.
-/
import Derived.Test.YtekheacbmbbpmaaHia
import Derived.Sort.AtCall
namespace Go.Proofs.Ytekheacbmbbpmaa.Hib
open Go.RowKit
open Go.Proofs.Ytekheacbmbbpmaa.Frame Go.Proofs.Ytekheacbmbbpmaa.Mem Go.Proofs.Ytekheacbmbbpmaa.Ints Go.Proofs.Ytekheacbmbbpmaa.Kep Go.Proofs.Ytekheacbmbbpmaa.Lls Go.Proofs.Ytekheacbmbbpmaa.Rpu Go.Proofs.Ytekheacbmbbpmaa.Krl Go.Proofs.Ytekheacbmbbpmaa.Oa Go.Proofs.Ytekheacbmbbpmaa.Mis Go.Proofs.Ytekheacbmbbpmaa.Dls Go.Proofs.Ytekheacbmbbpmaa.Dlk Go.Proofs.Ytekheacbmbbpmaa.Hia
open Go.Proofs.Ytekheacbmbbpmaa.Rel hiding Ll
open Go.Proofs.Ytekheacbmbbpmaa.Cpu hiding Dp

theorem own_row {w : World} {base : Nat} {a : Option Addr} {n c : Nat} {zs : List Int} (h : w.ownsRow base 3 1 (.slice a n c) n (ints .i64 zs)) (hw : ∀ z ∈ zs, (Lit.int .i64 z).wf = true) : IsRow .i64 w a n c zs := by
  obtain ⟨a', c', e, hr⟩ := isRow_own h hw
  cases e
  exact hr

set_option maxRecDepth 8000 in
set_option maxHeartbeats 6400000 in
theorem impl_HoldsIn (u t fu tu : Value) (r : Rl) (d : Dp) (w : World) (h : QIs w u t r) (hd : EIs w fu tu d) :
    Calls Try.prog 15 #[.agg #[u, t], .agg #[fu, tu]] w fun e w' => e = .returned (.tuple #[.bool (holdV r d), .bool (holdG r d)]) ∧ Below w.heap.size w w' := by
  obtain ⟨⟨ua, un, uc, rfl, hu, hun⟩, ta, tn, tc, rs, rfl, ht, hrs, htt⟩ := h
  obtain ⟨⟨fa, fn, fc, rfl, hf, hfn⟩, ⟨ga, gn, gc, rfl, hg, hgn⟩⟩ := hd
  have b0 : Below w.heap.size w (w.alloc (.cells #[.slice ua un uc, .slice ta tn tc] 42)) := (Below.refl w.heap.size w).alloc (Nat.le_refl _) _
  have b1 : Below w.heap.size w ((w.alloc (.cells #[.slice ua un uc, .slice ta tn tc] 42)).alloc (.cells #[.slice fa fn fc, .slice ga gn gc] 36)) := b0.alloc (by simp) _
  have D0 : Hid ((((w.alloc (.cells #[.slice ua un uc, .slice ta tn tc] 42)).alloc (.cells #[.slice fa fn fc, .slice ga gn gc] 36)).cell? ⟨w.heap.size, 0, none⟩ = some (.slice ua un uc) ∧ ((w.alloc (.cells #[.slice ua un uc, .slice ta tn tc] 42)).alloc (.cells #[.slice fa fn fc, .slice ga gn gc] 36)).cell? ⟨w.heap.size, 1, none⟩ = some (.slice ta tn tc)) ∧ ((w.alloc (.cells #[.slice ua un uc, .slice ta tn tc] 42)).alloc (.cells #[.slice fa fn fc, .slice ga gn gc] 36)).cell? ⟨w.heap.size + 1, 0, none⟩ = some (.slice fa fn fc) ∧ ((w.alloc (.cells #[.slice ua un uc, .slice ta tn tc] 42)).alloc (.cells #[.slice fa fn fc, .slice ga gn gc] 36)).cell? ⟨w.heap.size + 1, 1, none⟩ = some (.slice ga gn gc)) := by
    refine ⟨⟨?_, ?_⟩, ?_, ?_⟩ <;> go_simp
  have HQ : Hid (QIs w (.slice ua un uc) (.slice ta tn tc) r) := ⟨⟨_, _, _, rfl, hu, hun⟩, _, _, _, rs, rfl, ht, hrs, htt⟩
  have HU : Hid (IsRow .i64 w ua un uc r.1) := hu
  have HT : Hid (IsLs w ta tn tc rs) := ht
  have HF : Hid (IsRow .i64 w fa fn fc d.1) := hf
  have HH : Hid (IsRow .i64 w ga gn gc d.2) := hg
  have HRS : Hid (lplain rs = r.2) := hrs
  have HUL : Hid (r.1.length = un) := hu.len
  have HTL : Hid (rs.length = tn) := ht.len
  have HFL : Hid (d.1.length = fn) := hf.len
  have HGL : Hid (d.2.length = gn) := hg.len
  clear b0 hu ht hf hg htt hrs
  go_enter Try.func15, Try.ntmps15
  go_wp2_with fail
  generalize ((w.alloc (.cells #[.slice ua un uc, .slice ta tn tc] 42)).alloc (.cells #[.slice fa fn fc, .slice ga gn gc] 36)) = W at b1 D0 ⊢
  have B0 : Hid (Below w.heap.size w W) := b1
  clear b1
  refine (Ob.impl_GoodRelation _ _ r _ (qIs_below HQ.out B0.out)).mono ?_
  rintro e w1 ⟨rfl, hb1⟩
  have B1 : Hid (Below w.heap.size w w1) := Frame.next B0.out hb1 B0.out.size
  obtain ⟨p0, p1⟩ := D0.out.1
  obtain ⟨p2, p3⟩ := D0.out.2
  have q0 := Frame.held_cell hb1 p0
  have q1 := Frame.held_cell hb1 p1
  have q2 := Frame.held_cell hb1 p2
  have q3 := Frame.held_cell hb1 p3
  clear hb1 p0 p1 p2 p3 D0
  cases hG : goodR r.1 r.2
  · have E : Hid (holdG r d = false) := by show _ = _; unfold holdG; rw [hG]; rfl
    have EV : Hid (holdV r d = false) := by show _ = _; unfold holdV; rw [E.out]; rfl
    clear hG
    go_wp2
    go_ret2
    exact ⟨by rw [E.out, EV.out]; rfl, B1.out⟩
  have GR : Hid (Rel.Good r.1 r.2) := good_iff.1 hG
  have HG : Hid (goodR r.1 r.2 = true) := hG
  clear hG
  go_wp2_with fail
  refine (areNamesIn _ _ _ _ _ r d.1 _ (qIs_below HQ.out B1.out) (IsRow.below HF.out B1.out) GR.out.upN).mono ?_
  rintro e w2 ⟨rfl, hb2⟩
  rw [names_sub GR.out]
  have B2 : Hid (Below w.heap.size w w2) := Frame.next B1.out hb2 B1.out.size
  have r0 := Frame.held_cell hb2 q0
  have r1 := Frame.held_cell hb2 q1
  have r2 := Frame.held_cell hb2 q2
  have r3 := Frame.held_cell hb2 q3
  clear hb2 q0 q1 q2 q3
  cases hS : subB r.1 d.1
  · have E : Hid (holdG r d = false) := by show _ = _; unfold holdG; rw [hS, Bool.and_false]; rfl
    have EV : Hid (holdV r d = false) := by show _ = _; unfold holdV; rw [E.out]; rfl
    clear hS
    go_wp2
    go_ret2
    exact ⟨by rw [E.out, EV.out]; rfl, B2.out⟩
  have HS : Hid (subB r.1 d.1 = true) := hS
  clear hS
  go_wp2_with fail
  refine (areNamesIn _ _ _ _ _ r d.2 _ (qIs_below HQ.out B2.out) (IsRow.below HH.out B2.out) GR.out.upN).mono ?_
  rintro e w3 ⟨rfl, hb3⟩
  rw [names_sub GR.out]
  have B3 : Hid (Below w.heap.size w w3) := Frame.next B2.out hb3 B2.out.size
  have s0 := Frame.held_cell hb3 r0
  have s1 := Frame.held_cell hb3 r1
  have s2 := Frame.held_cell hb3 r2
  have s3 := Frame.held_cell hb3 r3
  clear hb3 r0 r1 r2 r3
  cases hT : subB r.1 d.2
  · have E : Hid (holdG r d = false) := by show _ = _; unfold holdG; rw [hT, Bool.and_false]
    have EV : Hid (holdV r d = false) := by show _ = _; unfold holdV; rw [E.out]; rfl
    clear hT
    go_wp2
    go_ret2
    exact ⟨by rw [E.out, EV.out]; rfl, B3.out⟩
  have E : Hid (holdG r d = true) := by show _ = _; unfold holdG; rw [hT, HS.out, HG.out]; rfl
  have EV : Hid (holdV r d = holdsB r d) := by show _ = _; unfold holdV; rw [E.out]; rfl
  have HN : Hid (subB r.1 d.2 = true) := hT
  clear hT
  have hf6 : fn ≤ 6 := by have h1 := sub_len GR.out.upN HS.out; have h2 := GR.out.few; rw [HFL.out] at h1; omega
  have hg6 : gn ≤ 6 := by have h1 := sub_len GR.out.upN HN.out; have h2 := GR.out.few; rw [HGL.out] at h1; omega
  have hl1 : d.1.length ≤ 6 := by rw [HFL.out]; exact hf6
  have hl2 : d.2.length ≤ 6 := by rw [HGL.out]; exact hg6
  have hmost : tn ≤ 60 := by
    have h1 := GR.out.most
    rw [← HRS.out, Oa.lplain_length, HTL.out] at h1
    exact h1
  have hfew : un ≤ 6 := by have := GR.out.few; rw [HUL.out] at this; exact this
  have HPA : Hid (∀ p ∈ d.1.map (fun z => Lib.idxOf r.1 z), 0 ≤ p ∧ p < (un : Int)) := by rw [← HUL.out]; exact places_in (sub_mem HS.out)
  have HPB : Hid (∀ p ∈ d.2.map (fun z => Lib.idxOf r.1 z), 0 ≤ p ∧ p < (un : Int)) := by rw [← HUL.out]; exact places_in (sub_mem HN.out)
  have HU3 : Hid (IsRow .i64 w3 ua un uc r.1) := IsRow.below HU.out B3.out
  have HF3 : Hid (IsRow .i64 w3 fa fn fc d.1) := IsRow.below HF.out B3.out
  have HH3 : Hid (IsRow .i64 w3 ga gn gc d.2) := IsRow.below HH.out B3.out
  clear HS HN
  go_wp2_with fail
  go_region_held3 (fun w' => Below w3.heap.size w3 w' ∧ w'.cell? ⟨w.heap.size, 0, none⟩ = some (.slice ua un uc) ∧ w'.cell? ⟨w.heap.size, 1, none⟩ = some (.slice ta tn tc) ∧ w'.cell? ⟨w.heap.size + 1, 0, none⟩ = some (.slice fa fn fc) ∧ w'.cell? ⟨w.heap.size + 1, 1, none⟩ = some (.slice ga gn gc))
    (first | exact ⟨(Below.refl _ _).drew, s0, s1, s2, s3⟩ | with_reducible exact (fun kb => ⟨kb, Frame.held_cell kb s0, Frame.held_cell kb s1, Frame.held_cell kb s2, Frame.held_cell kb s3⟩) (Frame.held_next ‹Below w3.heap.size w3 _ ∧ _› hb4) | with_reducible exact (fun kb => ⟨kb, Frame.held_cell kb s0, Frame.held_cell kb s1, Frame.held_cell kb s2, Frame.held_cell kb s3⟩) (Frame.held_next ‹Below w3.heap.size w3 _ ∧ _› hb5))
    (first | (go_at_call_has 38 fc; refine (Ocp.impl_placesOf _ _ _ _ _ _ r.1 d.1 _ ?_ ?_ (by omega)).mono ?_; exact IsRow.below HU3.out (And.left ‹Below w3.heap.size w3 _ ∧ _›); exact IsRow.below HF3.out (And.left ‹Below w3.heap.size w3 _ ∧ _›); rintro e w4 ⟨rfl, ho4, hb4⟩) | (go_at_call_has 38 gc; refine (Ocp.impl_placesOf _ _ _ _ _ _ r.1 d.2 _ ?_ ?_ (by omega)).mono ?_; exact IsRow.below HU3.out (And.left ‹Below w3.heap.size w3 _ ∧ _›); exact IsRow.below HH3.out (And.left ‹Below w3.heap.size w3 _ ∧ _›); rintro e w5 ⟨rfl, ho5, hb5⟩))
  obtain ⟨k5, c0, c1, c2, c3⟩ := ‹Below w3.heap.size w3 w5 ∧ _›
  have RA : Hid (IsRow .i64 w5 _ _ _ (d.1.map fun z => Lib.idxOf r.1 z)) := IsRow.below (own_row ho4 (fun p hp => by have := HPA.out p hp; exact int_wf p (by omega) (by omega))) hb5
  have RB : Hid (IsRow .i64 w5 _ _ _ (d.2.map fun z => Lib.idxOf r.1 z)) := own_row ho5 (fun p hp => by have := HPB.out p hp; exact int_wf p (by omega) (by omega))
  have B5 : Hid (Below w.heap.size w w5) := Frame.next B3.out k5 B3.out.size
  have HT5 : Hid (IsLs w5 ta tn tc rs) := HT.out.below B5.out
  have HR2 : Hid (∀ k, k < tn → (r.2.getD k []).length = un) := fun k hk => by
    rw [← HUL.out]
    exact GR.out.wide _ (Ob.getD_mem_l (by rw [← HRS.out, Oa.lplain_length, HTL.out]; exact hk))
  have HRL : Hid (r.2.length = tn) := by show _ = _; rw [← HRS.out, Oa.lplain_length, HTL.out]
  have hgd : Try.prog.eqGuardType Try.prog.depth 72 = false := by kernel_rfl
  have htc : tn ≤ tc := HT5.out.fits
  have C1 : Hid (w5.cell? ⟨w.heap.size, 1, none⟩ = some (.slice ta tn tc)) := c1
  clear ho4 ho5 hb4 hb5 k5 c0 c2 c3 s0 s1 s2 s3 HU HF HH HU3 HF3 HH3 HT B3 B2 B1 B0 HQ
  go_wp2_with fail
  clear c1
  go_loopw [42] (fun i wr => ∃ k : Nat, k ≤ tn ∧ i = .int .i64 k ∧ toB r d k = true ∧ Below w5.heap.size w5 wr) (fun i _ => tn - (intOf i).toNat)
  case atStart => exact ⟨0, Nat.zero_le _, rfl, rfl, Below.refl _ _⟩
  case round =>
    obtain ⟨k, hk, rfl, hto, hnx⟩ := hrel
    have HTO : Hid (toB r d k = true) := hto
    have HNX : Hid (Below w5.heap.size w5 wr) := hnx
    clear hto
    by_cases hlt : k < tn
    · obtain ⟨tb, tof, rfl, hbl, hc⟩ := HT5.out.cells (by omega)
      have HC : Hid (∀ i, i < tn → w5.cell? ⟨tb, tof + i, none⟩ = some (.slice (rs.getD i ld).a (rs.getD i ld).n (rs.getD i ld).c)) := hc
      have kl : k < rs.length := by rw [HTL.out]; exact hlt
      have hck : wr.cell? ⟨tb, tof + k, none⟩ = some (.slice (rs.getD k ld).a (rs.getD k ld).n (rs.getD k ld).c) := by rw [hnx.cell (p := ⟨tb, tof + k, none⟩) hbl]; exact hc k hlt
      have hrow := HT5.out.rows _ (getD_mem_ld kl)
      have hx := lplain_get rs k kl
      generalize rs.getD k ld = x at hck hrow hx
      obtain ⟨xa, xn, xc, xs⟩ := x
      simp only at hck hrow hx
      have HX : Hid (r.2.getD k [] = xs) := by show _ = _; rw [← HRS.out]; exact hx
      have HRX : Hid (IsRow .i64 w5 xa xn xc xs) := hrow
      have hxn : xn = un := by rw [← hrow.len, ← HX.out]; exact HR2.out k hlt
      subst hxn
      have e1 : wr.cell? ⟨w.heap.size, 1, none⟩ = some (.slice (some ⟨tb, tof, none⟩) tn tc) := Frame.held_cell hnx C1.out
      have hktc : (k : Int) ≤ (tc : Int) := by omega
      clear hc hrow hx hnx
      go_wp2_with fail
      clear hck e1
      go_loopw [52] (fun j wq => ∃ l : Nat, l ≤ k ∧ j = .int .i64 l ∧ rowB r d k l = true ∧ Below w5.heap.size w5 wq) (fun j _ => k - (intOf j).toNat)
      case atStart => exact ⟨0, Nat.zero_le _, rfl, rfl, HNX.out⟩
      case round =>
        rename World => wq
        obtain ⟨l, hl, rfl, hrw, hq⟩ := hrel
        have HRW : Hid (rowB r d k l = true) := hrw
        have HNQ : Hid (Below w5.heap.size w5 wq) := hq
        clear hrw
        by_cases hlt2 : l < k
        · have ll : l < rs.length := by rw [HTL.out]; omega
          have hcl : wq.cell? ⟨tb, tof + l, none⟩ = some (.slice (rs.getD l ld).a (rs.getD l ld).n (rs.getD l ld).c) := by rw [hq.cell (p := ⟨tb, tof + l, none⟩) hbl]; exact HC.out l (by omega)
          have hrow := HT5.out.rows _ (getD_mem_ld ll)
          have hy := lplain_get rs l ll
          generalize rs.getD l ld = y at hcl hrow hy
          obtain ⟨ya, yn, yc, ys⟩ := y
          simp only at hcl hrow hy
          have HY : Hid (r.2.getD l [] = ys) := by show _ = _; rw [← HRS.out]; exact hy
          have HRY : Hid (IsRow .i64 w5 ya yn yc ys) := hrow
          have hyn : yn = xn := by rw [← hrow.len, ← HY.out]; exact HR2.out l (by omega)
          subst hyn
          have HPE : Hid (pairB r d (r.2.getD k []) (r.2.getD l []) = (!(decide (pick r.1 xs d.1 = pick r.1 ys d.1)) || decide (pick r.1 xs d.2 = pick r.1 ys d.2))) := by show _ = _; unfold pairB; rw [HX.out, HY.out]
          have EQ := eql_ns (numsAt xs (d.1.map fun z => Lib.idxOf r.1 z)) (numsAt ys (d.1.map fun z => Lib.idxOf r.1 z))
          have NE := neq_ns (numsAt xs (d.2.map fun z => Lib.idxOf r.1 z)) (numsAt ys (d.2.map fun z => Lib.idxOf r.1 z))
          simp only [nums_pick r.1 xs ys hl1] at EQ
          simp only [nums_pick r.1 xs ys hl2] at NE
          clear hrow hy hq
          go_wp2_with fail
          refine (numbersAt _ _ _ _ _ _ xs (d.1.map fun z => Lib.idxOf r.1 z) _ (IsRow.below HRX.out HNQ.out) (IsRow.below RA.out HNQ.out) hf6 HPA.out).mono ?_
          rintro e v1 ⟨rfl, hv1⟩
          unfold nsv
          have N1 : Hid (Below w5.heap.size w5 v1) := Frame.next HNQ.out hv1 HNQ.out.size
          clear hv1 hcl
          go_wp2_with fail
          refine (numbersAt _ _ _ _ _ _ ys (d.1.map fun z => Lib.idxOf r.1 z) _ (IsRow.below HRY.out N1.out) (IsRow.below RA.out N1.out) hf6 HPA.out).mono ?_
          rintro e v2 ⟨rfl, hv2⟩
          unfold nsv
          have N2 : Hid (Below w5.heap.size w5 v2) := Frame.next N1.out hv2 N1.out.size
          clear hv2
          cases hb : decide (pick r.1 xs d.1 = pick r.1 ys d.1)
          · rw [hb] at EQ HPE
            have F : Hid (rowB r d k (l + 1) = true) := row_succ HRW.out (by rw [HPE.out]; rfl)
            clear hb NE HPE
            go_wp2_with fail
            go_roundw
            case rel => exact ⟨l + 1, by omega, by go_num, F.out, N2.out⟩
            case measure => simp [intOf]; omega
          · rw [hb] at EQ HPE
            clear hb
            go_wp2_with fail
            refine (numbersAt _ _ _ _ _ _ xs (d.2.map fun z => Lib.idxOf r.1 z) _ (IsRow.below HRX.out N2.out) (IsRow.below RB.out N2.out) hg6 HPB.out).mono ?_
            rintro e v3 ⟨rfl, hv3⟩
            unfold nsv
            have N3 : Hid (Below w5.heap.size w5 v3) := Frame.next N2.out hv3 N2.out.size
            clear hv3 EQ
            go_wp2_with fail
            refine (numbersAt _ _ _ _ _ _ ys (d.2.map fun z => Lib.idxOf r.1 z) _ (IsRow.below HRY.out N3.out) (IsRow.below RB.out N3.out) hg6 HPB.out).mono ?_
            rintro e v4 ⟨rfl, hv4⟩
            unfold nsv
            have N4 : Hid (Below w5.heap.size w5 v4) := Frame.next N3.out hv4 N3.out.size
            have B9 : Hid (Below w.heap.size w v4) := Frame.next B5.out N4.out B5.out.size
            clear hv4
            cases hb : decide (pick r.1 xs d.2 = pick r.1 ys d.2)
            · rw [hb] at NE HPE
              have F : Hid (holdsB r d = false) := holds_no (i := k) (j := l) (by rw [HRL.out]; exact hlt) hlt2 HPE.out
              clear hb HPE
              go_wp2_with fail
              go_ret2
              exact ⟨by rw [E.out, EV.out, F.out]; rfl, B9.out⟩
            · rw [hb] at NE HPE
              have F : Hid (rowB r d k (l + 1) = true) := row_succ HRW.out (by rw [HPE.out]; rfl)
              clear hb HPE
              go_wp2_with fail
              go_roundw
              case rel => exact ⟨l + 1, by omega, by go_num, F.out, N4.out⟩
              case measure => simp [intOf]; omega
        · obtain rfl : l = k := by omega
          have F : Hid (toB r d (l + 1) = true) := to_succ HTO.out HRW.out
          clear hq
          go_wp2_with fail
          go_roundw
          case rel => exact ⟨l + 1, by omega, by go_num, F.out, HNQ.out⟩
          case measure => simp [intOf]; omega
    · obtain rfl : k = tn := by omega
      have F : Hid (holdsB r d = true) := by have := HTO.out; rw [← HRL.out] at this; exact this
      have B9 : Hid (Below w.heap.size w wr) := Frame.next B5.out hnx B5.out.size
      clear hnx
      go_wp2_with fail
      go_ret2
      exact ⟨by rw [E.out, EV.out, F.out]; rfl, B9.out⟩


end Go.Proofs.Ytekheacbmbbpmaa.Hib
