/-
  What holds in a relation: contracts of the model's l5Holds and HoldsIn.
-/
import Derived.Test.YtekheacbmbbpmaaHib
import Derived.Test.YtekheacbmbbpmaaSb
import Derived.Test.YtekheacbmbbpmaaSc
namespace Go.Proofs.Ytekheacbmbbpmaa.Hic
open Go.RowKit
open Go.Proofs.Ytekheacbmbbpmaa.Frame Go.Proofs.Ytekheacbmbbpmaa.Mem Go.Proofs.Ytekheacbmbbpmaa.Ints Go.Proofs.Ytekheacbmbbpmaa.Kep Go.Proofs.Ytekheacbmbbpmaa.Lls Go.Proofs.Ytekheacbmbbpmaa.Rpu Go.Proofs.Ytekheacbmbbpmaa.Krl Go.Proofs.Ytekheacbmbbpmaa.Sa Go.Proofs.Ytekheacbmbbpmaa.Sc Go.Proofs.Ytekheacbmbbpmaa.Mis Go.Proofs.Ytekheacbmbbpmaa.Dls Go.Proofs.Ytekheacbmbbpmaa.Dlk Go.Proofs.Ytekheacbmbbpmaa.Hia Go.Proofs.Ytekheacbmbbpmaa.Hib
open Go.Proofs.Ytekheacbmbbpmaa.Rel hiding Ll
open Go.Proofs.Ytekheacbmbbpmaa.Cpu hiding Dp

set_option maxRecDepth 8000 in
set_option maxHeartbeats 12800000 in
theorem l5Holds (u t fu tu : Value) (r : Rl) (d : Dp) (w : World) (h : QIs w u t r) (hd : EIs w fu tu d) (hG : goodR r.1 r.2 = true) (hS : subB r.1 d.1 = true) (hT : subB r.1 d.2 = true) :
    Calls Try.prog 42 #[.agg #[u, t], .agg #[fu, tu]] w fun e w' => e = .returned (.bool (holdsB r d)) ∧ Below w.heap.size w w' := by
  obtain ⟨⟨ua, un, uc, rfl, hu, hun⟩, ta, tn, tc, rs, rfl, ht, hrs, htt⟩ := h
  obtain ⟨⟨fa, fn, fc, rfl, hf, hfn⟩, ⟨ga, gn, gc, rfl, hg, hgn⟩⟩ := hd
  have b0 : Below w.heap.size w (w.alloc (.cells #[.slice ua un uc, .slice ta tn tc] 42)) := (Below.refl w.heap.size w).alloc (Nat.le_refl _) _
  have b1 : Below w.heap.size w ((w.alloc (.cells #[.slice ua un uc, .slice ta tn tc] 42)).alloc (.cells #[.slice fa fn fc, .slice ga gn gc] 36)) := b0.alloc (by simp) _
  have D0 : ((((w.alloc (.cells #[.slice ua un uc, .slice ta tn tc] 42)).alloc (.cells #[.slice fa fn fc, .slice ga gn gc] 36)).cell? ⟨w.heap.size, 0, none⟩ = some (.slice ua un uc) ∧ ((w.alloc (.cells #[.slice ua un uc, .slice ta tn tc] 42)).alloc (.cells #[.slice fa fn fc, .slice ga gn gc] 36)).cell? ⟨w.heap.size, 1, none⟩ = some (.slice ta tn tc)) ∧ ((w.alloc (.cells #[.slice ua un uc, .slice ta tn tc] 42)).alloc (.cells #[.slice fa fn fc, .slice ga gn gc] 36)).cell? ⟨w.heap.size + 1, 0, none⟩ = some (.slice fa fn fc) ∧ ((w.alloc (.cells #[.slice ua un uc, .slice ta tn tc] 42)).alloc (.cells #[.slice fa fn fc, .slice ga gn gc] 36)).cell? ⟨w.heap.size + 1, 1, none⟩ = some (.slice ga gn gc)) := by
    refine ⟨⟨?_, ?_⟩, ?_, ?_⟩ <;> go_simp
  have HUL : Hid (r.1.length = un) := hu.len
  have HTL : Hid (rs.length = tn) := ht.len
  have HRS : Hid (lplain rs = r.2) := hrs
  have GR : Hid (Rel.Good r.1 r.2) := good_iff.1 hG
  have hf6 : fn ≤ 6 := by have h1 := sub_len GR.out.upN hS; have h2 := GR.out.few; rw [hf.len] at h1; omega
  have hg6 : gn ≤ 6 := by have h1 := sub_len GR.out.upN hT; have h2 := GR.out.few; rw [hg.len] at h1; omega
  have HSF : Hid (∀ z ∈ d.1, z ∈ r.1) := sub_mem hS
  have HSG : Hid (∀ z ∈ d.2, z ∈ r.1) := sub_mem hT
  have hmost : tn ≤ 60 := by
    have h1 := GR.out.most
    rw [← HRS.out, Oa.lplain_length, HTL.out] at h1
    exact h1
  have HR2 : Hid (∀ k, k < tn → (r.2.getD k []).length = un) := fun k hk => by
    rw [← HUL.out]
    exact GR.out.wide _ (Ob.getD_mem_l (by rw [← HRS.out, Oa.lplain_length, HTL.out]; exact hk))
  have HRL : Hid (r.2.length = tn) := by show _ = _; rw [← HRS.out, Oa.lplain_length, HTL.out]
  have hu1 := IsRow.below hu b1
  have ht1 := ht.below b1
  have hf1 := IsRow.below hf b1
  have hg1 := IsRow.below hg b1
  have htc : tn ≤ tc := ht.fits
  clear b0 hu ht hf hg htt hrs hG hS hT
  go_enter Try.func42, Try.ntmps42
  go_wp2_with fail
  generalize ((w.alloc (.cells #[.slice ua un uc, .slice ta tn tc] 42)).alloc (.cells #[.slice fa fn fc, .slice ga gn gc] 36)) = W at b1 D0 hu1 ht1 hf1 hg1 ⊢
  have B0 : Hid (Below w.heap.size w W) := b1
  obtain ⟨⟨p0, p1⟩, p2, p3⟩ := D0
  have C0 : Hid (W.cell? ⟨w.heap.size, 0, none⟩ = some (.slice ua un uc)) := p0
  have C1 : Hid (W.cell? ⟨w.heap.size, 1, none⟩ = some (.slice ta tn tc)) := p1
  have C2 : Hid (W.cell? ⟨w.heap.size + 1, 0, none⟩ = some (.slice fa fn fc)) := p2
  have C3 : Hid (W.cell? ⟨w.heap.size + 1, 1, none⟩ = some (.slice ga gn gc)) := p3
  have HU : Hid (IsRow .i64 W ua un uc r.1) := hu1
  have HT : Hid (IsLs W ta tn tc rs) := ht1
  have HF : Hid (IsRow .i64 W fa fn fc d.1) := hf1
  have HH : Hid (IsRow .i64 W ga gn gc d.2) := hg1
  clear b1 hu1 ht1 hf1 hg1 p0 p1 p2 p3
  go_loopw [12] (fun i wr => ∃ k : Nat, k ≤ tn ∧ i = .int .i64 k ∧ toB r d k = true ∧ Below W.heap.size W wr) (fun i _ => tn - (intOf i).toNat)
  case atStart => exact ⟨0, Nat.zero_le _, rfl, rfl, Below.refl _ _⟩
  case round =>
    obtain ⟨k, hk, rfl, hto, hnx⟩ := hrel
    have HTO : Hid (toB r d k = true) := hto
    have HNX : Hid (Below W.heap.size W wr) := hnx
    clear hto
    by_cases hlt : k < tn
    · obtain ⟨tb, tof, rfl, hbl, hc⟩ := HT.out.cells (by omega)
      have HC : Hid (∀ i, i < tn → W.cell? ⟨tb, tof + i, none⟩ = some (.slice (rs.getD i ld).a (rs.getD i ld).n (rs.getD i ld).c)) := hc
      have kl : k < rs.length := by rw [HTL.out]; exact hlt
      have hck : wr.cell? ⟨tb, tof + k, none⟩ = some (.slice (rs.getD k ld).a (rs.getD k ld).n (rs.getD k ld).c) := by rw [hnx.cell (p := ⟨tb, tof + k, none⟩) hbl]; exact hc k hlt
      have hrow := HT.out.rows _ (getD_mem_ld kl)
      have hx := lplain_get rs k kl
      generalize rs.getD k ld = x at hck hrow hx
      obtain ⟨xa, xn, xc, xs⟩ := x
      simp only at hck hrow hx
      have HX : Hid (r.2.getD k [] = xs) := by show _ = _; rw [← HRS.out]; exact hx
      have HRX : Hid (IsRow .i64 W xa xn xc xs) := hrow
      have hxn : xn = un := by rw [← hrow.len, ← HX.out]; exact HR2.out k hlt
      subst hxn
      have e1 : wr.cell? ⟨w.heap.size, 1, none⟩ = some (.slice (some ⟨tb, tof, none⟩) tn tc) := Frame.held_cell hnx C1.out
      have hktc : (k : Int) ≤ (tc : Int) := by omega
      clear hc hrow hx hnx
      go_wp2_with fail
      clear hck e1
      go_loopw [22] (fun j wq => ∃ l : Nat, l ≤ k ∧ j = .int .i64 l ∧ rowB r d k l = true ∧ Below W.heap.size W wq) (fun j _ => k - (intOf j).toNat)
      case atStart => exact ⟨0, Nat.zero_le _, rfl, rfl, HNX.out⟩
      case round =>
        rename World => wq
        obtain ⟨l, hl, rfl, hrw, hq⟩ := hrel
        have HRW : Hid (rowB r d k l = true) := hrw
        have HNQ : Hid (Below W.heap.size W wq) := hq
        clear hrw
        by_cases hlt2 : l < k
        · have ll : l < rs.length := by rw [HTL.out]; omega
          have hcl : wq.cell? ⟨tb, tof + l, none⟩ = some (.slice (rs.getD l ld).a (rs.getD l ld).n (rs.getD l ld).c) := by rw [hq.cell (p := ⟨tb, tof + l, none⟩) hbl]; exact HC.out l (by omega)
          have hrow := HT.out.rows _ (getD_mem_ld ll)
          have hy := lplain_get rs l ll
          generalize rs.getD l ld = y at hcl hrow hy
          obtain ⟨ya, yn, yc, ys⟩ := y
          simp only at hcl hrow hy
          have HY : Hid (r.2.getD l [] = ys) := by show _ = _; rw [← HRS.out]; exact hy
          have hyn : yn = xn := by rw [← hrow.len, ← HY.out]; exact HR2.out l (by omega)
          subst hyn
          have HPE : Hid (pairB r d (r.2.getD k []) (r.2.getD l []) = (!(decide (pick r.1 xs d.1 = pick r.1 ys d.1)) || decide (pick r.1 xs d.2 = pick r.1 ys d.2))) := by show _ = _; unfold pairB; rw [HX.out, HY.out]
          have HUQ : Hid (IsRow .i64 wq ua yn uc r.1) := IsRow.below HU.out hq
          have HXQ : Hid (IsRow .i64 wq xa yn xc xs) := IsRow.below HRX.out hq
          have HYQ : Hid (IsRow .i64 wq ya yn yc ys) := IsRow.below hrow hq
          have HFQ : Hid (IsRow .i64 wq fa fn fc d.1) := IsRow.below HF.out hq
          have HGQ : Hid (IsRow .i64 wq ga gn gc d.2) := IsRow.below HH.out hq
          have g0 := Frame.held_cell hq C0.out
          have g2 := Frame.held_cell hq C2.out
          have g3 := Frame.held_cell hq C3.out
          clear hrow hy hq
          go_wp2_with fail
          clear hcl
          cases hb : decide (pick r.1 xs d.1 = pick r.1 ys d.1)
          · have HB : Hid (decide (pick r.1 xs d.1 = pick r.1 ys d.1) = false) := hb
            have F : Hid (rowB r d k (l + 1) = true) := row_succ HRW.out (by rw [HPE.out, hb]; rfl)
            clear hb HPE
            refine wp_region_held_drew (S := (fun w' => Below wq.heap.size wq w' ∧ w'.cell? ⟨w.heap.size, 0, none⟩ = some (.slice ua yn uc) ∧ w'.cell? ⟨w.heap.size + 1, 0, none⟩ = some (.slice fa fn fc) ∧ w'.cell? ⟨w.heap.size + 1, 1, none⟩ = some (.slice ga gn gc))) (by kernel_rfl) ?_ (fun hHeld => ?_)
            · exact ⟨(Below.refl _ _).drew, g0, g2, g3⟩
            refine wpAnyH_take (i := 0) (v := (.pointer (some ⟨w.heap.size, 0, none⟩))) rfl (by kernel_rfl) (by kernel_rfl) (by kernel_rfl) (fun _ _ _ h => h) (Or.inl ⟨by rfl, ?_⟩) (by assumption) ?_
            · intro w hSw; (try dsimp only at hSw); go_simp
            (try show wpAnyH _ _ _ _ _ _ _ (Act.put _ (some 26) _) _); (try simp only [Act.put, List.setIfInBounds_toArray, List.set_cons_zero, List.set_cons_succ])
            refine wpAnyH_take (i := 1) (v := (.slice ua yn uc)) rfl (by kernel_rfl) (by kernel_rfl) (by kernel_rfl) (fun _ _ _ h => h) (Or.inl ⟨by rfl, ?_⟩) (by assumption) ?_
            · intro w hSw; (try dsimp only at hSw); go_simp
            (try show wpAnyH _ _ _ _ _ _ _ (Act.put _ (some 27) _) _); (try simp only [Act.put, List.setIfInBounds_toArray, List.set_cons_zero, List.set_cons_succ])
            refine wpAnyH_take (i := 2) (v := (.slice xa yn xc)) rfl (by kernel_rfl) (by kernel_rfl) (by kernel_rfl) (fun _ _ _ h => h) (Or.inl ⟨by rfl, ?_⟩) (by assumption) ?_
            · intro w hSw; (try dsimp only at hSw); go_simp
            (try show wpAnyH _ _ _ _ _ _ _ (Act.put _ (some 28) _) _); (try simp only [Act.put, List.setIfInBounds_toArray, List.set_cons_zero, List.set_cons_succ])
            refine wpAnyH_take (i := 3) (v := (.pointer (some ⟨w.heap.size + 1, 0, none⟩))) rfl (by kernel_rfl) (by kernel_rfl) (by kernel_rfl) (fun _ _ _ h => h) (Or.inl ⟨by rfl, ?_⟩) (by assumption) ?_
            · intro w hSw; (try dsimp only at hSw); go_simp
            (try show wpAnyH _ _ _ _ _ _ _ (Act.put _ (some 29) _) _); (try simp only [Act.put, List.setIfInBounds_toArray, List.set_cons_zero, List.set_cons_succ])
            refine wpAnyH_take (i := 4) (v := (.slice fa fn fc)) rfl (by kernel_rfl) (by kernel_rfl) (by kernel_rfl) (fun _ _ _ h => h) (Or.inl ⟨by rfl, ?_⟩) (by assumption) ?_
            · intro w hSw; (try dsimp only at hSw); go_simp
            (try show wpAnyH _ _ _ _ _ _ _ (Act.put _ (some 30) _) _); (try simp only [Act.put, List.setIfInBounds_toArray, List.set_cons_zero, List.set_cons_succ])
            refine wpAnyH_take (i := 6) (v := (.pointer (some ⟨w.heap.size, 0, none⟩))) rfl (by kernel_rfl) (by kernel_rfl) (by kernel_rfl) (fun _ _ _ h => h) (Or.inl ⟨by rfl, ?_⟩) (by assumption) ?_
            · intro w hSw; (try dsimp only at hSw); go_simp
            (try show wpAnyH _ _ _ _ _ _ _ (Act.put _ (some 32) _) _); (try simp only [Act.put, List.setIfInBounds_toArray, List.set_cons_zero, List.set_cons_succ])
            refine wpAnyH_take (i := 7) (v := (.slice ua yn uc)) rfl (by kernel_rfl) (by kernel_rfl) (by kernel_rfl) (fun _ _ _ h => h) (Or.inl ⟨by rfl, ?_⟩) (by assumption) ?_
            · intro w hSw; (try dsimp only at hSw); go_simp
            (try show wpAnyH _ _ _ _ _ _ _ (Act.put _ (some 33) _) _); (try simp only [Act.put, List.setIfInBounds_toArray, List.set_cons_zero, List.set_cons_succ])
            refine wpAnyH_take (i := 8) (v := (.slice ya yn yc)) rfl (by kernel_rfl) (by kernel_rfl) (by kernel_rfl) (fun _ _ _ h => h) (Or.inl ⟨by rfl, ?_⟩) (by assumption) ?_
            · intro w hSw; (try dsimp only at hSw); go_simp
            (try show wpAnyH _ _ _ _ _ _ _ (Act.put _ (some 34) _) _); (try simp only [Act.put, List.setIfInBounds_toArray, List.set_cons_zero, List.set_cons_succ])
            refine wpAnyH_take (i := 9) (v := (.pointer (some ⟨w.heap.size + 1, 0, none⟩))) rfl (by kernel_rfl) (by kernel_rfl) (by kernel_rfl) (fun _ _ _ h => h) (Or.inl ⟨by rfl, ?_⟩) (by assumption) ?_
            · intro w hSw; (try dsimp only at hSw); go_simp
            (try show wpAnyH _ _ _ _ _ _ _ (Act.put _ (some 35) _) _); (try simp only [Act.put, List.setIfInBounds_toArray, List.set_cons_zero, List.set_cons_succ])
            refine wpAnyH_take (i := 10) (v := (.slice fa fn fc)) rfl (by kernel_rfl) (by kernel_rfl) (by kernel_rfl) (fun _ _ _ h => h) (Or.inl ⟨by rfl, ?_⟩) (by assumption) ?_
            · intro w hSw; (try dsimp only at hSw); go_simp
            (try show wpAnyH _ _ _ _ _ _ _ (Act.put _ (some 36) _) _); (try simp only [Act.put, List.setIfInBounds_toArray, List.set_cons_zero, List.set_cons_succ])
            refine wpAnyH_ready (rs := [5]) (by kernel_rfl) (by simp) ?_
            refine AllReadyH.cons rfl (fun K hK => ?_) AllReadyH.nil
            go_simp
            (go_at_call 68; refine (spec_l3Pick _ _ _ _ _ _ _ _ _ r.1 xs d.1 _ ?_ ?_ ?_ (by omega) rfl HSF.out).mono ?_; exact IsRow.below HUQ.out (And.left ‹Below wq.heap.size wq _ ∧ _›); exact IsRow.below HXQ.out (And.left ‹Below wq.heap.size wq _ ∧ _›); exact IsRow.below HFQ.out (And.left ‹Below wq.heap.size wq _ ∧ _›); rintro e v1 ⟨a1, c1, rfl, ho1, hw1, hb1⟩; have R1 : Hid (IsRow .i64 v1 a1 fn c1 (pick r.1 xs d.1)) := own_row ho1 hw1; clear ho1 hw1)
            go_wp2_with fail
            refine hK.out _ _ ?_ (fun hHeld => ?_)
            · exact (fun kb => ⟨kb, Frame.held_cell kb g0, Frame.held_cell kb g2, Frame.held_cell kb g3⟩) (Frame.held_next ‹Below wq.heap.size wq _ ∧ _› hb1)
            clear hK K
            (try show wpAnyH _ _ _ _ _ _ _ (Act.put _ (some 31) _) _); (try simp only [Act.put, List.setIfInBounds_toArray, List.set_cons_zero, List.set_cons_succ])
            refine wpAnyH_ready (rs := [11]) (by kernel_rfl) (by simp) ?_
            refine AllReadyH.cons rfl (fun K hK => ?_) AllReadyH.nil
            go_simp
            (go_at_call 68; refine (spec_l3Pick _ _ _ _ _ _ _ _ _ r.1 ys d.1 _ ?_ ?_ ?_ (by omega) rfl HSF.out).mono ?_; exact IsRow.below HUQ.out (And.left ‹Below wq.heap.size wq _ ∧ _›); exact IsRow.below HYQ.out (And.left ‹Below wq.heap.size wq _ ∧ _›); exact IsRow.below HFQ.out (And.left ‹Below wq.heap.size wq _ ∧ _›); rintro e v2 ⟨a2, c2, rfl, ho2, hw2, hb2⟩; have R2 : Hid (IsRow .i64 v2 a2 fn c2 (pick r.1 ys d.1)) := own_row ho2 hw2; clear ho2 hw2; have R1x : Hid (IsRow .i64 v2 a1 fn c1 (pick r.1 xs d.1)) := IsRow.below R1.out hb2)
            go_wp2_with fail
            refine hK.out _ _ ?_ (fun hHeld => ?_)
            · exact (fun kb => ⟨kb, Frame.held_cell kb g0, Frame.held_cell kb g2, Frame.held_cell kb g3⟩) (Frame.held_next ‹Below wq.heap.size wq _ ∧ _› hb2)
            clear hK K
            (try show wpAnyH _ _ _ _ _ _ _ (Act.put _ (some 37) _) _); (try simp only [Act.put, List.setIfInBounds_toArray, List.set_cons_zero, List.set_cons_succ])
            refine wpAnyH_ready (rs := [12]) (by kernel_rfl) (by simp) ?_
            refine AllReadyH.cons rfl (fun K hK => ?_) AllReadyH.nil
            go_simp
            (go_at_call 67; refine (spec_l1Same _ _ _ _ _ _ (pick r.1 xs d.1) (pick r.1 ys d.1) _ R1x.out R2.out).mono ?_; rintro e v3 ⟨rfl, hb3⟩; rw [HB.out])
            go_wp2_with fail
            refine hK.out _ _ ?_ (fun hHeld => ?_)
            · exact (fun kb => ⟨kb, Frame.held_cell kb g0, Frame.held_cell kb g2, Frame.held_cell kb g3⟩) (Frame.held_next ‹Below wq.heap.size wq _ ∧ _› hb3)
            clear hK K
            (try show wpAnyH _ _ _ _ _ _ _ (Act.put _ (some 38) _) _); (try simp only [Act.put, List.setIfInBounds_toArray, List.set_cons_zero, List.set_cons_succ])
            refine wpAnyH_take (i := 13) (v := (.bool false)) rfl (by kernel_rfl) (by kernel_rfl) (by kernel_rfl) (fun _ _ _ h => h) (Or.inl ⟨by rfl, ?_⟩) (by assumption) ?_
            · intro w hSw; (try dsimp only at hSw); go_simp
            (try show wpAnyH _ _ _ _ _ _ _ (Act.put _ (some 39) _) _); (try simp only [Act.put, List.setIfInBounds_toArray, List.set_cons_zero, List.set_cons_succ])
            refine wpAnyH_take (i := 14) (v := undef) rfl (by kernel_rfl) (by kernel_rfl) (by kernel_rfl) (fun _ _ _ h => h) (Or.inr ⟨by rfl, rfl⟩) (by assumption) ?_
            (try show wpAnyH _ _ _ _ _ _ _ (Act.put _ (some 40) _) _); (try simp only [Act.put, List.setIfInBounds_toArray, List.set_cons_zero, List.set_cons_succ])
            refine wpAnyH_take (i := 15) (v := undef) rfl (by kernel_rfl) (by kernel_rfl) (by kernel_rfl) (fun _ _ _ h => h) (Or.inr ⟨by rfl, rfl⟩) (by assumption) ?_
            (try show wpAnyH _ _ _ _ _ _ _ (Act.put _ (some 41) _) _); (try simp only [Act.put, List.setIfInBounds_toArray, List.set_cons_zero, List.set_cons_succ])
            refine wpAnyH_take (i := 16) (v := undef) rfl (by kernel_rfl) (by kernel_rfl) (by kernel_rfl) (fun _ _ _ h => h) (Or.inr ⟨by rfl, rfl⟩) (by assumption) ?_
            (try show wpAnyH _ _ _ _ _ _ _ (Act.put _ (some 42) _) _); (try simp only [Act.put, List.setIfInBounds_toArray, List.set_cons_zero, List.set_cons_succ])
            refine wpAnyH_take (i := 17) (v := undef) rfl (by kernel_rfl) (by kernel_rfl) (by kernel_rfl) (fun _ _ _ h => h) (Or.inr ⟨by rfl, rfl⟩) (by assumption) ?_
            (try show wpAnyH _ _ _ _ _ _ _ (Act.put _ (some 43) _) _); (try simp only [Act.put, List.setIfInBounds_toArray, List.set_cons_zero, List.set_cons_succ])
            refine wpAnyH_take (i := 18) (v := undef) rfl (by kernel_rfl) (by kernel_rfl) (by kernel_rfl) (fun _ _ _ h => h) (Or.inr ⟨by rfl, rfl⟩) (by assumption) ?_
            (try show wpAnyH _ _ _ _ _ _ _ (Act.put _ (some 44) _) _); (try simp only [Act.put, List.setIfInBounds_toArray, List.set_cons_zero, List.set_cons_succ])
            refine wpAnyH_take (i := 20) (v := undef) rfl (by kernel_rfl) (by kernel_rfl) (by kernel_rfl) (fun _ _ _ h => h) (Or.inr ⟨by rfl, rfl⟩) (by assumption) ?_
            (try show wpAnyH _ _ _ _ _ _ _ (Act.put _ (some 46) _) _); (try simp only [Act.put, List.setIfInBounds_toArray, List.set_cons_zero, List.set_cons_succ])
            refine wpAnyH_take (i := 21) (v := undef) rfl (by kernel_rfl) (by kernel_rfl) (by kernel_rfl) (fun _ _ _ h => h) (Or.inr ⟨by rfl, rfl⟩) (by assumption) ?_
            (try show wpAnyH _ _ _ _ _ _ _ (Act.put _ (some 47) _) _); (try simp only [Act.put, List.setIfInBounds_toArray, List.set_cons_zero, List.set_cons_succ])
            refine wpAnyH_take (i := 22) (v := undef) rfl (by kernel_rfl) (by kernel_rfl) (by kernel_rfl) (fun _ _ _ h => h) (Or.inr ⟨by rfl, rfl⟩) (by assumption) ?_
            (try show wpAnyH _ _ _ _ _ _ _ (Act.put _ (some 48) _) _); (try simp only [Act.put, List.setIfInBounds_toArray, List.set_cons_zero, List.set_cons_succ])
            refine wpAnyH_take (i := 23) (v := undef) rfl (by kernel_rfl) (by kernel_rfl) (by kernel_rfl) (fun _ _ _ h => h) (Or.inr ⟨by rfl, rfl⟩) (by assumption) ?_
            (try show wpAnyH _ _ _ _ _ _ _ (Act.put _ (some 49) _) _); (try simp only [Act.put, List.setIfInBounds_toArray, List.set_cons_zero, List.set_cons_succ])
            refine wpAnyH_take (i := 24) (v := undef) rfl (by kernel_rfl) (by kernel_rfl) (by kernel_rfl) (fun _ _ _ h => h) (Or.inr ⟨by rfl, rfl⟩) (by assumption) ?_
            (try show wpAnyH _ _ _ _ _ _ _ (Act.put _ (some 50) _) _); (try simp only [Act.put, List.setIfInBounds_toArray, List.set_cons_zero, List.set_cons_succ])
            refine wpAnyH_ready (rs := [19]) (by kernel_rfl) (by simp) ?_
            refine AllReadyH.cons rfl (fun K hK => ?_) AllReadyH.nil
            go_simp
            refine hK.out _ _ ?_ (fun hHeld => ?_)
            · assumption
            clear hK K
            (try show wpAnyH _ _ _ _ _ _ _ (Act.put _ (some 45) _) _); (try simp only [Act.put, List.setIfInBounds_toArray, List.set_cons_zero, List.set_cons_succ])
            refine wpAnyH_ready (rs := [25]) (by kernel_rfl) (by simp) ?_
            refine AllReadyH.cons rfl (fun K hK => ?_) AllReadyH.nil
            go_simp
            refine hK.out _ _ ?_ (fun hHeld => ?_)
            · assumption
            clear hK K
            (try show wpAnyH _ _ _ _ _ _ _ (Act.put _ (some 51) _) _); (try simp only [Act.put, List.setIfInBounds_toArray, List.set_cons_zero, List.set_cons_succ])
            refine wpAnyH_ready (rs := [26]) (by kernel_rfl) (by simp) ?_
            refine AllReadyH.cons rfl (fun K hK => ?_) AllReadyH.nil
            go_simp
            refine hK.out _ _ ?_ (fun hHeld => ?_)
            · assumption
            clear hK K
            (try show wpAnyH _ _ _ _ _ _ _ (Act.put _ (some 52) _) _); (try simp only [Act.put, List.setIfInBounds_toArray, List.set_cons_zero, List.set_cons_succ])
            refine wpAnyH_take (i := 27) (v := undef) rfl (by kernel_rfl) (by kernel_rfl) (by kernel_rfl) (fun _ _ _ h => h) (Or.inr ⟨by rfl, rfl⟩) (by assumption) ?_
            (try show wpAnyH _ _ _ _ _ _ _ (Act.put _ (some 53) _) _); (try simp only [Act.put, List.setIfInBounds_toArray, List.set_cons_zero, List.set_cons_succ])
            refine wpAnyH_take (i := 28) (v := (.bool false)) rfl (by kernel_rfl) (by kernel_rfl) (by kernel_rfl) (fun _ _ _ h => h) (Or.inl ⟨by rfl, ?_⟩) (by assumption) ?_
            · intro w hSw; (try dsimp only at hSw); go_simp
            (try show wpAnyH _ _ _ _ _ _ _ (Act.put _ (some 54) _) _); (try simp only [Act.put, List.setIfInBounds_toArray, List.set_cons_zero, List.set_cons_succ])
            refine wpAnyH_done (by kernel_rfl) ?_ _
            all_goals
              have N2 : Hid (Below W.heap.size W v3) := Frame.next HNQ.out (And.left ‹Below wq.heap.size wq v3 ∧ _›) HNQ.out.size
              clear g0 g2 g3
              go_wp2_with fail
              go_roundw
              case rel => exact ⟨l + 1, by omega, by go_num, F.out, N2.out⟩
              case measure => simp [intOf]; omega
          · have HB : Hid (decide (pick r.1 xs d.1 = pick r.1 ys d.1) = true) := hb
            rw [hb] at HPE
            clear hb
            cases hb2 : decide (pick r.1 xs d.2 = pick r.1 ys d.2)
            · have HB2 : Hid (decide (pick r.1 xs d.2 = pick r.1 ys d.2) = false) := hb2
              rw [hb2] at HPE
              have F : Hid (holdsB r d = false) := holds_no (i := k) (j := l) (by rw [HRL.out]; exact hlt) hlt2 HPE.out
              clear hb2 HPE
              go_region_held3 (fun w' => Below wq.heap.size wq w' ∧ w'.cell? ⟨w.heap.size, 0, none⟩ = some (.slice ua yn uc) ∧ w'.cell? ⟨w.heap.size + 1, 0, none⟩ = some (.slice fa fn fc) ∧ w'.cell? ⟨w.heap.size + 1, 1, none⟩ = some (.slice ga gn gc))
                (first | exact ⟨(Below.refl _ _).drew, g0, g2, g3⟩ | with_reducible exact (fun kb => ⟨kb, Frame.held_cell kb g0, Frame.held_cell kb g2, Frame.held_cell kb g3⟩) (Frame.held_next ‹Below wq.heap.size wq _ ∧ _› hb6) | with_reducible exact (fun kb => ⟨kb, Frame.held_cell kb g0, Frame.held_cell kb g2, Frame.held_cell kb g3⟩) (Frame.held_next ‹Below wq.heap.size wq _ ∧ _› hb5) | with_reducible exact (fun kb => ⟨kb, Frame.held_cell kb g0, Frame.held_cell kb g2, Frame.held_cell kb g3⟩) (Frame.held_next ‹Below wq.heap.size wq _ ∧ _› hb4) | with_reducible exact (fun kb => ⟨kb, Frame.held_cell kb g0, Frame.held_cell kb g2, Frame.held_cell kb g3⟩) (Frame.held_next ‹Below wq.heap.size wq _ ∧ _› hb3) | with_reducible exact (fun kb => ⟨kb, Frame.held_cell kb g0, Frame.held_cell kb g2, Frame.held_cell kb g3⟩) (Frame.held_next ‹Below wq.heap.size wq _ ∧ _› hb2) | with_reducible exact (fun kb => ⟨kb, Frame.held_cell kb g0, Frame.held_cell kb g2, Frame.held_cell kb g3⟩) (Frame.held_next ‹Below wq.heap.size wq _ ∧ _› hb1))
                (first | (go_at_call 67; refine (spec_l1Same _ _ _ _ _ _ (pick r.1 xs d.2) (pick r.1 ys d.2) _ R4x.out R5.out).mono ?_; rintro e v6 ⟨rfl, hb6⟩; rw [HB2.out]) | (go_at_call 68; refine (spec_l3Pick _ _ _ _ _ _ _ _ _ r.1 ys d.2 _ ?_ ?_ ?_ (by omega) rfl HSG.out).mono ?_; exact IsRow.below HUQ.out (And.left ‹Below wq.heap.size wq _ ∧ _›); exact IsRow.below HYQ.out (And.left ‹Below wq.heap.size wq _ ∧ _›); exact IsRow.below HGQ.out (And.left ‹Below wq.heap.size wq _ ∧ _›); rintro e v5 ⟨a5, c5, rfl, ho5, hw5, hb5⟩; have R5 : Hid (IsRow .i64 v5 a5 gn c5 (pick r.1 ys d.2)) := own_row ho5 hw5; clear ho5 hw5; have R4x : Hid (IsRow .i64 v5 a4 gn c4 (pick r.1 xs d.2)) := IsRow.below R4.out hb5) | (go_at_call 68; refine (spec_l3Pick _ _ _ _ _ _ _ _ _ r.1 xs d.2 _ ?_ ?_ ?_ (by omega) rfl HSG.out).mono ?_; exact IsRow.below HUQ.out (And.left ‹Below wq.heap.size wq _ ∧ _›); exact IsRow.below HXQ.out (And.left ‹Below wq.heap.size wq _ ∧ _›); exact IsRow.below HGQ.out (And.left ‹Below wq.heap.size wq _ ∧ _›); rintro e v4 ⟨a4, c4, rfl, ho4, hw4, hb4⟩; have R4 : Hid (IsRow .i64 v4 a4 gn c4 (pick r.1 xs d.2)) := own_row ho4 hw4; clear ho4 hw4) | (go_at_call 67; refine (spec_l1Same _ _ _ _ _ _ (pick r.1 xs d.1) (pick r.1 ys d.1) _ R1x.out R2.out).mono ?_; rintro e v3 ⟨rfl, hb3⟩; rw [HB.out]) | (go_at_call 68; refine (spec_l3Pick _ _ _ _ _ _ _ _ _ r.1 ys d.1 _ ?_ ?_ ?_ (by omega) rfl HSF.out).mono ?_; exact IsRow.below HUQ.out (And.left ‹Below wq.heap.size wq _ ∧ _›); exact IsRow.below HYQ.out (And.left ‹Below wq.heap.size wq _ ∧ _›); exact IsRow.below HFQ.out (And.left ‹Below wq.heap.size wq _ ∧ _›); rintro e v2 ⟨a2, c2, rfl, ho2, hw2, hb2⟩; have R2 : Hid (IsRow .i64 v2 a2 fn c2 (pick r.1 ys d.1)) := own_row ho2 hw2; clear ho2 hw2; have R1x : Hid (IsRow .i64 v2 a1 fn c1 (pick r.1 xs d.1)) := IsRow.below R1.out hb2) | (go_at_call 68; refine (spec_l3Pick _ _ _ _ _ _ _ _ _ r.1 xs d.1 _ ?_ ?_ ?_ (by omega) rfl HSF.out).mono ?_; exact IsRow.below HUQ.out (And.left ‹Below wq.heap.size wq _ ∧ _›); exact IsRow.below HXQ.out (And.left ‹Below wq.heap.size wq _ ∧ _›); exact IsRow.below HFQ.out (And.left ‹Below wq.heap.size wq _ ∧ _›); rintro e v1 ⟨a1, c1, rfl, ho1, hw1, hb1⟩; have R1 : Hid (IsRow .i64 v1 a1 fn c1 (pick r.1 xs d.1)) := own_row ho1 hw1; clear ho1 hw1))
              all_goals
                have N2 : Hid (Below W.heap.size W v6) := Frame.next HNQ.out (And.left ‹Below wq.heap.size wq v6 ∧ _›) HNQ.out.size
                have B9 : Hid (Below w.heap.size w v6) := Frame.next B0.out N2.out B0.out.size
                clear g0 g2 g3
                go_wp2_with fail
                go_ret
                exact ⟨ret_bool F.out.symm, B9.out⟩
            · have HB2 : Hid (decide (pick r.1 xs d.2 = pick r.1 ys d.2) = true) := hb2
              rw [hb2] at HPE
              have F : Hid (rowB r d k (l + 1) = true) := row_succ HRW.out (by rw [HPE.out]; rfl)
              clear hb2 HPE
              go_region_held3 (fun w' => Below wq.heap.size wq w' ∧ w'.cell? ⟨w.heap.size, 0, none⟩ = some (.slice ua yn uc) ∧ w'.cell? ⟨w.heap.size + 1, 0, none⟩ = some (.slice fa fn fc) ∧ w'.cell? ⟨w.heap.size + 1, 1, none⟩ = some (.slice ga gn gc))
                (first | exact ⟨(Below.refl _ _).drew, g0, g2, g3⟩ | with_reducible exact (fun kb => ⟨kb, Frame.held_cell kb g0, Frame.held_cell kb g2, Frame.held_cell kb g3⟩) (Frame.held_next ‹Below wq.heap.size wq _ ∧ _› hb6) | with_reducible exact (fun kb => ⟨kb, Frame.held_cell kb g0, Frame.held_cell kb g2, Frame.held_cell kb g3⟩) (Frame.held_next ‹Below wq.heap.size wq _ ∧ _› hb5) | with_reducible exact (fun kb => ⟨kb, Frame.held_cell kb g0, Frame.held_cell kb g2, Frame.held_cell kb g3⟩) (Frame.held_next ‹Below wq.heap.size wq _ ∧ _› hb4) | with_reducible exact (fun kb => ⟨kb, Frame.held_cell kb g0, Frame.held_cell kb g2, Frame.held_cell kb g3⟩) (Frame.held_next ‹Below wq.heap.size wq _ ∧ _› hb3) | with_reducible exact (fun kb => ⟨kb, Frame.held_cell kb g0, Frame.held_cell kb g2, Frame.held_cell kb g3⟩) (Frame.held_next ‹Below wq.heap.size wq _ ∧ _› hb2) | with_reducible exact (fun kb => ⟨kb, Frame.held_cell kb g0, Frame.held_cell kb g2, Frame.held_cell kb g3⟩) (Frame.held_next ‹Below wq.heap.size wq _ ∧ _› hb1))
                (first | (go_at_call 67; refine (spec_l1Same _ _ _ _ _ _ (pick r.1 xs d.2) (pick r.1 ys d.2) _ R4x.out R5.out).mono ?_; rintro e v6 ⟨rfl, hb6⟩; rw [HB2.out]) | (go_at_call 68; refine (spec_l3Pick _ _ _ _ _ _ _ _ _ r.1 ys d.2 _ ?_ ?_ ?_ (by omega) rfl HSG.out).mono ?_; exact IsRow.below HUQ.out (And.left ‹Below wq.heap.size wq _ ∧ _›); exact IsRow.below HYQ.out (And.left ‹Below wq.heap.size wq _ ∧ _›); exact IsRow.below HGQ.out (And.left ‹Below wq.heap.size wq _ ∧ _›); rintro e v5 ⟨a5, c5, rfl, ho5, hw5, hb5⟩; have R5 : Hid (IsRow .i64 v5 a5 gn c5 (pick r.1 ys d.2)) := own_row ho5 hw5; clear ho5 hw5; have R4x : Hid (IsRow .i64 v5 a4 gn c4 (pick r.1 xs d.2)) := IsRow.below R4.out hb5) | (go_at_call 68; refine (spec_l3Pick _ _ _ _ _ _ _ _ _ r.1 xs d.2 _ ?_ ?_ ?_ (by omega) rfl HSG.out).mono ?_; exact IsRow.below HUQ.out (And.left ‹Below wq.heap.size wq _ ∧ _›); exact IsRow.below HXQ.out (And.left ‹Below wq.heap.size wq _ ∧ _›); exact IsRow.below HGQ.out (And.left ‹Below wq.heap.size wq _ ∧ _›); rintro e v4 ⟨a4, c4, rfl, ho4, hw4, hb4⟩; have R4 : Hid (IsRow .i64 v4 a4 gn c4 (pick r.1 xs d.2)) := own_row ho4 hw4; clear ho4 hw4) | (go_at_call 67; refine (spec_l1Same _ _ _ _ _ _ (pick r.1 xs d.1) (pick r.1 ys d.1) _ R1x.out R2.out).mono ?_; rintro e v3 ⟨rfl, hb3⟩; rw [HB.out]) | (go_at_call 68; refine (spec_l3Pick _ _ _ _ _ _ _ _ _ r.1 ys d.1 _ ?_ ?_ ?_ (by omega) rfl HSF.out).mono ?_; exact IsRow.below HUQ.out (And.left ‹Below wq.heap.size wq _ ∧ _›); exact IsRow.below HYQ.out (And.left ‹Below wq.heap.size wq _ ∧ _›); exact IsRow.below HFQ.out (And.left ‹Below wq.heap.size wq _ ∧ _›); rintro e v2 ⟨a2, c2, rfl, ho2, hw2, hb2⟩; have R2 : Hid (IsRow .i64 v2 a2 fn c2 (pick r.1 ys d.1)) := own_row ho2 hw2; clear ho2 hw2; have R1x : Hid (IsRow .i64 v2 a1 fn c1 (pick r.1 xs d.1)) := IsRow.below R1.out hb2) | (go_at_call 68; refine (spec_l3Pick _ _ _ _ _ _ _ _ _ r.1 xs d.1 _ ?_ ?_ ?_ (by omega) rfl HSF.out).mono ?_; exact IsRow.below HUQ.out (And.left ‹Below wq.heap.size wq _ ∧ _›); exact IsRow.below HXQ.out (And.left ‹Below wq.heap.size wq _ ∧ _›); exact IsRow.below HFQ.out (And.left ‹Below wq.heap.size wq _ ∧ _›); rintro e v1 ⟨a1, c1, rfl, ho1, hw1, hb1⟩; have R1 : Hid (IsRow .i64 v1 a1 fn c1 (pick r.1 xs d.1)) := own_row ho1 hw1; clear ho1 hw1))
              all_goals
                have N2 : Hid (Below W.heap.size W v6) := Frame.next HNQ.out (And.left ‹Below wq.heap.size wq v6 ∧ _›) HNQ.out.size
                clear g0 g2 g3
                go_wp2_with fail
                go_roundw
                case rel => exact ⟨l + 1, by omega, by go_num, F.out, N2.out⟩
                case measure => simp [intOf]; omega
        · obtain rfl : l = k := by omega
          have F : Hid (toB r d (l + 1) = true) := to_succ HTO.out HRW.out
          clear hq
          go_wp2_with fail
          go_roundw
          case rel => exact ⟨l + 1, by omega, by go_num, F.out, HNQ.out⟩
          case measure => simp [intOf]; omega
    · obtain rfl : k = tn := by omega
      have F : Hid (holdsB r d = true) := by have := HTO.out; rw [← HRL.out] at this; exact this
      have B9 : Hid (Below w.heap.size w wr) := Frame.next B0.out hnx B0.out.size
      clear hnx
      go_wp2_with fail
      go_ret
      exact ⟨ret_bool F.out.symm, B9.out⟩

set_option maxRecDepth 8000 in
set_option maxHeartbeats 3200000 in
theorem spec_HoldsIn (u t fu tu : Value) (r : Rl) (d : Dp) (w : World) (h : QIs w u t r) (hd : EIs w fu tu d) :
    Calls Try.prog 16 #[.agg #[u, t], .agg #[fu, tu]] w fun e w' => e = .returned (.tuple #[.bool (holdV r d), .bool (holdG r d)]) ∧ Below w.heap.size w w' := by
  obtain ⟨⟨ua, un, uc, rfl, hu, hun⟩, ta, tn, tc, rs, rfl, ht, hrs, htt⟩ := h
  obtain ⟨⟨fa, fn, fc, rfl, hf, hfn⟩, ⟨ga, gn, gc, rfl, hg, hgn⟩⟩ := hd
  have b0 : Below w.heap.size w (w.alloc (.cells #[.slice ua un uc, .slice ta tn tc] 42)) := (Below.refl w.heap.size w).alloc (Nat.le_refl _) _
  have b1 : Below w.heap.size w ((w.alloc (.cells #[.slice ua un uc, .slice ta tn tc] 42)).alloc (.cells #[.slice fa fn fc, .slice ga gn gc] 36)) := b0.alloc (by simp) _
  have D0 : ((((w.alloc (.cells #[.slice ua un uc, .slice ta tn tc] 42)).alloc (.cells #[.slice fa fn fc, .slice ga gn gc] 36)).cell? ⟨w.heap.size, 0, none⟩ = some (.slice ua un uc) ∧ ((w.alloc (.cells #[.slice ua un uc, .slice ta tn tc] 42)).alloc (.cells #[.slice fa fn fc, .slice ga gn gc] 36)).cell? ⟨w.heap.size, 1, none⟩ = some (.slice ta tn tc)) ∧ ((w.alloc (.cells #[.slice ua un uc, .slice ta tn tc] 42)).alloc (.cells #[.slice fa fn fc, .slice ga gn gc] 36)).cell? ⟨w.heap.size + 1, 0, none⟩ = some (.slice fa fn fc) ∧ ((w.alloc (.cells #[.slice ua un uc, .slice ta tn tc] 42)).alloc (.cells #[.slice fa fn fc, .slice ga gn gc] 36)).cell? ⟨w.heap.size + 1, 1, none⟩ = some (.slice ga gn gc)) := by
    refine ⟨⟨?_, ?_⟩, ?_, ?_⟩ <;> go_simp
  have HQ : Hid (QIs w (.slice ua un uc) (.slice ta tn tc) r) := ⟨⟨_, _, _, rfl, hu, hun⟩, _, _, _, rs, rfl, ht, hrs, htt⟩
  have HE : Hid (EIs w (.slice fa fn fc) (.slice ga gn gc) d) := ⟨⟨_, _, _, rfl, hf, hfn⟩, ⟨_, _, _, rfl, hg, hgn⟩⟩
  have HU : Hid (IsRow .i64 w ua un uc r.1) := hu
  have HF : Hid (IsRow .i64 w fa fn fc d.1) := hf
  have HH : Hid (IsRow .i64 w ga gn gc d.2) := hg
  clear b0 hu ht hf hg htt hrs
  go_enter Try.func16, Try.ntmps16
  go_wp2_with fail
  generalize ((w.alloc (.cells #[.slice ua un uc, .slice ta tn tc] 42)).alloc (.cells #[.slice fa fn fc, .slice ga gn gc] 36)) = W at b1 D0 ⊢
  have B0 : Hid (Below w.heap.size w W) := b1
  clear b1
  refine (Sb.spec_GoodRelation _ _ r _ (qIs_below HQ.out B0.out)).mono ?_
  rintro e w1 ⟨rfl, hb1⟩
  have B1 : Hid (Below w.heap.size w w1) := Frame.next B0.out hb1 B0.out.size
  obtain ⟨⟨p0, p1⟩, p2, p3⟩ := D0
  have q0 := Frame.held_cell hb1 p0
  have q1 := Frame.held_cell hb1 p1
  have q2 := Frame.held_cell hb1 p2
  have q3 := Frame.held_cell hb1 p3
  clear hb1 p0 p1 p2 p3
  cases hG : goodR r.1 r.2
  · have E : Hid (holdG r d = false) := by show _ = _; unfold holdG; rw [hG]; rfl
    have EV : Hid (holdV r d = false) := by show _ = _; unfold holdV; rw [E.out]; rfl
    clear hG
    go_wp2
    go_ret2
    exact ⟨by rw [E.out, EV.out]; rfl, B1.out⟩
  have HG : Hid (goodR r.1 r.2 = true) := hG
  clear hG
  go_wp2_with fail
  refine (spec_l3Sub _ _ _ _ _ _ r.1 d.1 _ (IsRow.below HU.out B1.out) (IsRow.below HF.out B1.out)).mono ?_
  rintro e w2 ⟨rfl, hww⟩
  obtain rfl := hww.symm
  cases hS : subB r.1 d.1
  · have E : Hid (holdG r d = false) := by show _ = _; unfold holdG; rw [hS, Bool.and_false]; rfl
    have EV : Hid (holdV r d = false) := by show _ = _; unfold holdV; rw [E.out]; rfl
    clear hS
    go_wp2
    go_ret2
    exact ⟨by rw [E.out, EV.out]; rfl, B1.out⟩
  have HS : Hid (subB r.1 d.1 = true) := hS
  clear hS
  go_wp2_with fail
  refine (spec_l3Sub _ _ _ _ _ _ r.1 d.2 _ (IsRow.below HU.out B1.out) (IsRow.below HH.out B1.out)).mono ?_
  rintro e w2 ⟨rfl, hww⟩
  obtain rfl := hww.symm
  cases hT : subB r.1 d.2
  · have E : Hid (holdG r d = false) := by show _ = _; unfold holdG; rw [hT, Bool.and_false]
    have EV : Hid (holdV r d = false) := by show _ = _; unfold holdV; rw [E.out]; rfl
    clear hT
    go_wp2
    go_ret2
    exact ⟨by rw [E.out, EV.out]; rfl, B1.out⟩
  have E : Hid (holdG r d = true) := by show _ = _; unfold holdG; rw [hT, HS.out, HG.out]; rfl
  have EV : Hid (holdV r d = holdsB r d) := by show _ = _; unfold holdV; rw [E.out]; rfl
  have HN : Hid (subB r.1 d.2 = true) := hT
  clear hT
  go_wp2_with fail
  refine (l5Holds _ _ _ _ r d _ (qIs_below HQ.out B1.out) (eIs_below HE.out B1.out) HG.out HS.out HN.out).mono ?_
  rintro e w2 ⟨rfl, hb2⟩
  have B2 : Hid (Below w.heap.size w w2) := Frame.next B1.out hb2 B1.out.size
  clear hb2
  go_wp2
  go_ret2
  exact ⟨by rw [E.out, EV.out]; rfl, B2.out⟩


end Go.Proofs.Ytekheacbmbbpmaa.Hic
