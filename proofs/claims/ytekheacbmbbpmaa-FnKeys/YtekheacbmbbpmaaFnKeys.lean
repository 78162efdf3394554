/-
  Proved: at every two slices of bytes the law FnKeys returns true, and its arguments read afterwards as they did.
-/
import Derived.Test.YtekheacbmbbpmaaFrame
import Derived.Test.YtekheacbmbbpmaaDhr
import Derived.Test.YtekheacbmbbpmaaDlh
import Derived.Test.YtekheacbmbbpmaaKpx
import Derived.Test.YtekheacbmbbpmaaKfa
import Derived.Test.YtekheacbmbbpmaaKfb
import Derived.Test.YtekheacbmbbpmaaCvi
import Derived.Test.YtekheacbmbbpmaaCvk
import Derived.Test.YtekheacbmbbpmaaHib
import Derived.Test.YtekheacbmbbpmaaHic
import Derived.Test.YtekheacbmbbpmaaSsd
namespace Go.Proofs.Ytekheacbmbbpmaa.fnKeys
open Go.ChangeShapes Go.WideShapes Go.ChangeAt Go.RowKit

theorem own : ownKnob Try.prog.godebug = none := by kernel_rfl
theorem laidOut : laidOutB Try.prog = true := by kernel_rfl

theorem isRow_suf2 {w : World} {b off n c k k1 : Nat} {zs : List Int} {a2 : Option Addr} (h : Frame.IsRow .i64 w (some ⟨b, off, none⟩) n c zs) (hk : k1 = k + 1) (hn : k1 ≤ n) (ha : (if c = k1 then some (⟨b, off, none⟩ : Addr) else some ⟨b, off + k1, none⟩) = a2) : Frame.IsRow .i64 w a2 (n - k1) (c - k1) (zs.drop (k + 1)) := by
  subst hk
  have hs := Mis.isRow_suf h hn
  by_cases hc : c = k + 1
  · have hf := h.fits
    have hn0 : n - (k + 1) = 0 := by omega
    rw [hn0] at hs ⊢
    exact ⟨hs.len, hs.fits, hs.max, hs.wf, fun h0 => absurd h0 (by omega)⟩
  · rw [if_neg hc] at ha
    subst ha
    exact hs
set_option maxRecDepth 100000 in
set_option maxHeartbeats 8000000 in
theorem walk (a : Option Addr) (n cap : Nat) (zs : List Int) (b : Option Addr) (m capb : Nat) (ys : List Int) (w : World) (hc : Frame.IsRow .u8 w a n cap zs) (hd : Frame.IsRow .u8 w b m capb ys) :
    Calls Try.prog 3 #[.slice a n cap, .slice b m capb] w fun e w' => e = .returned (.bool true) ∧ Below w.heap.size w w' := by
  have HC : Hid (Frame.IsRow .u8 w a n cap zs) := hc
  have HD : Hid (Frame.IsRow .u8 w b m capb ys) := hd
  clear hc hd
  by_cases hbig : (1048576 : Int) < wrap64 ((n : Int) + (m : Int))
  · go_enter Try.func3, Try.ntmps3
    go_wp2
    go_ret
    exact ⟨rfl, Below.refl _ _⟩
  · go_enter Try.func3, Try.ntmps3
    go_wp2_with fail
    refine (Dhr.draw_KeysFor a n cap zs _ HC.out).mono ?_
    rintro e w1 ⟨x, lv, ds, rfl, hl, hb1⟩
    obtain ⟨la, ln, lc, rs, rfl, hl1, hl2, hl3⟩ := hl
    have L_1 : Hid (Dlk.DIs w1 (.slice la ln lc) ds) := ⟨la, ln, lc, rs, rfl, hl1, hl2, hl3⟩
    have B_2 : Hid (Below w.heap.size w w1) := hb1
    clear hl1 hl2 hl3 hb1
    go_wp2_with fail
    refine (Kfa.impl_KeysFor x (.slice la ln lc) ds _ L_1.out).mono ?_
    rintro e w2 ⟨u2, rfl, ho, hb⟩
    have L_3 : Hid (Dlk.DIs w2 (.slice la ln lc) ds) := Dlk.dIs_below L_1.out hb
    have B_4 : Hid (Below w.heap.size w w2) := Frame.next B_2.out hb B_2.out.size
    obtain ⟨ka, kn, kc, rk0, rfl, hk1, hk2, hk3⟩ := Knl.lOwn_is ho
    have hres : Knl.LIs w2 (.slice ka kn kc) (Kpu.keysV x ds) := ⟨ka, kn, kc, rk0, rfl, hk1, hk2, hk3⟩
    clear hk1 hk2 hk3
    have K_5 : Hid (Knl.LIs w2 (.slice ka kn kc) (Kpu.keysV x ds)) := hres
    clear ho hb hres L_1 B_2
    go_wp2_with fail
    refine (Kfb.spec_KeysFor x (.slice la ln lc) ds _ L_3.out).mono ?_
    rintro e w3 ⟨wv, rfl, ho, hb⟩
    have L_6 : Hid (Dlk.DIs w3 (.slice la ln lc) ds) := Dlk.dIs_below L_3.out hb
    have B_7 : Hid (Below w.heap.size w w3) := Frame.next B_4.out hb B_4.out.size
    have K_8 : Hid (Knl.LIs w3 (.slice ka kn kc) (Kpu.keysV x ds)) := Knl.lIs_below K_5.out hb
    have hres := Knl.lOwn_is ho
    have Y_9 : Hid (Knl.LIs w3 wv (Kpu.keysV x ds)) := hres
    clear ho hb hres L_3 B_4 K_5
    go_wp2_with fail
    refine (Cvi.impl_CoverOf x (.slice la ln lc) ds _ L_6.out).mono ?_
    rintro e w4 ⟨u4, rfl, ho, hb⟩
    have L_10 : Hid (Dlk.DIs w4 (.slice la ln lc) ds) := Dlk.dIs_below L_6.out hb
    have B_11 : Hid (Below w.heap.size w w4) := Frame.next B_7.out hb B_7.out.size
    have K_12 : Hid (Knl.LIs w4 (.slice ka kn kc) (Kpu.keysV x ds)) := Knl.lIs_below K_8.out hb
    have Y_13 : Hid (Knl.LIs w4 wv (Kpu.keysV x ds)) := Knl.lIs_below Y_9.out hb
    obtain ⟨va, vn, vc, rv0, rfl, hk1, hk2, hk3⟩ := Dlk.dOwn_is ho
    have hres : Dlk.DIs w4 (.slice va vn vc) (Cvi.coverV x ds) := ⟨va, vn, vc, rv0, rfl, hk1, hk2, hk3⟩
    have HVN : Hid ((Cvi.coverV x ds).length = vn) := by show _ = _; rw [← hk2]; exact Dls.dpl_length vn rv0 hk1.len
    clear hk1 hk2 hk3
    have V_14 : Hid (Dlk.DIs w4 (.slice va vn vc) (Cvi.coverV x ds)) := hres
    clear ho hb hres L_6 B_7 K_8 Y_9
    go_wp2_with fail
    refine (Cvk.spec_CoverOf x (.slice la ln lc) ds _ L_10.out).mono ?_
    rintro e w5 ⟨u5, rfl, ho, hb⟩
    have L_15 : Hid (Dlk.DIs w5 (.slice la ln lc) ds) := Dlk.dIs_below L_10.out hb
    have B_16 : Hid (Below w.heap.size w w5) := Frame.next B_11.out hb B_11.out.size
    have K_17 : Hid (Knl.LIs w5 (.slice ka kn kc) (Kpu.keysV x ds)) := Knl.lIs_below K_12.out hb
    have Y_18 : Hid (Knl.LIs w5 wv (Kpu.keysV x ds)) := Knl.lIs_below Y_13.out hb
    have V_19 : Hid (Dlk.DIs w5 (.slice va vn vc) (Cvi.coverV x ds)) := Dlk.dIs_below V_14.out hb
    obtain ⟨ca, cn, cc, rc0, rfl, hk1, hk2, hk3⟩ := Dlk.dOwn_is ho
    obtain rfl : cn = vn := by rw [← HVN.out, ← hk2]; exact (Dls.dpl_length _ rc0 hk1.len).symm
    have hres : Dlk.DIs w5 (.slice ca cn cc) (Cvi.coverV x ds) := ⟨ca, cn, cc, rc0, rfl, hk1, hk2, hk3⟩
    clear hk1 hk2 hk3
    have C_20 : Hid (Dlk.DIs w5 (.slice ca cn cc) (Cvi.coverV x ds)) := hres
    clear ho hb hres L_10 B_11 K_12 Y_13 V_14
    rcases Kfa.em_bool (Cpu.goodD x ds) with hg | hg
    · rw [hg]
      go_wp2_with fail
      refine (Dlh.sameRows _ _ _ _ _ K_17.out Y_18.out).mono ?_
      rintro e w6 ⟨rfl, hb⟩
      rw [decide_eq_true (Eq.refl (Kpu.keysV x ds))]
      have L_21 : Hid (Dlk.DIs w6 (.slice la ln lc) ds) := Dlk.dIs_below L_15.out hb
      have B_22 : Hid (Below w.heap.size w w6) := Frame.next B_16.out hb B_16.out.size
      have K_23 : Hid (Knl.LIs w6 (.slice ka kn kc) (Kpu.keysV x ds)) := Knl.lIs_below K_17.out hb
      have V_24 : Hid (Dlk.DIs w6 (.slice va cn vc) (Cvi.coverV x ds)) := Dlk.dIs_below V_19.out hb
      have C_25 : Hid (Dlk.DIs w6 (.slice ca cn cc) (Cvi.coverV x ds)) := Dlk.dIs_below C_20.out hb
      clear hb L_15 B_16 K_17 Y_18 V_19 C_20
      go_wp2_with fail
      refine (Dga.impl_GoodDeps x (.slice la ln lc) ds _ L_21.out).mono ?_
      rintro e w7 ⟨rfl, hb⟩
      rw [hg]
      have L_26 : Hid (Dlk.DIs w7 (.slice la ln lc) ds) := Dlk.dIs_below L_21.out hb
      have B_27 : Hid (Below w.heap.size w w7) := Frame.next B_22.out hb B_22.out.size
      have K_28 : Hid (Knl.LIs w7 (.slice ka kn kc) (Kpu.keysV x ds)) := Knl.lIs_below K_23.out hb
      have V_29 : Hid (Dlk.DIs w7 (.slice va cn vc) (Cvi.coverV x ds)) := Dlk.dIs_below V_24.out hb
      have C_30 : Hid (Dlk.DIs w7 (.slice ca cn cc) (Cvi.coverV x ds)) := Dlk.dIs_below C_25.out hb
      clear hb L_21 B_22 K_23 V_24 C_25
      obtain ⟨_, _, _, rV, hsl, hIG, hdp, hsm⟩ := V_29.out
      cases hsl
      have IGV : Hid (Dls.IsG w7 va cn vc rV) := hIG
      have RSV : Hid (∀ r ∈ rV, r.n ≤ 1048576) := (Dlk.small_ds hsm).2
      have DPV : Hid (Dls.dpl rV = Cvi.coverV x ds) := hdp
      have DLV : Hid ((Cvi.coverV x ds).length = cn ∧ cn ≤ 1048576) := ⟨by rw [← hdp]; exact Dls.dpl_length _ rV hIG.len, (Dlk.small_ds hsm).1⟩
      clear hIG hdp hsm
      obtain ⟨_, _, _, rC, hsl, hIG, hdp, hsm⟩ := C_30.out
      cases hsl
      have IGC : Hid (Dls.IsG w7 ca cn cc rC) := hIG
      have RSC : Hid (∀ r ∈ rC, r.n ≤ 1048576) := (Dlk.small_ds hsm).2
      have DPC : Hid (Dls.dpl rC = Cvi.coverV x ds) := hdp
      have DLC : Hid ((Cvi.coverV x ds).length = cn ∧ cn ≤ 1048576) := ⟨by rw [← hdp]; exact Dls.dpl_length _ rC hIG.len, (Dlk.small_ds hsm).1⟩
      clear hIG hdp hsm
      have hvn := DLV.out.2
      go_wp2_with fail
      go_loopw [15, 99] (fun _ i wr => ∃ k : Nat, k ≤ cn ∧ i = .int .i64 k ∧ Below w7.heap.size w7 wr) (fun _ i _ => cn - (intOf i).toNat)
      case atStart => exact ⟨0, Nat.zero_le _, rfl, Below.refl _ _⟩
      case round =>
        obtain ⟨k, hk, rfl, hnx⟩ := hrel
        have HN : Hid (Below w7.heap.size w7 wr) := hnx
        have hsr := hnx.size
        by_cases hlt : k < cn
        · have hkI : (k : Int) < (cn : Int) := by omega
          obtain ⟨bv, ov, fa, fn, fc, ga, gn, gc, d, hva, p0, p1, he, hx⟩ := Dga.dep_at IGV.out hnx hlt RSV.out
          subst hva
          obtain ⟨bc, oc, fa', fn', fc', ga', gn', gc', d', hca, q0, q1, he', hx'⟩ := Dga.dep_at IGC.out hnx hlt RSC.out
          subst hca
          have hdd : d' = d := by rw [← hx, ← hx', DPV.out, DPC.out]
          rw [hdd] at he'
          have BD : Hid (Below wr.heap.size wr wr.drew) := (Below.refl _ _).drew
          have EV : Hid (Dls.EIs wr.drew (.slice fa fn fc) (.slice ga gn gc) d) := Dls.eIs_below he BD.out
          have EC : Hid (Dls.EIs wr.drew (.slice fa' fn' fc') (.slice ga' gn' gc') d) := Dls.eIs_below he' BD.out
          have KW : Hid (wr.cell? ⟨bv, ov + k * 2, none⟩ = some (.slice fa fn fc) ∧ wr.cell? ⟨bv, ov + k * 2 + 1, none⟩ = some (.slice ga gn gc) ∧ wr.cell? ⟨bc, oc + k * 2, none⟩ = some (.slice fa' fn' fc') ∧ wr.cell? ⟨bc, oc + k * 2 + 1, none⟩ = some (.slice ga' gn' gc')) := ⟨p0, p1, q0, q1⟩
          have KD : Hid (wr.drew.cell? ⟨bv, ov + k * 2, none⟩ = some (.slice fa fn fc) ∧ wr.drew.cell? ⟨bv, ov + k * 2 + 1, none⟩ = some (.slice ga gn gc) ∧ wr.drew.cell? ⟨bc, oc + k * 2, none⟩ = some (.slice fa' fn' fc') ∧ wr.drew.cell? ⟨bc, oc + k * 2 + 1, none⟩ = some (.slice ga' gn' gc')) := ⟨(BD.out.cell (p := ⟨bv, ov + k * 2, none⟩) (Frame.cell_lt KW.out.1)).trans KW.out.1, (BD.out.cell (p := ⟨bv, ov + k * 2 + 1, none⟩) (Frame.cell_lt KW.out.2.1)).trans KW.out.2.1, (BD.out.cell (p := ⟨bc, oc + k * 2, none⟩) (Frame.cell_lt KW.out.2.2.1)).trans KW.out.2.2.1, (BD.out.cell (p := ⟨bc, oc + k * 2 + 1, none⟩) (Frame.cell_lt KW.out.2.2.2)).trans KW.out.2.2.2⟩
          clear he he' hx hx' hnx p0 p1 q0 q1
          go_wp2_with fail
          refine wp_region_held_drew (S := fun w' => w'.cell? ⟨bv, ov + k * 2, none⟩ = some (.slice fa fn fc) ∧ w'.cell? ⟨bv, ov + k * 2 + 1, none⟩ = some (.slice ga gn gc) ∧ w'.cell? ⟨bc, oc + k * 2, none⟩ = some (.slice fa' fn' fc') ∧ w'.cell? ⟨bc, oc + k * 2 + 1, none⟩ = some (.slice ga' gn' gc')) (by kernel_rfl) ?_ (fun hHeld => ?_)
          · exact KD.out
          refine wpAnyH_take (i := 0) (v := (.slice (some ⟨bv, ov, none⟩) cn vc)) rfl (by kernel_rfl) (by kernel_rfl) (by kernel_rfl) (fun _ _ _ h => h) (Or.inl ⟨by rfl, ?_⟩) (by assumption) ?_
          · intro w hSw; (try dsimp only at hSw); go_simp
          (try show wpAnyH _ _ _ _ _ _ _ (Act.put _ (some 102) _) _); (try simp only [Act.put, List.setIfInBounds_toArray, List.set_cons_zero, List.set_cons_succ])
          refine wpAnyH_take (i := 1) (v := (.int .i64 (k : Int))) rfl (by kernel_rfl) (by kernel_rfl) (by kernel_rfl) (fun _ _ _ h => h) (Or.inl ⟨by rfl, ?_⟩) (by assumption) ?_
          · intro w hSw; (try dsimp only at hSw); go_simp
          (try show wpAnyH _ _ _ _ _ _ _ (Act.put _ (some 103) _) _); (try simp only [Act.put, List.setIfInBounds_toArray, List.set_cons_zero, List.set_cons_succ])
          refine wpAnyH_take (i := 2) (v := (.pointer (some ⟨bv, ov + k * 2, none⟩))) rfl (by kernel_rfl) (by kernel_rfl) (by kernel_rfl) (fun _ _ _ h => h) (Or.inl ⟨by rfl, ?_⟩) (by assumption) ?_
          · intro w hSw; (try dsimp only at hSw); go_simp
          (try show wpAnyH _ _ _ _ _ _ _ (Act.put _ (some 104) _) _); (try simp only [Act.put, List.setIfInBounds_toArray, List.set_cons_zero, List.set_cons_succ])
          refine wpAnyH_take (i := 3) (v := (.pointer (some ⟨bv, ov + k * 2, none⟩))) rfl (by kernel_rfl) (by kernel_rfl) (by kernel_rfl) (fun _ _ _ h => h) (Or.inl ⟨by rfl, ?_⟩) (by assumption) ?_
          · intro w hSw; (try dsimp only at hSw); go_simp
          (try show wpAnyH _ _ _ _ _ _ _ (Act.put _ (some 105) _) _); (try simp only [Act.put, List.setIfInBounds_toArray, List.set_cons_zero, List.set_cons_succ])
          refine wpAnyH_take (i := 4) (v := (.slice fa fn fc)) rfl (by kernel_rfl) (by kernel_rfl) (by kernel_rfl) (fun _ _ _ h => h) (Or.inl ⟨by rfl, ?_⟩) (by assumption) ?_
          · intro w hSw; (try dsimp only at hSw); go_simp
          (try show wpAnyH _ _ _ _ _ _ _ (Act.put _ (some 106) _) _); (try simp only [Act.put, List.setIfInBounds_toArray, List.set_cons_zero, List.set_cons_succ])
          refine wpAnyH_take (i := 5) (v := (.slice (some ⟨bc, oc, none⟩) cn cc)) rfl (by kernel_rfl) (by kernel_rfl) (by kernel_rfl) (fun _ _ _ h => h) (Or.inl ⟨by rfl, ?_⟩) (by assumption) ?_
          · intro w hSw; (try dsimp only at hSw); go_simp
          (try show wpAnyH _ _ _ _ _ _ _ (Act.put _ (some 107) _) _); (try simp only [Act.put, List.setIfInBounds_toArray, List.set_cons_zero, List.set_cons_succ])
          refine wpAnyH_take (i := 6) (v := (.int .i64 (k : Int))) rfl (by kernel_rfl) (by kernel_rfl) (by kernel_rfl) (fun _ _ _ h => h) (Or.inl ⟨by rfl, ?_⟩) (by assumption) ?_
          · intro w hSw; (try dsimp only at hSw); go_simp
          (try show wpAnyH _ _ _ _ _ _ _ (Act.put _ (some 108) _) _); (try simp only [Act.put, List.setIfInBounds_toArray, List.set_cons_zero, List.set_cons_succ])
          refine wpAnyH_take (i := 7) (v := (.pointer (some ⟨bc, oc + k * 2, none⟩))) rfl (by kernel_rfl) (by kernel_rfl) (by kernel_rfl) (fun _ _ _ h => h) (Or.inl ⟨by rfl, ?_⟩) (by assumption) ?_
          · intro w hSw; (try dsimp only at hSw); go_simp
          (try show wpAnyH _ _ _ _ _ _ _ (Act.put _ (some 109) _) _); (try simp only [Act.put, List.setIfInBounds_toArray, List.set_cons_zero, List.set_cons_succ])
          refine wpAnyH_take (i := 8) (v := (.pointer (some ⟨bc, oc + k * 2, none⟩))) rfl (by kernel_rfl) (by kernel_rfl) (by kernel_rfl) (fun _ _ _ h => h) (Or.inl ⟨by rfl, ?_⟩) (by assumption) ?_
          · intro w hSw; (try dsimp only at hSw); go_simp
          (try show wpAnyH _ _ _ _ _ _ _ (Act.put _ (some 110) _) _); (try simp only [Act.put, List.setIfInBounds_toArray, List.set_cons_zero, List.set_cons_succ])
          refine wpAnyH_take (i := 9) (v := (.slice fa' fn' fc')) rfl (by kernel_rfl) (by kernel_rfl) (by kernel_rfl) (fun _ _ _ h => h) (Or.inl ⟨by rfl, ?_⟩) (by assumption) ?_
          · intro w hSw; (try dsimp only at hSw); go_simp
          (try show wpAnyH _ _ _ _ _ _ _ (Act.put _ (some 111) _) _); (try simp only [Act.put, List.setIfInBounds_toArray, List.set_cons_zero, List.set_cons_succ])
          refine wpAnyH_ready (rs := [10]) (by kernel_rfl) (by simp) ?_
          refine AllReadyH.cons rfl (fun K hK => ?_) AllReadyH.nil
          go_simp
          (refine (Dlh.sameInts _ _ _ _ _ EV.out.1 EC.out.1).mono ?_; rintro e w8 ⟨rfl, hb⟩; rw [decide_eq_true (Eq.refl d.1)]; have B8 : Hid (Below wr.heap.size wr w8) := Frame.next BD.out hb BD.out.size; have EV8 : Hid (Dls.EIs w8 (.slice fa fn fc) (.slice ga gn gc) d) := Dls.eIs_below EV.out hb; have EC8 : Hid (Dls.EIs w8 (.slice fa' fn' fc') (.slice ga' gn' gc') d) := Dls.eIs_below EC.out hb; have K8 : Hid (w8.cell? ⟨bv, ov + k * 2, none⟩ = some (.slice fa fn fc) ∧ w8.cell? ⟨bv, ov + k * 2 + 1, none⟩ = some (.slice ga gn gc) ∧ w8.cell? ⟨bc, oc + k * 2, none⟩ = some (.slice fa' fn' fc') ∧ w8.cell? ⟨bc, oc + k * 2 + 1, none⟩ = some (.slice ga' gn' gc')) := ⟨(hb.cell (p := ⟨bv, ov + k * 2, none⟩) (Frame.cell_lt KD.out.1)).trans KD.out.1, (hb.cell (p := ⟨bv, ov + k * 2 + 1, none⟩) (Frame.cell_lt KD.out.2.1)).trans KD.out.2.1, (hb.cell (p := ⟨bc, oc + k * 2, none⟩) (Frame.cell_lt KD.out.2.2.1)).trans KD.out.2.2.1, (hb.cell (p := ⟨bc, oc + k * 2 + 1, none⟩) (Frame.cell_lt KD.out.2.2.2)).trans KD.out.2.2.2⟩; clear hb)
          go_wp2_with fail
          refine hK.out _ _ ?_ (fun hHeld => ?_)
          · exact K8.out
          clear hK K
          (try show wpAnyH _ _ _ _ _ _ _ (Act.put _ (some 112) _) _); (try simp only [Act.put, List.setIfInBounds_toArray, List.set_cons_zero, List.set_cons_succ])
          refine wpAnyH_take (i := 11) (v := (.bool false)) rfl (by kernel_rfl) (by kernel_rfl) (by kernel_rfl) (fun _ _ _ h => h) (Or.inl ⟨by rfl, ?_⟩) (by assumption) ?_
          · intro w hSw; (try dsimp only at hSw); go_simp
          (try show wpAnyH _ _ _ _ _ _ _ (Act.put _ (some 113) _) _); (try simp only [Act.put, List.setIfInBounds_toArray, List.set_cons_zero, List.set_cons_succ])
          refine wpAnyH_take (i := 12) (v := (.bool false)) rfl (by kernel_rfl) (by kernel_rfl) (by kernel_rfl) (fun _ _ _ h => h) (Or.inl ⟨by rfl, ?_⟩) (by assumption) ?_
          · intro w hSw; (try dsimp only at hSw); go_simp
          (try show wpAnyH _ _ _ _ _ _ _ (Act.put _ (some 114) _) _); (try simp only [Act.put, List.setIfInBounds_toArray, List.set_cons_zero, List.set_cons_succ])
          refine wpAnyH_take (i := 13) (v := (.slice (some ⟨bv, ov, none⟩) cn vc)) rfl (by kernel_rfl) (by kernel_rfl) (by kernel_rfl) (fun _ _ _ h => h) (Or.inl ⟨by rfl, ?_⟩) (by assumption) ?_
          · intro w hSw; (try dsimp only at hSw); go_simp
          (try show wpAnyH _ _ _ _ _ _ _ (Act.put _ (some 115) _) _); (try simp only [Act.put, List.setIfInBounds_toArray, List.set_cons_zero, List.set_cons_succ])
          refine wpAnyH_take (i := 14) (v := (.int .i64 (k : Int))) rfl (by kernel_rfl) (by kernel_rfl) (by kernel_rfl) (fun _ _ _ h => h) (Or.inl ⟨by rfl, ?_⟩) (by assumption) ?_
          · intro w hSw; (try dsimp only at hSw); go_simp
          (try show wpAnyH _ _ _ _ _ _ _ (Act.put _ (some 116) _) _); (try simp only [Act.put, List.setIfInBounds_toArray, List.set_cons_zero, List.set_cons_succ])
          refine wpAnyH_take (i := 15) (v := (.pointer (some ⟨bv, ov + k * 2, none⟩))) rfl (by kernel_rfl) (by kernel_rfl) (by kernel_rfl) (fun _ _ _ h => h) (Or.inl ⟨by rfl, ?_⟩) (by assumption) ?_
          · intro w hSw; (try dsimp only at hSw); go_simp
          (try show wpAnyH _ _ _ _ _ _ _ (Act.put _ (some 117) _) _); (try simp only [Act.put, List.setIfInBounds_toArray, List.set_cons_zero, List.set_cons_succ])
          refine wpAnyH_take (i := 16) (v := (.pointer (some ⟨bv, ov + k * 2 + 1, none⟩))) rfl (by kernel_rfl) (by kernel_rfl) (by kernel_rfl) (fun _ _ _ h => h) (Or.inl ⟨by rfl, ?_⟩) (by assumption) ?_
          · intro w hSw; (try dsimp only at hSw); go_simp
          (try show wpAnyH _ _ _ _ _ _ _ (Act.put _ (some 118) _) _); (try simp only [Act.put, List.setIfInBounds_toArray, List.set_cons_zero, List.set_cons_succ])
          refine wpAnyH_take (i := 17) (v := (.slice ga gn gc)) rfl (by kernel_rfl) (by kernel_rfl) (by kernel_rfl) (fun _ _ _ h => h) (Or.inl ⟨by rfl, ?_⟩) (by assumption) ?_
          · intro w hSw; (try dsimp only at hSw); go_simp
          (try show wpAnyH _ _ _ _ _ _ _ (Act.put _ (some 119) _) _); (try simp only [Act.put, List.setIfInBounds_toArray, List.set_cons_zero, List.set_cons_succ])
          refine wpAnyH_take (i := 18) (v := (.slice (some ⟨bc, oc, none⟩) cn cc)) rfl (by kernel_rfl) (by kernel_rfl) (by kernel_rfl) (fun _ _ _ h => h) (Or.inl ⟨by rfl, ?_⟩) (by assumption) ?_
          · intro w hSw; (try dsimp only at hSw); go_simp
          (try show wpAnyH _ _ _ _ _ _ _ (Act.put _ (some 120) _) _); (try simp only [Act.put, List.setIfInBounds_toArray, List.set_cons_zero, List.set_cons_succ])
          refine wpAnyH_take (i := 19) (v := (.int .i64 (k : Int))) rfl (by kernel_rfl) (by kernel_rfl) (by kernel_rfl) (fun _ _ _ h => h) (Or.inl ⟨by rfl, ?_⟩) (by assumption) ?_
          · intro w hSw; (try dsimp only at hSw); go_simp
          (try show wpAnyH _ _ _ _ _ _ _ (Act.put _ (some 121) _) _); (try simp only [Act.put, List.setIfInBounds_toArray, List.set_cons_zero, List.set_cons_succ])
          refine wpAnyH_take (i := 20) (v := (.pointer (some ⟨bc, oc + k * 2, none⟩))) rfl (by kernel_rfl) (by kernel_rfl) (by kernel_rfl) (fun _ _ _ h => h) (Or.inl ⟨by rfl, ?_⟩) (by assumption) ?_
          · intro w hSw; (try dsimp only at hSw); go_simp
          (try show wpAnyH _ _ _ _ _ _ _ (Act.put _ (some 122) _) _); (try simp only [Act.put, List.setIfInBounds_toArray, List.set_cons_zero, List.set_cons_succ])
          refine wpAnyH_take (i := 21) (v := (.pointer (some ⟨bc, oc + k * 2 + 1, none⟩))) rfl (by kernel_rfl) (by kernel_rfl) (by kernel_rfl) (fun _ _ _ h => h) (Or.inl ⟨by rfl, ?_⟩) (by assumption) ?_
          · intro w hSw; (try dsimp only at hSw); go_simp
          (try show wpAnyH _ _ _ _ _ _ _ (Act.put _ (some 123) _) _); (try simp only [Act.put, List.setIfInBounds_toArray, List.set_cons_zero, List.set_cons_succ])
          refine wpAnyH_take (i := 22) (v := (.slice ga' gn' gc')) rfl (by kernel_rfl) (by kernel_rfl) (by kernel_rfl) (fun _ _ _ h => h) (Or.inl ⟨by rfl, ?_⟩) (by assumption) ?_
          · intro w hSw; (try dsimp only at hSw); go_simp
          (try show wpAnyH _ _ _ _ _ _ _ (Act.put _ (some 124) _) _); (try simp only [Act.put, List.setIfInBounds_toArray, List.set_cons_zero, List.set_cons_succ])
          refine wpAnyH_ready (rs := [23]) (by kernel_rfl) (by simp) ?_
          refine AllReadyH.cons rfl (fun K hK => ?_) AllReadyH.nil
          go_simp
          (refine (Dlh.sameInts _ _ _ _ _ EV8.out.2 EC8.out.2).mono ?_; rintro e w9 ⟨rfl, hb⟩; rw [decide_eq_true (Eq.refl d.2)]; have B9 : Hid (Below wr.heap.size wr w9) := Frame.next B8.out hb B8.out.size; have K9 : Hid (w9.cell? ⟨bv, ov + k * 2, none⟩ = some (.slice fa fn fc) ∧ w9.cell? ⟨bv, ov + k * 2 + 1, none⟩ = some (.slice ga gn gc) ∧ w9.cell? ⟨bc, oc + k * 2, none⟩ = some (.slice fa' fn' fc') ∧ w9.cell? ⟨bc, oc + k * 2 + 1, none⟩ = some (.slice ga' gn' gc')) := ⟨(hb.cell (p := ⟨bv, ov + k * 2, none⟩) (Frame.cell_lt K8.out.1)).trans K8.out.1, (hb.cell (p := ⟨bv, ov + k * 2 + 1, none⟩) (Frame.cell_lt K8.out.2.1)).trans K8.out.2.1, (hb.cell (p := ⟨bc, oc + k * 2, none⟩) (Frame.cell_lt K8.out.2.2.1)).trans K8.out.2.2.1, (hb.cell (p := ⟨bc, oc + k * 2 + 1, none⟩) (Frame.cell_lt K8.out.2.2.2)).trans K8.out.2.2.2⟩; clear hb)
          go_wp2_with fail
          refine hK.out _ _ ?_ (fun hHeld => ?_)
          · exact K9.out
          clear hK K
          (try show wpAnyH _ _ _ _ _ _ _ (Act.put _ (some 125) _) _); (try simp only [Act.put, List.setIfInBounds_toArray, List.set_cons_zero, List.set_cons_succ])
          refine wpAnyH_take (i := 24) (v := (.bool false)) rfl (by kernel_rfl) (by kernel_rfl) (by kernel_rfl) (fun _ _ _ h => h) (Or.inl ⟨by rfl, ?_⟩) (by assumption) ?_
          · intro w hSw; (try dsimp only at hSw); go_simp
          (try show wpAnyH _ _ _ _ _ _ _ (Act.put _ (some 126) _) _); (try simp only [Act.put, List.setIfInBounds_toArray, List.set_cons_zero, List.set_cons_succ])
          refine wpAnyH_take (i := 25) (v := (.bool false)) rfl (by kernel_rfl) (by kernel_rfl) (by kernel_rfl) (fun _ _ _ h => h) (Or.inl ⟨by rfl, ?_⟩) (by assumption) ?_
          · intro w hSw; (try dsimp only at hSw); go_simp
          (try show wpAnyH _ _ _ _ _ _ _ (Act.put _ (some 127) _) _); (try simp only [Act.put, List.setIfInBounds_toArray, List.set_cons_zero, List.set_cons_succ])
          refine wpAnyH_done (by kernel_rfl) ?_ _
          have N1 : Hid (Below w7.heap.size w7 w9) := Frame.next HN.out B9.out hsr
          go_wp2
          go_roundw
          case rel => exact ⟨k + 1, by omega, by go_num, N1.out⟩
          case measure => simp [intOf]; omega
        · clear hnx
          have L_31 : Hid (Dlk.DIs wr (.slice la ln lc) ds) := Dlk.dIs_below L_26.out HN.out
          have B_32 : Hid (Below w.heap.size w wr) := Frame.next B_27.out HN.out B_27.out.size
          have K_33 : Hid (Knl.LIs wr (.slice ka kn kc) (Kpu.keysV x ds)) := Knl.lIs_below K_28.out HN.out
          have V_34 : Hid (Dlk.DIs wr (.slice va cn vc) (Cvi.coverV x ds)) := Dlk.dIs_below V_29.out HN.out
          go_wp2_with fail
          refine (Dhr.draw_HoldsIn b m capb ys _ (Mem.IsRow.below HD.out B_32.out)).mono ?_
          rintro e y1 ⟨ra, rn, rc, sa', sn', sc', fa, fn, fc, ga, gn, gc, rr, dd, rfl, hq, he, hb⟩
          have hb1 : Below y1.heap.size y1 ((y1.alloc (.cells #[.slice ra rn rc, .slice sa' sn' sc'] 42)).alloc (.cells #[.slice fa fn fc, .slice ga gn gc] 36)) := ((Below.refl _ _).alloc (Nat.le_refl _) _).alloc (by simp) _
          have BY1 : Hid (Below w.heap.size w ((y1.alloc (.cells #[.slice ra rn rc, .slice sa' sn' sc'] 42)).alloc (.cells #[.slice fa fn fc, .slice ga gn gc] 36))) := Frame.next (Frame.next B_32.out hb B_32.out.size) hb1 (Nat.le_trans B_32.out.size hb.size)
          have QY1 : Hid (Krl.QIs ((y1.alloc (.cells #[.slice ra rn rc, .slice sa' sn' sc'] 42)).alloc (.cells #[.slice fa fn fc, .slice ga gn gc] 36)) (.slice ra rn rc) (.slice sa' sn' sc') rr) := Krl.qIs_below hq hb1
          have EY1 : Hid (Dls.EIs ((y1.alloc (.cells #[.slice ra rn rc, .slice sa' sn' sc'] 42)).alloc (.cells #[.slice fa fn fc, .slice ga gn gc] 36)) (.slice fa fn fc) (.slice ga gn gc) dd) := Dls.eIs_below he hb1
          have KY1 : Hid ((((y1.alloc (.cells #[.slice ra rn rc, .slice sa' sn' sc'] 42)).alloc (.cells #[.slice fa fn fc, .slice ga gn gc] 36)).cell? ⟨y1.heap.size, 0, none⟩ = some (.slice ra rn rc) ∧ ((y1.alloc (.cells #[.slice ra rn rc, .slice sa' sn' sc'] 42)).alloc (.cells #[.slice fa fn fc, .slice ga gn gc] 36)).cell? ⟨y1.heap.size, 1, none⟩ = some (.slice sa' sn' sc')) ∧ ((y1.alloc (.cells #[.slice ra rn rc, .slice sa' sn' sc'] 42)).alloc (.cells #[.slice fa fn fc, .slice ga gn gc] 36)).cell? ⟨y1.heap.size + 1, 0, none⟩ = some (.slice fa fn fc) ∧ ((y1.alloc (.cells #[.slice ra rn rc, .slice sa' sn' sc'] 42)).alloc (.cells #[.slice fa fn fc, .slice ga gn gc] 36)).cell? ⟨y1.heap.size + 1, 1, none⟩ = some (.slice ga gn gc)) := by
            refine ⟨⟨?_, ?_⟩, ?_, ?_⟩ <;> go_simp
          clear hq he hb hb1
          go_wp2_with fail
          refine (Hib.impl_HoldsIn (.slice ra rn rc) (.slice sa' sn' sc') (.slice fa fn fc) (.slice ga gn gc) rr dd _ QY1.out EY1.out).mono ?_
          rintro e y2 ⟨rfl, hb⟩
          have BY2 : Hid (Below w.heap.size w y2) := Frame.next BY1.out hb BY1.out.size
          have QY2 : Hid (Krl.QIs y2 (.slice ra rn rc) (.slice sa' sn' sc') rr) := Krl.qIs_below QY1.out hb
          have EY2 : Hid (Dls.EIs y2 (.slice fa fn fc) (.slice ga gn gc) dd) := Dls.eIs_below EY1.out hb
          have cq0 : y2.cell? ⟨y1.heap.size, 0, none⟩ = some (.slice ra rn rc) := (hb.cell (p := ⟨y1.heap.size, 0, none⟩) (Frame.cell_lt KY1.out.1.1)).trans KY1.out.1.1
          have cq1 : y2.cell? ⟨y1.heap.size, 1, none⟩ = some (.slice sa' sn' sc') := (hb.cell (p := ⟨y1.heap.size, 1, none⟩) (Frame.cell_lt KY1.out.1.2)).trans KY1.out.1.2
          have cq2 : y2.cell? ⟨y1.heap.size + 1, 0, none⟩ = some (.slice fa fn fc) := (hb.cell (p := ⟨y1.heap.size + 1, 0, none⟩) (Frame.cell_lt KY1.out.2.1)).trans KY1.out.2.1
          have cq3 : y2.cell? ⟨y1.heap.size + 1, 1, none⟩ = some (.slice ga gn gc) := (hb.cell (p := ⟨y1.heap.size + 1, 1, none⟩) (Frame.cell_lt KY1.out.2.2)).trans KY1.out.2.2
          clear hb
          go_wp2_with fail
          refine (Hic.spec_HoldsIn (.slice ra rn rc) (.slice sa' sn' sc') (.slice fa fn fc) (.slice ga gn gc) rr dd _ QY2.out EY2.out).mono ?_
          rintro e y3 ⟨rfl, hb⟩
          have BY3 : Hid (Below w.heap.size w y3) := Frame.next BY2.out hb BY2.out.size
          clear hb cq0 cq1 cq2 cq3
          generalize Hia.holdV rr dd = pv
          generalize Hia.holdG rr dd = pg
          cases pv <;> cases pg
          all_goals
            go_wp2
            go_ret
            exact ⟨rfl, BY3.out⟩
    · rw [hg]
      go_wp2_with fail
      refine (Dlh.sameRows _ _ _ _ _ K_17.out Y_18.out).mono ?_
      rintro e w6 ⟨rfl, hb⟩
      rw [decide_eq_true (Eq.refl (Kpu.keysV x ds))]
      have L_35 : Hid (Dlk.DIs w6 (.slice la ln lc) ds) := Dlk.dIs_below L_15.out hb
      have B_36 : Hid (Below w.heap.size w w6) := Frame.next B_16.out hb B_16.out.size
      have K_37 : Hid (Knl.LIs w6 (.slice ka kn kc) (Kpu.keysV x ds)) := Knl.lIs_below K_17.out hb
      have V_38 : Hid (Dlk.DIs w6 (.slice va cn vc) (Cvi.coverV x ds)) := Dlk.dIs_below V_19.out hb
      have C_39 : Hid (Dlk.DIs w6 (.slice ca cn cc) (Cvi.coverV x ds)) := Dlk.dIs_below C_20.out hb
      clear hb L_15 B_16 K_17 Y_18 V_19 C_20
      go_wp2_with fail
      refine (Dga.impl_GoodDeps x (.slice la ln lc) ds _ L_35.out).mono ?_
      rintro e w7 ⟨rfl, hb⟩
      rw [hg]
      have L_40 : Hid (Dlk.DIs w7 (.slice la ln lc) ds) := Dlk.dIs_below L_35.out hb
      have B_41 : Hid (Below w.heap.size w w7) := Frame.next B_36.out hb B_36.out.size
      have K_42 : Hid (Knl.LIs w7 (.slice ka kn kc) (Kpu.keysV x ds)) := Knl.lIs_below K_37.out hb
      have V_43 : Hid (Dlk.DIs w7 (.slice va cn vc) (Cvi.coverV x ds)) := Dlk.dIs_below V_38.out hb
      have C_44 : Hid (Dlk.DIs w7 (.slice ca cn cc) (Cvi.coverV x ds)) := Dlk.dIs_below C_39.out hb
      clear hb L_35 B_36 K_37 V_38 C_39
      obtain ⟨_, _, _, rV, hsl, hIG, hdp, hsm⟩ := V_43.out
      cases hsl
      have IGV : Hid (Dls.IsG w7 va cn vc rV) := hIG
      have RSV : Hid (∀ r ∈ rV, r.n ≤ 1048576) := (Dlk.small_ds hsm).2
      have DPV : Hid (Dls.dpl rV = Cvi.coverV x ds) := hdp
      have DLV : Hid ((Cvi.coverV x ds).length = cn ∧ cn ≤ 1048576) := ⟨by rw [← hdp]; exact Dls.dpl_length _ rV hIG.len, (Dlk.small_ds hsm).1⟩
      clear hIG hdp hsm
      obtain ⟨_, _, _, rC, hsl, hIG, hdp, hsm⟩ := C_44.out
      cases hsl
      have IGC : Hid (Dls.IsG w7 ca cn cc rC) := hIG
      have RSC : Hid (∀ r ∈ rC, r.n ≤ 1048576) := (Dlk.small_ds hsm).2
      have DPC : Hid (Dls.dpl rC = Cvi.coverV x ds) := hdp
      have DLC : Hid ((Cvi.coverV x ds).length = cn ∧ cn ≤ 1048576) := ⟨by rw [← hdp]; exact Dls.dpl_length _ rC hIG.len, (Dlk.small_ds hsm).1⟩
      clear hIG hdp hsm
      have hvn := DLV.out.2
      go_wp2_with fail
      go_loopw [15, 99] (fun _ i wr => ∃ k : Nat, k ≤ cn ∧ i = .int .i64 k ∧ Below w7.heap.size w7 wr) (fun _ i _ => cn - (intOf i).toNat)
      case atStart => exact ⟨0, Nat.zero_le _, rfl, Below.refl _ _⟩
      case round =>
        obtain ⟨k, hk, rfl, hnx⟩ := hrel
        have HN : Hid (Below w7.heap.size w7 wr) := hnx
        have hsr := hnx.size
        by_cases hlt : k < cn
        · have hkI : (k : Int) < (cn : Int) := by omega
          obtain ⟨bv, ov, fa, fn, fc, ga, gn, gc, d, hva, p0, p1, he, hx⟩ := Dga.dep_at IGV.out hnx hlt RSV.out
          subst hva
          obtain ⟨bc, oc, fa', fn', fc', ga', gn', gc', d', hca, q0, q1, he', hx'⟩ := Dga.dep_at IGC.out hnx hlt RSC.out
          subst hca
          have hdd : d' = d := by rw [← hx, ← hx', DPV.out, DPC.out]
          rw [hdd] at he'
          have BD : Hid (Below wr.heap.size wr wr.drew) := (Below.refl _ _).drew
          have EV : Hid (Dls.EIs wr.drew (.slice fa fn fc) (.slice ga gn gc) d) := Dls.eIs_below he BD.out
          have EC : Hid (Dls.EIs wr.drew (.slice fa' fn' fc') (.slice ga' gn' gc') d) := Dls.eIs_below he' BD.out
          have KW : Hid (wr.cell? ⟨bv, ov + k * 2, none⟩ = some (.slice fa fn fc) ∧ wr.cell? ⟨bv, ov + k * 2 + 1, none⟩ = some (.slice ga gn gc) ∧ wr.cell? ⟨bc, oc + k * 2, none⟩ = some (.slice fa' fn' fc') ∧ wr.cell? ⟨bc, oc + k * 2 + 1, none⟩ = some (.slice ga' gn' gc')) := ⟨p0, p1, q0, q1⟩
          have KD : Hid (wr.drew.cell? ⟨bv, ov + k * 2, none⟩ = some (.slice fa fn fc) ∧ wr.drew.cell? ⟨bv, ov + k * 2 + 1, none⟩ = some (.slice ga gn gc) ∧ wr.drew.cell? ⟨bc, oc + k * 2, none⟩ = some (.slice fa' fn' fc') ∧ wr.drew.cell? ⟨bc, oc + k * 2 + 1, none⟩ = some (.slice ga' gn' gc')) := ⟨(BD.out.cell (p := ⟨bv, ov + k * 2, none⟩) (Frame.cell_lt KW.out.1)).trans KW.out.1, (BD.out.cell (p := ⟨bv, ov + k * 2 + 1, none⟩) (Frame.cell_lt KW.out.2.1)).trans KW.out.2.1, (BD.out.cell (p := ⟨bc, oc + k * 2, none⟩) (Frame.cell_lt KW.out.2.2.1)).trans KW.out.2.2.1, (BD.out.cell (p := ⟨bc, oc + k * 2 + 1, none⟩) (Frame.cell_lt KW.out.2.2.2)).trans KW.out.2.2.2⟩
          clear he he' hx hx' hnx p0 p1 q0 q1
          go_wp2_with fail
          refine wp_region_held_drew (S := fun w' => w'.cell? ⟨bv, ov + k * 2, none⟩ = some (.slice fa fn fc) ∧ w'.cell? ⟨bv, ov + k * 2 + 1, none⟩ = some (.slice ga gn gc) ∧ w'.cell? ⟨bc, oc + k * 2, none⟩ = some (.slice fa' fn' fc') ∧ w'.cell? ⟨bc, oc + k * 2 + 1, none⟩ = some (.slice ga' gn' gc')) (by kernel_rfl) ?_ (fun hHeld => ?_)
          · exact KD.out
          refine wpAnyH_take (i := 0) (v := (.slice (some ⟨bv, ov, none⟩) cn vc)) rfl (by kernel_rfl) (by kernel_rfl) (by kernel_rfl) (fun _ _ _ h => h) (Or.inl ⟨by rfl, ?_⟩) (by assumption) ?_
          · intro w hSw; (try dsimp only at hSw); go_simp
          (try show wpAnyH _ _ _ _ _ _ _ (Act.put _ (some 102) _) _); (try simp only [Act.put, List.setIfInBounds_toArray, List.set_cons_zero, List.set_cons_succ])
          refine wpAnyH_take (i := 1) (v := (.int .i64 (k : Int))) rfl (by kernel_rfl) (by kernel_rfl) (by kernel_rfl) (fun _ _ _ h => h) (Or.inl ⟨by rfl, ?_⟩) (by assumption) ?_
          · intro w hSw; (try dsimp only at hSw); go_simp
          (try show wpAnyH _ _ _ _ _ _ _ (Act.put _ (some 103) _) _); (try simp only [Act.put, List.setIfInBounds_toArray, List.set_cons_zero, List.set_cons_succ])
          refine wpAnyH_take (i := 2) (v := (.pointer (some ⟨bv, ov + k * 2, none⟩))) rfl (by kernel_rfl) (by kernel_rfl) (by kernel_rfl) (fun _ _ _ h => h) (Or.inl ⟨by rfl, ?_⟩) (by assumption) ?_
          · intro w hSw; (try dsimp only at hSw); go_simp
          (try show wpAnyH _ _ _ _ _ _ _ (Act.put _ (some 104) _) _); (try simp only [Act.put, List.setIfInBounds_toArray, List.set_cons_zero, List.set_cons_succ])
          refine wpAnyH_take (i := 3) (v := (.pointer (some ⟨bv, ov + k * 2, none⟩))) rfl (by kernel_rfl) (by kernel_rfl) (by kernel_rfl) (fun _ _ _ h => h) (Or.inl ⟨by rfl, ?_⟩) (by assumption) ?_
          · intro w hSw; (try dsimp only at hSw); go_simp
          (try show wpAnyH _ _ _ _ _ _ _ (Act.put _ (some 105) _) _); (try simp only [Act.put, List.setIfInBounds_toArray, List.set_cons_zero, List.set_cons_succ])
          refine wpAnyH_take (i := 4) (v := (.slice fa fn fc)) rfl (by kernel_rfl) (by kernel_rfl) (by kernel_rfl) (fun _ _ _ h => h) (Or.inl ⟨by rfl, ?_⟩) (by assumption) ?_
          · intro w hSw; (try dsimp only at hSw); go_simp
          (try show wpAnyH _ _ _ _ _ _ _ (Act.put _ (some 106) _) _); (try simp only [Act.put, List.setIfInBounds_toArray, List.set_cons_zero, List.set_cons_succ])
          refine wpAnyH_take (i := 5) (v := (.slice (some ⟨bc, oc, none⟩) cn cc)) rfl (by kernel_rfl) (by kernel_rfl) (by kernel_rfl) (fun _ _ _ h => h) (Or.inl ⟨by rfl, ?_⟩) (by assumption) ?_
          · intro w hSw; (try dsimp only at hSw); go_simp
          (try show wpAnyH _ _ _ _ _ _ _ (Act.put _ (some 107) _) _); (try simp only [Act.put, List.setIfInBounds_toArray, List.set_cons_zero, List.set_cons_succ])
          refine wpAnyH_take (i := 6) (v := (.int .i64 (k : Int))) rfl (by kernel_rfl) (by kernel_rfl) (by kernel_rfl) (fun _ _ _ h => h) (Or.inl ⟨by rfl, ?_⟩) (by assumption) ?_
          · intro w hSw; (try dsimp only at hSw); go_simp
          (try show wpAnyH _ _ _ _ _ _ _ (Act.put _ (some 108) _) _); (try simp only [Act.put, List.setIfInBounds_toArray, List.set_cons_zero, List.set_cons_succ])
          refine wpAnyH_take (i := 7) (v := (.pointer (some ⟨bc, oc + k * 2, none⟩))) rfl (by kernel_rfl) (by kernel_rfl) (by kernel_rfl) (fun _ _ _ h => h) (Or.inl ⟨by rfl, ?_⟩) (by assumption) ?_
          · intro w hSw; (try dsimp only at hSw); go_simp
          (try show wpAnyH _ _ _ _ _ _ _ (Act.put _ (some 109) _) _); (try simp only [Act.put, List.setIfInBounds_toArray, List.set_cons_zero, List.set_cons_succ])
          refine wpAnyH_take (i := 8) (v := (.pointer (some ⟨bc, oc + k * 2, none⟩))) rfl (by kernel_rfl) (by kernel_rfl) (by kernel_rfl) (fun _ _ _ h => h) (Or.inl ⟨by rfl, ?_⟩) (by assumption) ?_
          · intro w hSw; (try dsimp only at hSw); go_simp
          (try show wpAnyH _ _ _ _ _ _ _ (Act.put _ (some 110) _) _); (try simp only [Act.put, List.setIfInBounds_toArray, List.set_cons_zero, List.set_cons_succ])
          refine wpAnyH_take (i := 9) (v := (.slice fa' fn' fc')) rfl (by kernel_rfl) (by kernel_rfl) (by kernel_rfl) (fun _ _ _ h => h) (Or.inl ⟨by rfl, ?_⟩) (by assumption) ?_
          · intro w hSw; (try dsimp only at hSw); go_simp
          (try show wpAnyH _ _ _ _ _ _ _ (Act.put _ (some 111) _) _); (try simp only [Act.put, List.setIfInBounds_toArray, List.set_cons_zero, List.set_cons_succ])
          refine wpAnyH_ready (rs := [10]) (by kernel_rfl) (by simp) ?_
          refine AllReadyH.cons rfl (fun K hK => ?_) AllReadyH.nil
          go_simp
          (refine (Dlh.sameInts _ _ _ _ _ EV.out.1 EC.out.1).mono ?_; rintro e w8 ⟨rfl, hb⟩; rw [decide_eq_true (Eq.refl d.1)]; have B8 : Hid (Below wr.heap.size wr w8) := Frame.next BD.out hb BD.out.size; have EV8 : Hid (Dls.EIs w8 (.slice fa fn fc) (.slice ga gn gc) d) := Dls.eIs_below EV.out hb; have EC8 : Hid (Dls.EIs w8 (.slice fa' fn' fc') (.slice ga' gn' gc') d) := Dls.eIs_below EC.out hb; have K8 : Hid (w8.cell? ⟨bv, ov + k * 2, none⟩ = some (.slice fa fn fc) ∧ w8.cell? ⟨bv, ov + k * 2 + 1, none⟩ = some (.slice ga gn gc) ∧ w8.cell? ⟨bc, oc + k * 2, none⟩ = some (.slice fa' fn' fc') ∧ w8.cell? ⟨bc, oc + k * 2 + 1, none⟩ = some (.slice ga' gn' gc')) := ⟨(hb.cell (p := ⟨bv, ov + k * 2, none⟩) (Frame.cell_lt KD.out.1)).trans KD.out.1, (hb.cell (p := ⟨bv, ov + k * 2 + 1, none⟩) (Frame.cell_lt KD.out.2.1)).trans KD.out.2.1, (hb.cell (p := ⟨bc, oc + k * 2, none⟩) (Frame.cell_lt KD.out.2.2.1)).trans KD.out.2.2.1, (hb.cell (p := ⟨bc, oc + k * 2 + 1, none⟩) (Frame.cell_lt KD.out.2.2.2)).trans KD.out.2.2.2⟩; clear hb)
          go_wp2_with fail
          refine hK.out _ _ ?_ (fun hHeld => ?_)
          · exact K8.out
          clear hK K
          (try show wpAnyH _ _ _ _ _ _ _ (Act.put _ (some 112) _) _); (try simp only [Act.put, List.setIfInBounds_toArray, List.set_cons_zero, List.set_cons_succ])
          refine wpAnyH_take (i := 11) (v := (.bool false)) rfl (by kernel_rfl) (by kernel_rfl) (by kernel_rfl) (fun _ _ _ h => h) (Or.inl ⟨by rfl, ?_⟩) (by assumption) ?_
          · intro w hSw; (try dsimp only at hSw); go_simp
          (try show wpAnyH _ _ _ _ _ _ _ (Act.put _ (some 113) _) _); (try simp only [Act.put, List.setIfInBounds_toArray, List.set_cons_zero, List.set_cons_succ])
          refine wpAnyH_take (i := 12) (v := (.bool false)) rfl (by kernel_rfl) (by kernel_rfl) (by kernel_rfl) (fun _ _ _ h => h) (Or.inl ⟨by rfl, ?_⟩) (by assumption) ?_
          · intro w hSw; (try dsimp only at hSw); go_simp
          (try show wpAnyH _ _ _ _ _ _ _ (Act.put _ (some 114) _) _); (try simp only [Act.put, List.setIfInBounds_toArray, List.set_cons_zero, List.set_cons_succ])
          refine wpAnyH_take (i := 13) (v := (.slice (some ⟨bv, ov, none⟩) cn vc)) rfl (by kernel_rfl) (by kernel_rfl) (by kernel_rfl) (fun _ _ _ h => h) (Or.inl ⟨by rfl, ?_⟩) (by assumption) ?_
          · intro w hSw; (try dsimp only at hSw); go_simp
          (try show wpAnyH _ _ _ _ _ _ _ (Act.put _ (some 115) _) _); (try simp only [Act.put, List.setIfInBounds_toArray, List.set_cons_zero, List.set_cons_succ])
          refine wpAnyH_take (i := 14) (v := (.int .i64 (k : Int))) rfl (by kernel_rfl) (by kernel_rfl) (by kernel_rfl) (fun _ _ _ h => h) (Or.inl ⟨by rfl, ?_⟩) (by assumption) ?_
          · intro w hSw; (try dsimp only at hSw); go_simp
          (try show wpAnyH _ _ _ _ _ _ _ (Act.put _ (some 116) _) _); (try simp only [Act.put, List.setIfInBounds_toArray, List.set_cons_zero, List.set_cons_succ])
          refine wpAnyH_take (i := 15) (v := (.pointer (some ⟨bv, ov + k * 2, none⟩))) rfl (by kernel_rfl) (by kernel_rfl) (by kernel_rfl) (fun _ _ _ h => h) (Or.inl ⟨by rfl, ?_⟩) (by assumption) ?_
          · intro w hSw; (try dsimp only at hSw); go_simp
          (try show wpAnyH _ _ _ _ _ _ _ (Act.put _ (some 117) _) _); (try simp only [Act.put, List.setIfInBounds_toArray, List.set_cons_zero, List.set_cons_succ])
          refine wpAnyH_take (i := 16) (v := (.pointer (some ⟨bv, ov + k * 2 + 1, none⟩))) rfl (by kernel_rfl) (by kernel_rfl) (by kernel_rfl) (fun _ _ _ h => h) (Or.inl ⟨by rfl, ?_⟩) (by assumption) ?_
          · intro w hSw; (try dsimp only at hSw); go_simp
          (try show wpAnyH _ _ _ _ _ _ _ (Act.put _ (some 118) _) _); (try simp only [Act.put, List.setIfInBounds_toArray, List.set_cons_zero, List.set_cons_succ])
          refine wpAnyH_take (i := 17) (v := (.slice ga gn gc)) rfl (by kernel_rfl) (by kernel_rfl) (by kernel_rfl) (fun _ _ _ h => h) (Or.inl ⟨by rfl, ?_⟩) (by assumption) ?_
          · intro w hSw; (try dsimp only at hSw); go_simp
          (try show wpAnyH _ _ _ _ _ _ _ (Act.put _ (some 119) _) _); (try simp only [Act.put, List.setIfInBounds_toArray, List.set_cons_zero, List.set_cons_succ])
          refine wpAnyH_take (i := 18) (v := (.slice (some ⟨bc, oc, none⟩) cn cc)) rfl (by kernel_rfl) (by kernel_rfl) (by kernel_rfl) (fun _ _ _ h => h) (Or.inl ⟨by rfl, ?_⟩) (by assumption) ?_
          · intro w hSw; (try dsimp only at hSw); go_simp
          (try show wpAnyH _ _ _ _ _ _ _ (Act.put _ (some 120) _) _); (try simp only [Act.put, List.setIfInBounds_toArray, List.set_cons_zero, List.set_cons_succ])
          refine wpAnyH_take (i := 19) (v := (.int .i64 (k : Int))) rfl (by kernel_rfl) (by kernel_rfl) (by kernel_rfl) (fun _ _ _ h => h) (Or.inl ⟨by rfl, ?_⟩) (by assumption) ?_
          · intro w hSw; (try dsimp only at hSw); go_simp
          (try show wpAnyH _ _ _ _ _ _ _ (Act.put _ (some 121) _) _); (try simp only [Act.put, List.setIfInBounds_toArray, List.set_cons_zero, List.set_cons_succ])
          refine wpAnyH_take (i := 20) (v := (.pointer (some ⟨bc, oc + k * 2, none⟩))) rfl (by kernel_rfl) (by kernel_rfl) (by kernel_rfl) (fun _ _ _ h => h) (Or.inl ⟨by rfl, ?_⟩) (by assumption) ?_
          · intro w hSw; (try dsimp only at hSw); go_simp
          (try show wpAnyH _ _ _ _ _ _ _ (Act.put _ (some 122) _) _); (try simp only [Act.put, List.setIfInBounds_toArray, List.set_cons_zero, List.set_cons_succ])
          refine wpAnyH_take (i := 21) (v := (.pointer (some ⟨bc, oc + k * 2 + 1, none⟩))) rfl (by kernel_rfl) (by kernel_rfl) (by kernel_rfl) (fun _ _ _ h => h) (Or.inl ⟨by rfl, ?_⟩) (by assumption) ?_
          · intro w hSw; (try dsimp only at hSw); go_simp
          (try show wpAnyH _ _ _ _ _ _ _ (Act.put _ (some 123) _) _); (try simp only [Act.put, List.setIfInBounds_toArray, List.set_cons_zero, List.set_cons_succ])
          refine wpAnyH_take (i := 22) (v := (.slice ga' gn' gc')) rfl (by kernel_rfl) (by kernel_rfl) (by kernel_rfl) (fun _ _ _ h => h) (Or.inl ⟨by rfl, ?_⟩) (by assumption) ?_
          · intro w hSw; (try dsimp only at hSw); go_simp
          (try show wpAnyH _ _ _ _ _ _ _ (Act.put _ (some 124) _) _); (try simp only [Act.put, List.setIfInBounds_toArray, List.set_cons_zero, List.set_cons_succ])
          refine wpAnyH_ready (rs := [23]) (by kernel_rfl) (by simp) ?_
          refine AllReadyH.cons rfl (fun K hK => ?_) AllReadyH.nil
          go_simp
          (refine (Dlh.sameInts _ _ _ _ _ EV8.out.2 EC8.out.2).mono ?_; rintro e w9 ⟨rfl, hb⟩; rw [decide_eq_true (Eq.refl d.2)]; have B9 : Hid (Below wr.heap.size wr w9) := Frame.next B8.out hb B8.out.size; have K9 : Hid (w9.cell? ⟨bv, ov + k * 2, none⟩ = some (.slice fa fn fc) ∧ w9.cell? ⟨bv, ov + k * 2 + 1, none⟩ = some (.slice ga gn gc) ∧ w9.cell? ⟨bc, oc + k * 2, none⟩ = some (.slice fa' fn' fc') ∧ w9.cell? ⟨bc, oc + k * 2 + 1, none⟩ = some (.slice ga' gn' gc')) := ⟨(hb.cell (p := ⟨bv, ov + k * 2, none⟩) (Frame.cell_lt K8.out.1)).trans K8.out.1, (hb.cell (p := ⟨bv, ov + k * 2 + 1, none⟩) (Frame.cell_lt K8.out.2.1)).trans K8.out.2.1, (hb.cell (p := ⟨bc, oc + k * 2, none⟩) (Frame.cell_lt K8.out.2.2.1)).trans K8.out.2.2.1, (hb.cell (p := ⟨bc, oc + k * 2 + 1, none⟩) (Frame.cell_lt K8.out.2.2.2)).trans K8.out.2.2.2⟩; clear hb)
          go_wp2_with fail
          refine hK.out _ _ ?_ (fun hHeld => ?_)
          · exact K9.out
          clear hK K
          (try show wpAnyH _ _ _ _ _ _ _ (Act.put _ (some 125) _) _); (try simp only [Act.put, List.setIfInBounds_toArray, List.set_cons_zero, List.set_cons_succ])
          refine wpAnyH_take (i := 24) (v := (.bool false)) rfl (by kernel_rfl) (by kernel_rfl) (by kernel_rfl) (fun _ _ _ h => h) (Or.inl ⟨by rfl, ?_⟩) (by assumption) ?_
          · intro w hSw; (try dsimp only at hSw); go_simp
          (try show wpAnyH _ _ _ _ _ _ _ (Act.put _ (some 126) _) _); (try simp only [Act.put, List.setIfInBounds_toArray, List.set_cons_zero, List.set_cons_succ])
          refine wpAnyH_take (i := 25) (v := (.bool false)) rfl (by kernel_rfl) (by kernel_rfl) (by kernel_rfl) (fun _ _ _ h => h) (Or.inl ⟨by rfl, ?_⟩) (by assumption) ?_
          · intro w hSw; (try dsimp only at hSw); go_simp
          (try show wpAnyH _ _ _ _ _ _ _ (Act.put _ (some 127) _) _); (try simp only [Act.put, List.setIfInBounds_toArray, List.set_cons_zero, List.set_cons_succ])
          refine wpAnyH_done (by kernel_rfl) ?_ _
          have N1 : Hid (Below w7.heap.size w7 w9) := Frame.next HN.out B9.out hsr
          go_wp2
          go_roundw
          case rel => exact ⟨k + 1, by omega, by go_num, N1.out⟩
          case measure => simp [intOf]; omega
        · clear hnx
          have L_45 : Hid (Dlk.DIs wr (.slice la ln lc) ds) := Dlk.dIs_below L_40.out HN.out
          have B_46 : Hid (Below w.heap.size w wr) := Frame.next B_41.out HN.out B_41.out.size
          have K_47 : Hid (Knl.LIs wr (.slice ka kn kc) (Kpu.keysV x ds)) := Knl.lIs_below K_42.out HN.out
          have V_48 : Hid (Dlk.DIs wr (.slice va cn vc) (Cvi.coverV x ds)) := Dlk.dIs_below V_43.out HN.out
          have hkn : 0 < kn := by
            obtain ⟨_, _, _, rk, hsl, h1, h2, h3⟩ := K_47.out
            cases hsl
            have h4 := Kpx.key_some hg
            rw [← h2] at h4
            have h5 : (Lls.lplain rk).length = kn := by have := h1.len; simp [Lls.lplain]; omega
            rcases Nat.eq_zero_or_pos kn with h | h
            · exact absurd (List.eq_nil_of_length_eq_zero (by rw [h5]; exact h)) h4
            · exact h
          have hkn0 : ¬ kn = 0 := by omega
          have hknI : ¬ (kn : Int) = 0 := by omega
          have hknB : ((kn : Int) == 0) = false := by rw [beq_eq_false_iff_ne]; exact hknI
          obtain ⟨_, _, _, rk, hsl, hIK, hdk, htk⟩ := K_47.out
          cases hsl
          rename World => u0
          have IGK : Hid (Lls.IsLs u0 ka kn kc rk) := hIK
          have SMK : Hid (kn ≤ 1048576 ∧ ∀ r ∈ rk, r.n ≤ 1048576) := by have h1 := Knl.small_ls htk; have h2 := hIK.len; exact ⟨by omega, h1.2⟩
          have KTL : Hid (∀ zs ∈ Lls.lplain rk, Csd.closG x ds zs = true ∧ ((Csd.closV x ds zs).length : Int) = x ∧ ∀ i, i < zs.length → Csd.closG x ds (zs.take i ++ zs.drop (i + 1)) = true ∧ ((Csd.closV x ds (zs.take i ++ zs.drop (i + 1))).length : Int) ≠ x) := fun zs hz => Kpx.key_tells hg (by rw [← hdk]; exact hz)
          clear hIK hdk htk
          have hknm := SMK.out.1
          go_wp2_with fail
          go_loopw [135] (fun i wr => ∃ k : Nat, k ≤ kn ∧ i = .int .i64 k ∧ Below u0.heap.size u0 wr) (fun i _ => kn - (intOf i).toNat)
          case atStart => exact ⟨0, Nat.zero_le _, rfl, Below.refl _ _⟩
          case round =>
            obtain ⟨k, hk, rfl, hnx⟩ := hrel
            have HN : Hid (Below u0.heap.size u0 wr) := hnx
            have hsr := hnx.size
            by_cases hlt : k < kn
            · have HLT0 : Hid (k < kn) := hlt
              obtain ⟨bk, ob, hka, hkb, hkc⟩ := IGK.out.cells (by omega)
              subst hka
              have hkl : k < rk.length := by rw [IGK.out.len]; exact hlt
              have hmem : rk.getD k Lls.ld ∈ rk := by simp only [List.getD, List.getElem?_eq_getElem hkl, Option.getD_some]; exact List.getElem_mem hkl
              have c1 : wr.cell? ⟨bk, ob + k, none⟩ = some (.slice (rk.getD k Lls.ld).a (rk.getD k Lls.ld).n (rk.getD k Lls.ld).c) := (hnx.cell (p := ⟨bk, ob + k, none⟩) hkb).trans (hkc k hlt)
              have RW : Hid (Frame.IsRow .i64 wr (rk.getD k Lls.ld).a (rk.getD k Lls.ld).n (rk.getD k Lls.ld).c (rk.getD k Lls.ld).zs) := Mem.IsRow.below (IGK.out.rows _ hmem) hnx
              have SN : Hid ((rk.getD k Lls.ld).n ≤ 1048576) := SMK.out.2 _ hmem
              have TL := KTL.out (rk.getD k Lls.ld).zs (List.mem_map.2 ⟨_, hmem, rfl⟩)
              generalize rk.getD k Lls.ld = s at c1 RW SN TL
              obtain ⟨sa, sn, sc, sz⟩ := s
              have c1' : wr.cell? ⟨bk, ob + k, none⟩ = some (.slice sa sn sc) := c1
              have HR : Hid (Frame.IsRow .i64 wr sa sn sc sz) := RW.out
              have SN' : Hid (sn ≤ 1048576) := SN.out
              have T1 : Hid (Csd.closG x ds sz = true) := TL.1
              have T2 : Hid (((Csd.closV x ds sz).length : Int) = x) := TL.2.1
              have T3 : Hid (∀ i, i < sz.length → Csd.closG x ds (sz.take i ++ sz.drop (i + 1)) = true ∧ ((Csd.closV x ds (sz.take i ++ sz.drop (i + 1))).length : Int) ≠ x) := TL.2.2
              have HLr : Hid (Dlk.DIs wr (.slice la ln lc) ds) := Dlk.dIs_below L_45.out hnx
              clear c1 RW SN TL hmem hkc
              go_wp2_with fail
              refine (Csd.impl_ClosureOf x (.slice la ln lc) (.slice sa sn sc) ds sz _ HLr.out ⟨sa, sn, sc, rfl, HR.out, SN'.out⟩).mono ?_
              rintro e w9 ⟨o9, rfl, ho, hb⟩
              rw [T1.out]
              obtain ⟨oa, on, oc, rfl, hor, _⟩ := Kep.iOwn_is ho
              have hon : (on : Int) = x := by rw [← T2.out, ← hor.len]
              have honb : ((on : Int) == x) = true := by rw [beq_iff_eq]; exact hon
              have honn : ((on : Int) != x) = false := by rw [bne, honb]; rfl
              have N9 : Hid (Below u0.heap.size u0 w9) := Frame.next HN.out hb hsr
              have HL9 : Hid (Dlk.DIs w9 (.slice la ln lc) ds) := Dlk.dIs_below HLr.out hb
              have HR9 : Hid (Frame.IsRow .i64 w9 sa sn sc sz) := Mem.IsRow.below HR.out hb
              have HSL : Hid (sz.length = sn) := HR.out.len
              have hsn := SN'.out
              clear hb ho hor HLr HR c1' hnx
              go_wp2_with fail
              rename World => u2
              have HLT : Hid (k < kn) := HLT0.out
              have hfit := HR9.out.fits
              have hmax := HR9.out.max
              obtain ⟨i0, hi, hz0, hz1, hz2⟩ := info_parts Ints.info
              go_loopw [156] (fun i wq => ∃ j : Nat, j ≤ sn ∧ i = .int .i64 j ∧ Below u2.heap.size u2 wq) (fun i _ => sn - (intOf i).toNat)
              case atStart => exact ⟨0, Nat.zero_le _, rfl, Below.refl _ _⟩
              case round =>
                obtain ⟨j, hj, rfl, hnq⟩ := hrel
                rename World => wq
                have HQ : Hid (Below u2.heap.size u2 wq) := hnq
                have hsq := hnq.size
                by_cases hjl : j < sn
                · have hjI : (j : Int) < (sn : Int) := by omega
                  have hle1 : (j : Int) ≤ (sc : Int) := by omega
                  obtain ⟨j1, hj1⟩ : ∃ j1, j1 = j + 1 := ⟨_, rfl⟩
                  have HJ1 : Hid (j1 = j + 1) := hj1
                  have hw1 : IntKind.i64.wrap ((j : Int) + 1) = (j1 : Int) := by simp [IntKind.wrap, IntKind.bits, IntKind.signed]; omega
                  have hle2 : (j1 : Int) ≤ (sn : Int) := by omega
                  have hle4 : (j1 : Int) ≤ (sc : Int) := by omega
                  have hle3 : (sn : Int) ≤ (sc : Int) := by omega
                  have hj1m : j1 ≤ sn := by omega
                  have TJ : Hid (Csd.closG x ds (sz.take j ++ sz.drop (j + 1)) = true ∧ ((Csd.closV x ds (sz.take j ++ sz.drop (j + 1))).length : Int) ≠ x) := T3.out j (by rw [HSL.out]; exact hjl)
                  obtain ⟨bs, os, hsa, _, _⟩ := HR9.out.cells (by omega)
                  have HRQ0 : Frame.IsRow .i64 wq sa sn sc sz := Mem.IsRow.below HR9.out hnq
                  rw [hsa] at HRQ0
                  have HRQ : Hid (Frame.IsRow .i64 wq (some ⟨bs, os, none⟩) sn sc sz) := HRQ0
                  have HLQ : Hid (Dlk.DIs wq (.slice la ln lc) ds) := Dlk.dIs_below HL9.out hnq
                  have HSA : Hid (sa = some ⟨bs, os, none⟩) := hsa
                  obtain ⟨s2, hs2⟩ : ∃ a2, (if sc = j1 then some (⟨bs, os, none⟩ : Addr) else some ⟨bs, os + j1, none⟩) = a2 := ⟨_, rfl⟩
                  have HPRE : Hid (Frame.IsRow .i64 wq (some ⟨bs, os, none⟩) j sc (sz.take j)) := Mis.isRow_pre HRQ.out (by omega)
                  have HSUF : Hid (Frame.IsRow .i64 wq s2 (sn - j1) (sc - j1) (sz.drop (j + 1))) := isRow_suf2 HRQ.out hj1 (by omega) hs2
                  have BA : Hid (Below wq.heap.size wq (wq.drew.alloc (.cells #[] 3))) := ((Below.refl _ _).drew).alloc (Nat.le_refl _) _
                  have OA : Hid ((wq.drew.alloc (.cells #[] 3)).ownsRow wq.heap.size 3 1 (.slice (some ⟨wq.heap.size, 0, none⟩) 0 0) 0 []) := Mis.own_zero wq.drew _ _ _ _ rfl (Nat.le_refl _)
                  have SA : Hid (0 < j → ∃ ad, (some ⟨bs, os, none⟩ : Option Addr) = some ad ∧ ∀ q u, (Mem.ints .i64 (sz.take j))[q]? = some u → (wq.drew.alloc (.cells #[] 3)).cell? (ad.add q) = some u) := Mis.news_row (Mem.IsRow.below HPRE.out BA.out)
                  have HPL : Hid ((Mem.ints .i64 (sz.take j)).length = j * 1) := by show _ = _; rw [Mem.ints_length, HPRE.out.len, Nat.mul_one]
                  have HSL2 : Hid ((Mem.ints .i64 (sz.drop (j + 1))).length = (sn - j1) * 1) := by show _ = _; rw [Mem.ints_length, HSUF.out.len, Nat.mul_one]
                  clear hnq HRQ0 hj1 HSA
                  subst hsa
                  go_wp2_with fail
                  go_region_held3 (fun _ => True) (trivial) (first | (refine Apr.step_append_all _ (by rfl) _ _ 34 (by rfl) wq.heap.size 3 i0 (.int .i64 0) 1 8 Try.underlying34 hi hz0 hz1 hz2 rfl (by decide) _ _ _ (by rfl) OA.out (some ⟨bs, os, none⟩) j sc (Mem.ints .i64 (sz.take j)) (by rfl) HPL.out SA.out (Mis.one_int _) (by unfold maxLen; omega) (by omega) BA.out.size ?_; intro a4 c4 w4 hown4 hgrow4; have B4 : Hid (Below wq.heap.size wq w4) := Mis.below_app BA.out OA.out hgrow4 BA.out.size (Nat.le_refl _); have O4 : Hid (w4.ownsRow wq.heap.size 3 1 (.slice a4 (0 + j) c4) (0 + j) ([] ++ Mem.ints .i64 (sz.take j))) := hown4; have S4 : Hid (0 < sn - j1 → ∃ ad, s2 = some ad ∧ ∀ q u, (Mem.ints .i64 (sz.drop (j + 1)))[q]? = some u → w4.cell? (ad.add q) = some u) := Mis.news_row (Mem.IsRow.below HSUF.out B4.out); clear hown4 hgrow4) | (refine Apr.step_append_all _ (by rfl) _ _ 34 (by rfl) wq.heap.size 3 i0 (.int .i64 0) 1 8 Try.underlying34 hi hz0 hz1 hz2 rfl (by decide) _ _ _ (by rfl) O4.out s2 (sn - j1) (sc - j1) (Mem.ints .i64 (sz.drop (j + 1))) (by rfl) HSL2.out S4.out (Mis.one_int _) (by unfold maxLen; omega) (by omega) B4.out.size ?_; intro a5 c5 w5 hown5 hgrow5; have B5 : Hid (Below wq.heap.size wq w5) := Mis.below_app B4.out O4.out hgrow5 B4.out.size (Nat.le_refl _); have O5 : Hid (w5.ownsRow wq.heap.size 3 1 (.slice a5 (j + (sn - j1)) c5) (j + (sn - j1)) (Mem.ints .i64 (sz.take j ++ sz.drop (j + 1)))) := (by have := hown5; rw [Nat.zero_add, List.nil_append] at this; rw [show Mem.ints .i64 (sz.take j ++ sz.drop (j + 1)) = Mem.ints .i64 (sz.take j) ++ Mem.ints .i64 (sz.drop (j + 1)) by simp [Mem.ints]]; exact this); clear hown5 hgrow5))
                  have WF5 : ∀ z ∈ sz.take j ++ sz.drop (j + 1), (Lit.int .i64 z).wf = true := fun z hz => by
                    rcases List.mem_append.1 hz with h | h
                    · exact HR9.out.wf z (List.mem_of_mem_take h)
                    · exact HR9.out.wf z (List.mem_of_mem_drop h)
                  have I5 : Hid (Kep.IIs w5 (.slice a5 (j + (sn - j1)) c5) (sz.take j ++ sz.drop (j + 1))) := Kep.iOwn_is (Kep.iOwn_of O5.out WF5 (by have := HJ1.out; omega))
                  have L5 : Hid (Dlk.DIs w5 (.slice la ln lc) ds) := Dlk.dIs_below HLQ.out B5.out
                  clear WF5
                  go_wp2_with fail
                  refine (Csd.impl_ClosureOf x (.slice la ln lc) _ ds (sz.take j ++ sz.drop (j + 1)) _ L5.out I5.out).mono ?_
                  rintro e w6q ⟨o6, rfl, ho, hb⟩
                  rw [TJ.out.1]
                  obtain ⟨pa, pn, pc, rfl, hpr, _⟩ := Kep.iOwn_is ho
                  have hpn : (pn : Int) ≠ x := by rw [← hpr.len]; exact TJ.out.2
                  have hpnb : ((pn : Int) == x) = false := by rw [beq_eq_false_iff_ne]; exact hpn
                  have N6 : Hid (Below u2.heap.size u2 w6q) := Frame.next (Frame.next HQ.out B5.out hsq) hb (Nat.le_trans hsq B5.out.size)
                  clear hb ho hpr
                  go_wp2
                  go_roundw
                  case rel => have hj1' := HJ1.out; exact ⟨j + 1, by omega, by first | go_num | (rw [← hj1']), N6.out⟩
                  case measure => have hj1' := HJ1.out; simp [intOf]; omega
                · have N7 : Hid (Below u0.heap.size u0 wq) := Frame.next N9.out HQ.out N9.out.size
                  clear hnq
                  go_wp2_with fail
                  go_roundw
                  case rel => exact ⟨k + 1, by have := HLT.out; omega, by go_num, N7.out⟩
                  case measure => have := HLT.out; simp [intOf]; omega
            · clear hnx
              have HLE : Hid (Dlk.DIs wr (.slice la ln lc) ds) := Dlk.dIs_below L_45.out HN.out
              have VE : Hid (Dlk.DIs wr (.slice va cn vc) (Cvi.coverV x ds)) := Dlk.dIs_below V_48.out HN.out
              have BE : Hid (Below w.heap.size w wr) := Frame.next B_46.out HN.out B_46.out.size
              rename World => u1
              obtain ⟨_, _, _, rl, hsl, hIG, hdp, hsm⟩ := HLE.out
              cases hsl
              have IGL : Hid (Dls.IsG u1 la ln lc rl) := hIG
              have RSL : Hid (∀ r ∈ rl, r.n ≤ 1048576) := (Dlk.small_ds hsm).2
              have LNL : Hid (ln ≤ 1048576) := (Dlk.small_ds hsm).1
              have DPL : Hid (Dls.dpl rl = ds) := hdp
              have DLL : Hid (ds.length = ln) := by show _ = _; rw [← hdp]; exact Dls.dpl_length ln rl hIG.len
              have CT : Hid (∀ d ∈ ds, Csd.impG x (Cvi.coverV x ds) d = true ∧ Csd.impV x (Cvi.coverV x ds) d = true) := fun d hd => by
                have h1 := Kpx.cover_tells hg hd
                exact ⟨h1.1, by unfold Csd.impV; rw [h1.1, h1.2]; rfl⟩
              clear hIG hdp hsm
              have hln := LNL.out
              go_wp2_with fail
              go_loopw [188] (fun i wr => ∃ k : Nat, k ≤ ln ∧ i = .int .i64 k ∧ Below u1.heap.size u1 wr) (fun i _ => ln - (intOf i).toNat)
              case atStart => exact ⟨0, Nat.zero_le _, rfl, Below.refl _ _⟩
              case round =>
                obtain ⟨k, hk, rfl, hnx⟩ := hrel
                have HN2 : Hid (Below u1.heap.size u1 wr) := hnx
                have hsr2 := hnx.size
                by_cases hlt2 : k < ln
                · obtain ⟨bb, off, fa, fn, fc, ga, gn, gc, d, hla, p0, p1, he, hx⟩ := Dga.dep_at IGL.out hnx hlt2 RSL.out
                  subst hla
                  have MX : Hid (d ∈ ds) := by
                    rw [DPL.out] at hx
                    have h1 : k < ds.length := by rw [DLL.out]; exact hlt2
                    rw [show ds.getD k Dls.d0 = ds[k] by simp [List.getD, h1]] at hx
                    show d ∈ ds
                    rw [← hx]
                    exact List.getElem_mem h1
                  have B1 : Hid (Below u1.heap.size u1 (wr.alloc (.cells #[.slice fa fn fc, .slice ga gn gc] 36))) := hnx.alloc hsr2 _
                  have HE : Hid (Dls.EIs (wr.alloc (.cells #[.slice fa fn fc, .slice ga gn gc] 36)) (.slice fa fn fc) (.slice ga gn gc) d) := Dls.eIs_below he ((Below.refl _ _).alloc (Nat.le_refl _) _)
                  have HV : Hid (Dlk.DIs (wr.alloc (.cells #[.slice fa fn fc, .slice ga gn gc] 36)) (.slice va cn vc) (Cvi.coverV x ds)) := Dlk.dIs_below VE.out B1.out
                  clear he hx hnx
                  go_wp2_with fail
                  refine (Csd.impl_Implies x (.slice va cn vc) (.slice fa fn fc) (.slice ga gn gc) (Cvi.coverV x ds) d _ HV.out HE.out).mono ?_
                  rintro e w8 ⟨rfl, hb⟩
                  rw [(CT.out d MX.out).1, (CT.out d MX.out).2]
                  have N1 : Hid (Below u1.heap.size u1 w8) := Frame.next B1.out hb B1.out.size
                  clear hb
                  go_wp2
                  go_roundw
                  case rel => exact ⟨k + 1, by omega, by go_num, N1.out⟩
                  case measure => simp [intOf]; omega
                · have BF : Hid (Below w.heap.size w wr) := Frame.next BE.out HN2.out BE.out.size
                  clear hnx
                  go_wp2_with fail
                  refine (Dhr.draw_HoldsIn b m capb ys _ (Mem.IsRow.below HD.out BF.out)).mono ?_
                  rintro e y1 ⟨ra, rn, rc, sa', sn', sc', fa, fn, fc, ga, gn, gc, rr, dd, rfl, hq, he, hb⟩
                  have hb1 : Below y1.heap.size y1 ((y1.alloc (.cells #[.slice ra rn rc, .slice sa' sn' sc'] 42)).alloc (.cells #[.slice fa fn fc, .slice ga gn gc] 36)) := ((Below.refl _ _).alloc (Nat.le_refl _) _).alloc (by simp) _
                  have BY1 : Hid (Below w.heap.size w ((y1.alloc (.cells #[.slice ra rn rc, .slice sa' sn' sc'] 42)).alloc (.cells #[.slice fa fn fc, .slice ga gn gc] 36))) := Frame.next (Frame.next BF.out hb BF.out.size) hb1 (Nat.le_trans BF.out.size hb.size)
                  have QY1 : Hid (Krl.QIs ((y1.alloc (.cells #[.slice ra rn rc, .slice sa' sn' sc'] 42)).alloc (.cells #[.slice fa fn fc, .slice ga gn gc] 36)) (.slice ra rn rc) (.slice sa' sn' sc') rr) := Krl.qIs_below hq hb1
                  have EY1 : Hid (Dls.EIs ((y1.alloc (.cells #[.slice ra rn rc, .slice sa' sn' sc'] 42)).alloc (.cells #[.slice fa fn fc, .slice ga gn gc] 36)) (.slice fa fn fc) (.slice ga gn gc) dd) := Dls.eIs_below he hb1
                  have KY1 : Hid ((((y1.alloc (.cells #[.slice ra rn rc, .slice sa' sn' sc'] 42)).alloc (.cells #[.slice fa fn fc, .slice ga gn gc] 36)).cell? ⟨y1.heap.size, 0, none⟩ = some (.slice ra rn rc) ∧ ((y1.alloc (.cells #[.slice ra rn rc, .slice sa' sn' sc'] 42)).alloc (.cells #[.slice fa fn fc, .slice ga gn gc] 36)).cell? ⟨y1.heap.size, 1, none⟩ = some (.slice sa' sn' sc')) ∧ ((y1.alloc (.cells #[.slice ra rn rc, .slice sa' sn' sc'] 42)).alloc (.cells #[.slice fa fn fc, .slice ga gn gc] 36)).cell? ⟨y1.heap.size + 1, 0, none⟩ = some (.slice fa fn fc) ∧ ((y1.alloc (.cells #[.slice ra rn rc, .slice sa' sn' sc'] 42)).alloc (.cells #[.slice fa fn fc, .slice ga gn gc] 36)).cell? ⟨y1.heap.size + 1, 1, none⟩ = some (.slice ga gn gc)) := by
                    refine ⟨⟨?_, ?_⟩, ?_, ?_⟩ <;> go_simp
                  clear hq he hb hb1
                  go_wp2_with fail
                  refine (Hib.impl_HoldsIn (.slice ra rn rc) (.slice sa' sn' sc') (.slice fa fn fc) (.slice ga gn gc) rr dd _ QY1.out EY1.out).mono ?_
                  rintro e y2 ⟨rfl, hb⟩
                  have BY2 : Hid (Below w.heap.size w y2) := Frame.next BY1.out hb BY1.out.size
                  have QY2 : Hid (Krl.QIs y2 (.slice ra rn rc) (.slice sa' sn' sc') rr) := Krl.qIs_below QY1.out hb
                  have EY2 : Hid (Dls.EIs y2 (.slice fa fn fc) (.slice ga gn gc) dd) := Dls.eIs_below EY1.out hb
                  have cq0 : y2.cell? ⟨y1.heap.size, 0, none⟩ = some (.slice ra rn rc) := (hb.cell (p := ⟨y1.heap.size, 0, none⟩) (Frame.cell_lt KY1.out.1.1)).trans KY1.out.1.1
                  have cq1 : y2.cell? ⟨y1.heap.size, 1, none⟩ = some (.slice sa' sn' sc') := (hb.cell (p := ⟨y1.heap.size, 1, none⟩) (Frame.cell_lt KY1.out.1.2)).trans KY1.out.1.2
                  have cq2 : y2.cell? ⟨y1.heap.size + 1, 0, none⟩ = some (.slice fa fn fc) := (hb.cell (p := ⟨y1.heap.size + 1, 0, none⟩) (Frame.cell_lt KY1.out.2.1)).trans KY1.out.2.1
                  have cq3 : y2.cell? ⟨y1.heap.size + 1, 1, none⟩ = some (.slice ga gn gc) := (hb.cell (p := ⟨y1.heap.size + 1, 1, none⟩) (Frame.cell_lt KY1.out.2.2)).trans KY1.out.2.2
                  clear hb
                  go_wp2_with fail
                  refine (Hic.spec_HoldsIn (.slice ra rn rc) (.slice sa' sn' sc') (.slice fa fn fc) (.slice ga gn gc) rr dd _ QY2.out EY2.out).mono ?_
                  rintro e y3 ⟨rfl, hb⟩
                  have BY3 : Hid (Below w.heap.size w y3) := Frame.next BY2.out hb BY2.out.size
                  clear hb cq0 cq1 cq2 cq3
                  generalize Hia.holdV rr dd = pv
                  generalize Hia.holdG rr dd = pg
                  cases pv <;> cases pg
                  all_goals
                    go_wp2
                    go_ret
                    exact ⟨rfl, BY3.out⟩

set_option maxRecDepth 100000 in
theorem contract (H : Type) (enc : TypeId × Value → H) (W : World) (base : Nat) (args : Array Value) (ds gs : List (DataW H)) (before : List MemPlace)
    (hval0 : ∀ (j : Nat) t v, Try.f3.params[j]? = some t → args[j]? = some v → Value.okWide Try.prog W .any base t v)
    (hW : DataW.Whole enc Try.prog Try.f3.params.toList Rows.fnKeysSpec.vars false W args.toList ds gs before) :
    Calls Try.prog 3 args W fun e W' => ∃ v, e = .returned v ∧ Rows.fnKeysSpec.post enc Try.prog Try.f3 false true false false W args v W' := by
  refine Frame.law_calls (tb := 4) laidOut (by kernel_rfl) (by kernel_rfl) (by kernel_rfl) Try.underlying4 hW (fun ds gs h1 h2 => ?_) ?_
  · rw [Try.params3] at h1
    match ds, gs, h1, h2 with
    | [_, _], [], _, _ => rfl
  · obtain ⟨p, q, hA0, _, _, _, _⟩ := hW
    have hval : ∀ (j : Nat) t v, Try.f3.params[j]? = some t → args[j]? = some v → Value.okWide Try.prog W .any base t v := hval0
    have hA : DataW.TrodAll enc Try.prog W 0 (fun _ => true) true Try.f3.params.toList args.toList ds p := hA0
    rw [Try.params3] at hA hval
    obtain ⟨v0, vs0, d0, ds0, p0, q0, hargs, rfl, rfl, h0, r0⟩ := trodAll_cons hA
    obtain ⟨v1, vs1, d1, ds1, p1, q1, rfl, rfl, rfl, h1, r1⟩ := trodAll_cons r0
    obtain ⟨rfl, rfl, rfl⟩ := trodAll_nil r1
    obtain rfl : args = #[v0, v1] := by cases args; simp_all
    obtain ⟨a0, len0, cap0, rfl⟩ := okWide_slice Try.underlying22 (hval 0 22 v0 rfl rfl)
    obtain ⟨z0, w0⟩ := Frame.isRow_of Try.underlying22 Try.underlying5 (by kernel_rfl) h0
    obtain ⟨a1, len1, cap1, rfl⟩ := okWide_slice Try.underlying22 (hval 1 22 v1 rfl rfl)
    obtain ⟨z1, w1⟩ := Frame.isRow_of Try.underlying22 Try.underlying5 (by kernel_rfl) h1
    exact walk a0 len0 cap0 z0 a1 len1 cap1 z1 W w0 w1

set_option maxRecDepth 100000 in
theorem lifted (os : Os) (started : os.Started) (H : Type) (enc : TypeId × Value → H) :
    ReturnsInHanded {} Try.checked os 3 .any (Rows.fnKeysSpec.pre6 enc Try.prog Try.f3 Rows.fnKeysRow.domain false) (Rows.fnKeysSpec.post enc Try.prog Try.f3 false true false false) := by
  refine returnsInHanded_of_change (C := Try.checked) own started (by kernel_rfl) Try.func3
    (ChangeSpec.witness6 (enc := enc) (C := Try.checked) false ⟨#[], #[.slice none 0 0, .slice none 0 0], []⟩ 8 (by kernel_rfl) (by kernel_rfl) (by kernel_rfl) (by kernel_rfl)) ?_
  intro W base args ds gs before hval hW _ _
  exact contract H enc W base args ds gs before hval hW

theorem fnamed : Try.prog.funcNamed Rows.fnKeysRow.func = some 3 := by kernel_rfl

theorem joined : joinedFacts Try.prog 3 Try.f3 Rows.fnKeysSpec Rows.fnKeysRow = true := by kernel_rfl

/-- The statement. -/
theorem proved : Rows.FnKeysSaid :=
  OpenClaim.holds_of_wide 3 Try.f3 rfl rfl rfl rfl rfl rfl rfl ⟨rfl, rfl, rfl, rfl, rfl⟩ rfl rfl rfl rfl rfl fnamed Try.func3 joined
    (of_decide_eq_true (by kernel_rfl)) (by unfold Func.isWrapper; first | (rw [if_pos (by decide +kernel)]; kernel_rfl) | (rw [if_neg (by decide +kernel)]; exact ⟨rfl, rfl⟩))
    (fun os started H enc _ => lifted os started H enc)
#print axioms proved

end Go.Proofs.Ytekheacbmbbpmaa.fnKeys
