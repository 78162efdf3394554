/-
  Proved: at every two slices of bytes the law FnClosed returns true, and its arguments read afterwards as they did.
-/
import Derived.Test.YtbeielafbegflaaFrame
import Derived.Test.YtbeielafbegflaaDdp
import Derived.Test.YtbeielafbegflaaDlh
import Derived.Test.YtbeielafbegflaaCpx
import Derived.Test.YtbeielafbegflaaSsd
import Derived.Test.YtbeielafbegflaaWsp
import Derived.Test.YtbeielafbegflaaWim
import Derived.Test.YtbeielafbegflaaHib
namespace Go.Proofs.Ytbeielafbegflaa.fnClosed
open Go.ChangeShapes Go.WideShapes Go.ChangeAt Go.RowKit

theorem own : ownKnob Try.prog.godebug = none := by kernel_rfl
theorem laidOut : laidOutB Try.prog = true := by kernel_rfl

set_option maxRecDepth 100000 in
set_option maxHeartbeats 8000000 in
theorem walk (a : Option Addr) (n cap : Nat) (zs : List Int) (b : Option Addr) (m capb : Nat) (ys : List Int) (w : World) (hc : Frame.IsRow .u8 w a n cap zs) (hd : Frame.IsRow .u8 w b m capb ys) :
    Calls Try.prog 3 #[.slice a n cap, .slice b m capb] w fun e w' => e = .returned (.bool true) ∧ Below w.heap.size w w' := by
  have HC : Hid (Frame.IsRow .u8 w a n cap zs) := hc
  have HD : Hid (Frame.IsRow .u8 w b m capb ys) := hd
  clear hc hd
  by_cases hbig : (1048576 : Int) < wrap64 ((n : Int) + (m : Int))
  · go_enter Try.func3, Try.ntmps3
    go_wp2
    go_ret
    exact ⟨rfl, Below.refl _ _⟩
  · go_enter Try.func3, Try.ntmps3
    go_wp2_with fail
    refine (Ddp.draw_Implies a n cap zs _ HC.out).mono ?_
    rintro e w1 ⟨x1, v1, ua, un, uc, ta, tn, tc, ds, d, rfl, hd1, he1, hb1⟩
    obtain ⟨la, ln, lc, rs, rfl, hl1, hl2, hl3⟩ := Dlk.dOwn_is hd1
    have hb2 : Below w1.heap.size w1 (w1.alloc (.cells #[.slice ua un uc, .slice ta tn tc] 26)) := (Below.refl _ _).alloc (Nat.le_refl _) _
    have L_1 : Hid (Dlk.DIs (w1.alloc (.cells #[.slice ua un uc, .slice ta tn tc] 26)) (.slice la ln lc) ds) := Dlk.dIs_below ⟨la, ln, lc, rs, rfl, hl1, hl2, hl3⟩ hb2
    have E_2 : Hid (Dls.EIs (w1.alloc (.cells #[.slice ua un uc, .slice ta tn tc] 26)) (.slice ua un uc) (.slice ta tn tc) d) := Dls.eIs_below ⟨Kep.iOwn_is he1.1, Kep.iOwn_is he1.2⟩ hb2
    have K_3 : Hid ((w1.alloc (.cells #[.slice ua un uc, .slice ta tn tc] 26)).cell? ⟨w1.heap.size, 0, none⟩ = some (.slice ua un uc) ∧ (w1.alloc (.cells #[.slice ua un uc, .slice ta tn tc] 26)).cell? ⟨w1.heap.size, 1, none⟩ = some (.slice ta tn tc)) := ⟨by rw [World.cell?_alloc_at _ _ _ _ rfl]; rfl, by rw [World.cell?_alloc_at _ _ _ _ rfl]; rfl⟩
    have B_4 : Hid (Below w.heap.size w (w1.alloc (.cells #[.slice ua un uc, .slice ta tn tc] 26))) := Frame.next hb1 hb2 hb1.size
    clear hd1 he1 hb1 hb2 hl1 hl2 hl3
    have ccK0 := K_3.out.1
    have ccK1 := K_3.out.2
    go_wp2_with fail
    refine (Csd.impl_Implies x1 (.slice la ln lc) (.slice ua un uc) (.slice ta tn tc) ds d _ L_1.out E_2.out).mono ?_
    rintro e w2 ⟨rfl, hb⟩
    clear ccK0 ccK1
    have L_5 : Hid (Dlk.DIs w2 (.slice la ln lc) ds) := Dlk.dIs_below L_1.out hb
    have E_6 : Hid (Dls.EIs w2 (.slice ua un uc) (.slice ta tn tc) d) := Dls.eIs_below E_2.out hb
    have K_7 : Hid (w2.cell? ⟨w1.heap.size, 0, none⟩ = some (.slice ua un uc) ∧ w2.cell? ⟨w1.heap.size, 1, none⟩ = some (.slice ta tn tc)) := ⟨(hb.cell (p := ⟨w1.heap.size, 0, none⟩) (Frame.cell_lt K_3.out.1)).trans K_3.out.1, (hb.cell (p := ⟨w1.heap.size, 1, none⟩) (Frame.cell_lt K_3.out.2)).trans K_3.out.2⟩
    have B_8 : Hid (Below w.heap.size w w2) := Frame.next B_4.out hb B_4.out.size
    clear hb L_1 E_2 K_3 B_4
    have ccK0 := K_7.out.1
    have ccK1 := K_7.out.2
    go_wp2_with fail
    refine (Ssd.spec_Implies x1 (.slice la ln lc) (.slice ua un uc) (.slice ta tn tc) ds d _ L_5.out E_6.out).mono ?_
    rintro e w3 ⟨rfl, hb⟩
    clear ccK0 ccK1
    have L_9 : Hid (Dlk.DIs w3 (.slice la ln lc) ds) := Dlk.dIs_below L_5.out hb
    have E_10 : Hid (Dls.EIs w3 (.slice ua un uc) (.slice ta tn tc) d) := Dls.eIs_below E_6.out hb
    have K_11 : Hid (w3.cell? ⟨w1.heap.size, 0, none⟩ = some (.slice ua un uc) ∧ w3.cell? ⟨w1.heap.size, 1, none⟩ = some (.slice ta tn tc)) := ⟨(hb.cell (p := ⟨w1.heap.size, 0, none⟩) (Frame.cell_lt K_7.out.1)).trans K_7.out.1, (hb.cell (p := ⟨w1.heap.size, 1, none⟩) (Frame.cell_lt K_7.out.2)).trans K_7.out.2⟩
    have B_12 : Hid (Below w.heap.size w w3) := Frame.next B_8.out hb B_8.out.size
    clear hb L_5 E_6 K_7 B_8
    have ccK0 := K_11.out.1
    have ccK1 := K_11.out.2
    go_wp2_with fail
    refine (Wim.impl_WitnessFor x1 (.slice la ln lc) (.slice ua un uc) (.slice ta tn tc) ds d _ L_9.out E_10.out).mono ?_
    rintro e w4 ⟨pa, pn, pc, qa, qn, qc, rfl, hq, hb0⟩
    clear ccK0 ccK1
    have hb1 : Below w4.heap.size w4 (w4.alloc (.cells #[.slice pa pn pc, .slice qa qn qc] 33)) := (Below.refl _ _).alloc (Nat.le_refl _) _
    have L_13 : Hid (Dlk.DIs w4 (.slice la ln lc) ds) := Dlk.dIs_below L_9.out hb0
    have E_14 : Hid (Dls.EIs w4 (.slice ua un uc) (.slice ta tn tc) d) := Dls.eIs_below E_10.out hb0
    have K_15 : Hid (w4.cell? ⟨w1.heap.size, 0, none⟩ = some (.slice ua un uc) ∧ w4.cell? ⟨w1.heap.size, 1, none⟩ = some (.slice ta tn tc)) := ⟨(hb0.cell (p := ⟨w1.heap.size, 0, none⟩) (Frame.cell_lt K_11.out.1)).trans K_11.out.1, (hb0.cell (p := ⟨w1.heap.size, 1, none⟩) (Frame.cell_lt K_11.out.2)).trans K_11.out.2⟩
    have B_16 : Hid (Below w.heap.size w w4) := Frame.next B_12.out hb0 B_12.out.size
    have L_17 : Hid (Dlk.DIs (w4.alloc (.cells #[.slice pa pn pc, .slice qa qn qc] 33)) (.slice la ln lc) ds) := Dlk.dIs_below L_13.out hb1
    have E_18 : Hid (Dls.EIs (w4.alloc (.cells #[.slice pa pn pc, .slice qa qn qc] 33)) (.slice ua un uc) (.slice ta tn tc) d) := Dls.eIs_below E_14.out hb1
    have K_19 : Hid ((w4.alloc (.cells #[.slice pa pn pc, .slice qa qn qc] 33)).cell? ⟨w1.heap.size, 0, none⟩ = some (.slice ua un uc) ∧ (w4.alloc (.cells #[.slice pa pn pc, .slice qa qn qc] 33)).cell? ⟨w1.heap.size, 1, none⟩ = some (.slice ta tn tc)) := ⟨(hb1.cell (p := ⟨w1.heap.size, 0, none⟩) (Frame.cell_lt K_15.out.1)).trans K_15.out.1, (hb1.cell (p := ⟨w1.heap.size, 1, none⟩) (Frame.cell_lt K_15.out.2)).trans K_15.out.2⟩
    have B_20 : Hid (Below w.heap.size w (w4.alloc (.cells #[.slice pa pn pc, .slice qa qn qc] 33))) := Frame.next B_16.out hb1 B_16.out.size
    have P_21 : Hid (Krl.QIs (w4.alloc (.cells #[.slice pa pn pc, .slice qa qn qc] 33)) (.slice pa pn pc) (.slice qa qn qc) (Wpu.witV x1 ds d)) := Krl.qIs_below (Krl.qOwn_is hq) hb1
    have R_22 : Hid ((w4.alloc (.cells #[.slice pa pn pc, .slice qa qn qc] 33)).cell? ⟨w4.heap.size, 0, none⟩ = some (.slice pa pn pc) ∧ (w4.alloc (.cells #[.slice pa pn pc, .slice qa qn qc] 33)).cell? ⟨w4.heap.size, 1, none⟩ = some (.slice qa qn qc)) := ⟨by rw [World.cell?_alloc_at _ _ _ _ rfl]; rfl, by rw [World.cell?_alloc_at _ _ _ _ rfl]; rfl⟩
    clear hq hb0 hb1 L_9 E_10 K_11 B_12 L_13 E_14 K_15 B_16
    have ccK0 := K_19.out.1
    have ccK1 := K_19.out.2
    have ccR0 := R_22.out.1
    have ccR1 := R_22.out.2
    go_wp2_with fail
    refine (Wsp.spec_WitnessFor x1 (.slice la ln lc) (.slice ua un uc) (.slice ta tn tc) ds d _ L_17.out E_18.out).mono ?_
    rintro e w5 ⟨ra, rn, rc, sa, sn, sc, rfl, hq, hb0⟩
    clear ccK0 ccK1 ccR0 ccR1
    have hb1 : Below w5.heap.size w5 (w5.alloc (.cells #[.slice ra rn rc, .slice sa sn sc] 33)) := (Below.refl _ _).alloc (Nat.le_refl _) _
    have L_23 : Hid (Dlk.DIs w5 (.slice la ln lc) ds) := Dlk.dIs_below L_17.out hb0
    have E_24 : Hid (Dls.EIs w5 (.slice ua un uc) (.slice ta tn tc) d) := Dls.eIs_below E_18.out hb0
    have K_25 : Hid (w5.cell? ⟨w1.heap.size, 0, none⟩ = some (.slice ua un uc) ∧ w5.cell? ⟨w1.heap.size, 1, none⟩ = some (.slice ta tn tc)) := ⟨(hb0.cell (p := ⟨w1.heap.size, 0, none⟩) (Frame.cell_lt K_19.out.1)).trans K_19.out.1, (hb0.cell (p := ⟨w1.heap.size, 1, none⟩) (Frame.cell_lt K_19.out.2)).trans K_19.out.2⟩
    have B_26 : Hid (Below w.heap.size w w5) := Frame.next B_20.out hb0 B_20.out.size
    have P_27 : Hid (Krl.QIs w5 (.slice pa pn pc) (.slice qa qn qc) (Wpu.witV x1 ds d)) := Krl.qIs_below P_21.out hb0
    have R_28 : Hid (w5.cell? ⟨w4.heap.size, 0, none⟩ = some (.slice pa pn pc) ∧ w5.cell? ⟨w4.heap.size, 1, none⟩ = some (.slice qa qn qc)) := ⟨(hb0.cell (p := ⟨w4.heap.size, 0, none⟩) (Frame.cell_lt R_22.out.1)).trans R_22.out.1, (hb0.cell (p := ⟨w4.heap.size, 1, none⟩) (Frame.cell_lt R_22.out.2)).trans R_22.out.2⟩
    have L_29 : Hid (Dlk.DIs (w5.alloc (.cells #[.slice ra rn rc, .slice sa sn sc] 33)) (.slice la ln lc) ds) := Dlk.dIs_below L_23.out hb1
    have E_30 : Hid (Dls.EIs (w5.alloc (.cells #[.slice ra rn rc, .slice sa sn sc] 33)) (.slice ua un uc) (.slice ta tn tc) d) := Dls.eIs_below E_24.out hb1
    have K_31 : Hid ((w5.alloc (.cells #[.slice ra rn rc, .slice sa sn sc] 33)).cell? ⟨w1.heap.size, 0, none⟩ = some (.slice ua un uc) ∧ (w5.alloc (.cells #[.slice ra rn rc, .slice sa sn sc] 33)).cell? ⟨w1.heap.size, 1, none⟩ = some (.slice ta tn tc)) := ⟨(hb1.cell (p := ⟨w1.heap.size, 0, none⟩) (Frame.cell_lt K_25.out.1)).trans K_25.out.1, (hb1.cell (p := ⟨w1.heap.size, 1, none⟩) (Frame.cell_lt K_25.out.2)).trans K_25.out.2⟩
    have B_32 : Hid (Below w.heap.size w (w5.alloc (.cells #[.slice ra rn rc, .slice sa sn sc] 33))) := Frame.next B_26.out hb1 B_26.out.size
    have P_33 : Hid (Krl.QIs (w5.alloc (.cells #[.slice ra rn rc, .slice sa sn sc] 33)) (.slice pa pn pc) (.slice qa qn qc) (Wpu.witV x1 ds d)) := Krl.qIs_below P_27.out hb1
    have R_34 : Hid ((w5.alloc (.cells #[.slice ra rn rc, .slice sa sn sc] 33)).cell? ⟨w4.heap.size, 0, none⟩ = some (.slice pa pn pc) ∧ (w5.alloc (.cells #[.slice ra rn rc, .slice sa sn sc] 33)).cell? ⟨w4.heap.size, 1, none⟩ = some (.slice qa qn qc)) := ⟨(hb1.cell (p := ⟨w4.heap.size, 0, none⟩) (Frame.cell_lt R_28.out.1)).trans R_28.out.1, (hb1.cell (p := ⟨w4.heap.size, 1, none⟩) (Frame.cell_lt R_28.out.2)).trans R_28.out.2⟩
    have Px_35 : Hid (Krl.QIs (w5.alloc (.cells #[.slice ra rn rc, .slice sa sn sc] 33)) (.slice ra rn rc) (.slice sa sn sc) (Wpu.witV x1 ds d)) := Krl.qIs_below (Krl.qOwn_is hq) hb1
    have Rx_36 : Hid ((w5.alloc (.cells #[.slice ra rn rc, .slice sa sn sc] 33)).cell? ⟨w5.heap.size, 0, none⟩ = some (.slice ra rn rc) ∧ (w5.alloc (.cells #[.slice ra rn rc, .slice sa sn sc] 33)).cell? ⟨w5.heap.size, 1, none⟩ = some (.slice sa sn sc)) := ⟨by rw [World.cell?_alloc_at _ _ _ _ rfl]; rfl, by rw [World.cell?_alloc_at _ _ _ _ rfl]; rfl⟩
    clear hq hb0 hb1 L_17 E_18 K_19 B_20 P_21 R_22 L_23 E_24 K_25 B_26 P_27 R_28
    rcases Wsp.em_bool (Csd.impG x1 ds d) with hg | hg
    · have hI : Csd.impV x1 ds d = false := by unfold Csd.impV; rw [hg]; rfl
      have hW : Wpu.witG x1 ds d = false := by unfold Wpu.witG; rw [hg]; rfl
      rw [hI, hW, hg]
      clear hI hW hg
      have ccR0 := R_34.out.1
      have ccR1 := R_34.out.2
      have ccRx0 := Rx_36.out.1
      have ccRx1 := Rx_36.out.2
      go_wp2_with fail
      refine (Dlh.sameRelation (.slice pa pn pc) (.slice qa qn qc) (.slice ra rn rc) (.slice sa sn sc) _ _ _ P_33.out Px_35.out).mono ?_
      rintro e w6 ⟨rfl, hb⟩
      clear ccR0 ccR1 ccRx0 ccRx1
      rw [decide_eq_true (Eq.refl (Wpu.witV x1 ds d))]
      have L_37 : Hid (Dlk.DIs w6 (.slice la ln lc) ds) := Dlk.dIs_below L_29.out hb
      have E_38 : Hid (Dls.EIs w6 (.slice ua un uc) (.slice ta tn tc) d) := Dls.eIs_below E_30.out hb
      have K_39 : Hid (w6.cell? ⟨w1.heap.size, 0, none⟩ = some (.slice ua un uc) ∧ w6.cell? ⟨w1.heap.size, 1, none⟩ = some (.slice ta tn tc)) := ⟨(hb.cell (p := ⟨w1.heap.size, 0, none⟩) (Frame.cell_lt K_31.out.1)).trans K_31.out.1, (hb.cell (p := ⟨w1.heap.size, 1, none⟩) (Frame.cell_lt K_31.out.2)).trans K_31.out.2⟩
      have B_40 : Hid (Below w.heap.size w w6) := Frame.next B_32.out hb B_32.out.size
      have P_41 : Hid (Krl.QIs w6 (.slice pa pn pc) (.slice qa qn qc) (Wpu.witV x1 ds d)) := Krl.qIs_below P_33.out hb
      have R_42 : Hid (w6.cell? ⟨w4.heap.size, 0, none⟩ = some (.slice pa pn pc) ∧ w6.cell? ⟨w4.heap.size, 1, none⟩ = some (.slice qa qn qc)) := ⟨(hb.cell (p := ⟨w4.heap.size, 0, none⟩) (Frame.cell_lt R_34.out.1)).trans R_34.out.1, (hb.cell (p := ⟨w4.heap.size, 1, none⟩) (Frame.cell_lt R_34.out.2)).trans R_34.out.2⟩
      have Px_43 : Hid (Krl.QIs w6 (.slice ra rn rc) (.slice sa sn sc) (Wpu.witV x1 ds d)) := Krl.qIs_below Px_35.out hb
      have Rx_44 : Hid (w6.cell? ⟨w5.heap.size, 0, none⟩ = some (.slice ra rn rc) ∧ w6.cell? ⟨w5.heap.size, 1, none⟩ = some (.slice sa sn sc)) := ⟨(hb.cell (p := ⟨w5.heap.size, 0, none⟩) (Frame.cell_lt Rx_36.out.1)).trans Rx_36.out.1, (hb.cell (p := ⟨w5.heap.size, 1, none⟩) (Frame.cell_lt Rx_36.out.2)).trans Rx_36.out.2⟩
      clear hb L_29 E_30 K_31 B_32 P_33 R_34 Px_35 Rx_36
      clear L_37 E_38 K_39 P_41 R_42 Px_43 Rx_44
      go_wp2_with fail
      refine (Ddp.draw_ClosureOf b m capb ys _ (Mem.IsRow.below HD.out B_40.out)).mono ?_
      rintro e y1 ⟨c2, v2, u2, es, xs, rfl, hv, hu, hb⟩
      have BY1 : Hid (Below w.heap.size w y1) := Frame.next B_40.out hb B_40.out.size
      have VY1 : Hid (Dlk.DIs y1 v2 es) := hv
      have UY1 : Hid (Kep.IIs y1 u2 xs) := hu
      clear hv hu hb
      go_wp2_with fail
      refine (Csd.impl_ClosureOf c2 v2 u2 es xs _ VY1.out UY1.out).mono ?_
      rintro e y2 ⟨o2, rfl, ho, hb⟩
      have BY2 : Hid (Below w.heap.size w y2) := Frame.next BY1.out hb BY1.out.size
      have VY2 : Hid (Dlk.DIs y2 v2 es) := Dlk.dIs_below VY1.out hb
      have UY2 : Hid (Kep.IIs y2 u2 xs) := Kep.iIs_below UY1.out hb
      have OY2 : Hid (Kep.IIs y2 o2 (Csd.closV c2 es xs)) := Kep.iOwn_is ho
      clear ho hb VY1 UY1
      go_wp2_with fail
      refine (Ssd.spec_ClosureOf c2 v2 u2 es xs _ VY2.out UY2.out).mono ?_
      rintro e y3 ⟨o3, rfl, ho, hb⟩
      have BY3 : Hid (Below w.heap.size w y3) := Frame.next BY2.out hb BY2.out.size
      have VY3 : Hid (Dlk.DIs y3 v2 es) := Dlk.dIs_below VY2.out hb
      have OY3 : Hid (Kep.IIs y3 o2 (Csd.closV c2 es xs)) := Kep.iIs_below OY2.out hb
      have QY3 : Hid (Kep.IIs y3 o3 (Csd.closV c2 es xs)) := Kep.iOwn_is ho
      clear ho hb VY2 UY2 OY2
      rcases Wsp.em_bool (Csd.closG c2 es xs) with hcg | hcg
      · rw [hcg]
        clear hcg
        go_wp2_with fail
        refine (Dlh.sameInts _ _ _ _ _ OY3.out QY3.out).mono ?_
        rintro e y4 ⟨rfl, hb⟩
        rw [decide_eq_true (Eq.refl (Csd.closV c2 es xs))]
        have BY4 : Hid (Below w.heap.size w y4) := Frame.next BY3.out hb BY3.out.size
        clear hb
        go_wp2
        go_ret
        exact ⟨rfl, BY4.out⟩
      · have AG : Hid (Csd.closG c2 es (Csd.closV c2 es xs) = true ∧ Csd.closV c2 es (Csd.closV c2 es xs) = Csd.closV c2 es xs) := Cpx.again hcg
        rw [hcg]
        clear hcg
        go_wp2_with fail
        refine (Dlh.sameInts _ _ _ _ _ OY3.out QY3.out).mono ?_
        rintro e y4 ⟨rfl, hb⟩
        rw [decide_eq_true (Eq.refl (Csd.closV c2 es xs))]
        have BY4 : Hid (Below w.heap.size w y4) := Frame.next BY3.out hb BY3.out.size
        have VY4 : Hid (Dlk.DIs y4 v2 es) := Dlk.dIs_below VY3.out hb
        have OY4 : Hid (Kep.IIs y4 o2 (Csd.closV c2 es xs)) := Kep.iIs_below OY3.out hb
        clear hb
        go_wp2_with fail
        refine (Csd.impl_ClosureOf c2 v2 o2 es (Csd.closV c2 es xs) _ VY4.out OY4.out).mono ?_
        rintro e y5 ⟨o5, rfl, ho, hb⟩
        rw [AG.out.1]
        have BY5 : Hid (Below w.heap.size w y5) := Frame.next BY4.out hb BY4.out.size
        have OY5 : Hid (Kep.IIs y5 o2 (Csd.closV c2 es xs)) := Kep.iIs_below OY4.out hb
        have PY5 : Hid (Kep.IIs y5 o5 (Csd.closV c2 es xs)) := by have h1 := Kep.iOwn_is ho; rw [AG.out.2] at h1; exact h1
        clear ho hb
        go_wp2_with fail
        refine (Dlh.sameInts _ _ _ _ _ PY5.out OY5.out).mono ?_
        rintro e y6 ⟨rfl, hb⟩
        rw [decide_eq_true (Eq.refl (Csd.closV c2 es xs))]
        have BY6 : Hid (Below w.heap.size w y6) := Frame.next BY5.out hb BY5.out.size
        clear hb
        go_wp2
        go_ret
        exact ⟨rfl, BY6.out⟩
    · rcases (Wsp.em_bool (Csd.impB ds d)).symm with hi | hi
      · have hI : Csd.impV x1 ds d = true := by unfold Csd.impV; rw [hg, hi]; rfl
        have hW : Wpu.witG x1 ds d = false := by unfold Wpu.witG; rw [hg, hi]; rfl
        rw [hI, hW, hg]
        clear hI hW hg hi
        have ccR0 := R_34.out.1
        have ccR1 := R_34.out.2
        have ccRx0 := Rx_36.out.1
        have ccRx1 := Rx_36.out.2
        go_wp2_with fail
        refine (Dlh.sameRelation (.slice pa pn pc) (.slice qa qn qc) (.slice ra rn rc) (.slice sa sn sc) _ _ _ P_33.out Px_35.out).mono ?_
        rintro e w6 ⟨rfl, hb⟩
        clear ccR0 ccR1 ccRx0 ccRx1
        rw [decide_eq_true (Eq.refl (Wpu.witV x1 ds d))]
        have L_37 : Hid (Dlk.DIs w6 (.slice la ln lc) ds) := Dlk.dIs_below L_29.out hb
        have E_38 : Hid (Dls.EIs w6 (.slice ua un uc) (.slice ta tn tc) d) := Dls.eIs_below E_30.out hb
        have K_39 : Hid (w6.cell? ⟨w1.heap.size, 0, none⟩ = some (.slice ua un uc) ∧ w6.cell? ⟨w1.heap.size, 1, none⟩ = some (.slice ta tn tc)) := ⟨(hb.cell (p := ⟨w1.heap.size, 0, none⟩) (Frame.cell_lt K_31.out.1)).trans K_31.out.1, (hb.cell (p := ⟨w1.heap.size, 1, none⟩) (Frame.cell_lt K_31.out.2)).trans K_31.out.2⟩
        have B_40 : Hid (Below w.heap.size w w6) := Frame.next B_32.out hb B_32.out.size
        have P_41 : Hid (Krl.QIs w6 (.slice pa pn pc) (.slice qa qn qc) (Wpu.witV x1 ds d)) := Krl.qIs_below P_33.out hb
        have R_42 : Hid (w6.cell? ⟨w4.heap.size, 0, none⟩ = some (.slice pa pn pc) ∧ w6.cell? ⟨w4.heap.size, 1, none⟩ = some (.slice qa qn qc)) := ⟨(hb.cell (p := ⟨w4.heap.size, 0, none⟩) (Frame.cell_lt R_34.out.1)).trans R_34.out.1, (hb.cell (p := ⟨w4.heap.size, 1, none⟩) (Frame.cell_lt R_34.out.2)).trans R_34.out.2⟩
        have Px_43 : Hid (Krl.QIs w6 (.slice ra rn rc) (.slice sa sn sc) (Wpu.witV x1 ds d)) := Krl.qIs_below Px_35.out hb
        have Rx_44 : Hid (w6.cell? ⟨w5.heap.size, 0, none⟩ = some (.slice ra rn rc) ∧ w6.cell? ⟨w5.heap.size, 1, none⟩ = some (.slice sa sn sc)) := ⟨(hb.cell (p := ⟨w5.heap.size, 0, none⟩) (Frame.cell_lt Rx_36.out.1)).trans Rx_36.out.1, (hb.cell (p := ⟨w5.heap.size, 1, none⟩) (Frame.cell_lt Rx_36.out.2)).trans Rx_36.out.2⟩
        clear hb L_29 E_30 K_31 B_32 P_33 R_34 Px_35 Rx_36
        clear L_37 E_38 K_39 P_41 R_42 Px_43 Rx_44
        go_wp2_with fail
        refine (Ddp.draw_ClosureOf b m capb ys _ (Mem.IsRow.below HD.out B_40.out)).mono ?_
        rintro e y1 ⟨c2, v2, u2, es, xs, rfl, hv, hu, hb⟩
        have BY1 : Hid (Below w.heap.size w y1) := Frame.next B_40.out hb B_40.out.size
        have VY1 : Hid (Dlk.DIs y1 v2 es) := hv
        have UY1 : Hid (Kep.IIs y1 u2 xs) := hu
        clear hv hu hb
        go_wp2_with fail
        refine (Csd.impl_ClosureOf c2 v2 u2 es xs _ VY1.out UY1.out).mono ?_
        rintro e y2 ⟨o2, rfl, ho, hb⟩
        have BY2 : Hid (Below w.heap.size w y2) := Frame.next BY1.out hb BY1.out.size
        have VY2 : Hid (Dlk.DIs y2 v2 es) := Dlk.dIs_below VY1.out hb
        have UY2 : Hid (Kep.IIs y2 u2 xs) := Kep.iIs_below UY1.out hb
        have OY2 : Hid (Kep.IIs y2 o2 (Csd.closV c2 es xs)) := Kep.iOwn_is ho
        clear ho hb VY1 UY1
        go_wp2_with fail
        refine (Ssd.spec_ClosureOf c2 v2 u2 es xs _ VY2.out UY2.out).mono ?_
        rintro e y3 ⟨o3, rfl, ho, hb⟩
        have BY3 : Hid (Below w.heap.size w y3) := Frame.next BY2.out hb BY2.out.size
        have VY3 : Hid (Dlk.DIs y3 v2 es) := Dlk.dIs_below VY2.out hb
        have OY3 : Hid (Kep.IIs y3 o2 (Csd.closV c2 es xs)) := Kep.iIs_below OY2.out hb
        have QY3 : Hid (Kep.IIs y3 o3 (Csd.closV c2 es xs)) := Kep.iOwn_is ho
        clear ho hb VY2 UY2 OY2
        rcases Wsp.em_bool (Csd.closG c2 es xs) with hcg | hcg
        · rw [hcg]
          clear hcg
          go_wp2_with fail
          refine (Dlh.sameInts _ _ _ _ _ OY3.out QY3.out).mono ?_
          rintro e y4 ⟨rfl, hb⟩
          rw [decide_eq_true (Eq.refl (Csd.closV c2 es xs))]
          have BY4 : Hid (Below w.heap.size w y4) := Frame.next BY3.out hb BY3.out.size
          clear hb
          go_wp2
          go_ret
          exact ⟨rfl, BY4.out⟩
        · have AG : Hid (Csd.closG c2 es (Csd.closV c2 es xs) = true ∧ Csd.closV c2 es (Csd.closV c2 es xs) = Csd.closV c2 es xs) := Cpx.again hcg
          rw [hcg]
          clear hcg
          go_wp2_with fail
          refine (Dlh.sameInts _ _ _ _ _ OY3.out QY3.out).mono ?_
          rintro e y4 ⟨rfl, hb⟩
          rw [decide_eq_true (Eq.refl (Csd.closV c2 es xs))]
          have BY4 : Hid (Below w.heap.size w y4) := Frame.next BY3.out hb BY3.out.size
          have VY4 : Hid (Dlk.DIs y4 v2 es) := Dlk.dIs_below VY3.out hb
          have OY4 : Hid (Kep.IIs y4 o2 (Csd.closV c2 es xs)) := Kep.iIs_below OY3.out hb
          clear hb
          go_wp2_with fail
          refine (Csd.impl_ClosureOf c2 v2 o2 es (Csd.closV c2 es xs) _ VY4.out OY4.out).mono ?_
          rintro e y5 ⟨o5, rfl, ho, hb⟩
          rw [AG.out.1]
          have BY5 : Hid (Below w.heap.size w y5) := Frame.next BY4.out hb BY4.out.size
          have OY5 : Hid (Kep.IIs y5 o2 (Csd.closV c2 es xs)) := Kep.iIs_below OY4.out hb
          have PY5 : Hid (Kep.IIs y5 o5 (Csd.closV c2 es xs)) := by have h1 := Kep.iOwn_is ho; rw [AG.out.2] at h1; exact h1
          clear ho hb
          go_wp2_with fail
          refine (Dlh.sameInts _ _ _ _ _ PY5.out OY5.out).mono ?_
          rintro e y6 ⟨rfl, hb⟩
          rw [decide_eq_true (Eq.refl (Csd.closV c2 es xs))]
          have BY6 : Hid (Below w.heap.size w y6) := Frame.next BY5.out hb BY5.out.size
          clear hb
          go_wp2
          go_ret
          exact ⟨rfl, BY6.out⟩
      · have hI : Csd.impV x1 ds d = false := by unfold Csd.impV; rw [hg, hi]; rfl
        have hW : Wpu.witG x1 ds d = true := by unfold Wpu.witG; rw [hg, hi]; rfl
        have WV : Hid (Hia.holdV (Wpu.witV x1 ds d) d = false ∧ Hia.holdG (Wpu.witV x1 ds d) d = true ∧ ∀ x ∈ ds, Hia.holdV (Wpu.witV x1 ds d) x = true ∧ Hia.holdG (Wpu.witV x1 ds d) x = true) := Cpx.shown hg hi
        rw [hI, hW, hg]
        clear hI hW hg hi
        have ccR0 := R_34.out.1
        have ccR1 := R_34.out.2
        have ccRx0 := Rx_36.out.1
        have ccRx1 := Rx_36.out.2
        go_wp2_with fail
        refine (Dlh.sameRelation (.slice pa pn pc) (.slice qa qn qc) (.slice ra rn rc) (.slice sa sn sc) _ _ _ P_33.out Px_35.out).mono ?_
        rintro e w6 ⟨rfl, hb⟩
        clear ccR0 ccR1 ccRx0 ccRx1
        rw [decide_eq_true (Eq.refl (Wpu.witV x1 ds d))]
        have L_37 : Hid (Dlk.DIs w6 (.slice la ln lc) ds) := Dlk.dIs_below L_29.out hb
        have E_38 : Hid (Dls.EIs w6 (.slice ua un uc) (.slice ta tn tc) d) := Dls.eIs_below E_30.out hb
        have K_39 : Hid (w6.cell? ⟨w1.heap.size, 0, none⟩ = some (.slice ua un uc) ∧ w6.cell? ⟨w1.heap.size, 1, none⟩ = some (.slice ta tn tc)) := ⟨(hb.cell (p := ⟨w1.heap.size, 0, none⟩) (Frame.cell_lt K_31.out.1)).trans K_31.out.1, (hb.cell (p := ⟨w1.heap.size, 1, none⟩) (Frame.cell_lt K_31.out.2)).trans K_31.out.2⟩
        have B_40 : Hid (Below w.heap.size w w6) := Frame.next B_32.out hb B_32.out.size
        have P_41 : Hid (Krl.QIs w6 (.slice pa pn pc) (.slice qa qn qc) (Wpu.witV x1 ds d)) := Krl.qIs_below P_33.out hb
        have R_42 : Hid (w6.cell? ⟨w4.heap.size, 0, none⟩ = some (.slice pa pn pc) ∧ w6.cell? ⟨w4.heap.size, 1, none⟩ = some (.slice qa qn qc)) := ⟨(hb.cell (p := ⟨w4.heap.size, 0, none⟩) (Frame.cell_lt R_34.out.1)).trans R_34.out.1, (hb.cell (p := ⟨w4.heap.size, 1, none⟩) (Frame.cell_lt R_34.out.2)).trans R_34.out.2⟩
        have Px_43 : Hid (Krl.QIs w6 (.slice ra rn rc) (.slice sa sn sc) (Wpu.witV x1 ds d)) := Krl.qIs_below Px_35.out hb
        have Rx_44 : Hid (w6.cell? ⟨w5.heap.size, 0, none⟩ = some (.slice ra rn rc) ∧ w6.cell? ⟨w5.heap.size, 1, none⟩ = some (.slice sa sn sc)) := ⟨(hb.cell (p := ⟨w5.heap.size, 0, none⟩) (Frame.cell_lt Rx_36.out.1)).trans Rx_36.out.1, (hb.cell (p := ⟨w5.heap.size, 1, none⟩) (Frame.cell_lt Rx_36.out.2)).trans Rx_36.out.2⟩
        clear hb L_29 E_30 K_31 B_32 P_33 R_34 Px_35 Rx_36
        have ccR0 := R_42.out.1
        have ccR1 := R_42.out.2
        have ccK0 := K_39.out.1
        have ccK1 := K_39.out.2
        go_wp2_with fail
        refine (Hib.impl_HoldsIn (.slice pa pn pc) (.slice qa qn qc) (.slice ua un uc) (.slice ta tn tc) (Wpu.witV x1 ds d) d _ P_41.out E_38.out).mono ?_
        rintro e w7 ⟨rfl, hb⟩
        clear ccR0 ccR1 ccK0 ccK1
        rw [WV.out.1, WV.out.2.1]
        have L_45 : Hid (Dlk.DIs w7 (.slice la ln lc) ds) := Dlk.dIs_below L_37.out hb
        have P_46 : Hid (Krl.QIs w7 (.slice pa pn pc) (.slice qa qn qc) (Wpu.witV x1 ds d)) := Krl.qIs_below P_41.out hb
        have R_47 : Hid (w7.cell? ⟨w4.heap.size, 0, none⟩ = some (.slice pa pn pc) ∧ w7.cell? ⟨w4.heap.size, 1, none⟩ = some (.slice qa qn qc)) := ⟨(hb.cell (p := ⟨w4.heap.size, 0, none⟩) (Frame.cell_lt R_42.out.1)).trans R_42.out.1, (hb.cell (p := ⟨w4.heap.size, 1, none⟩) (Frame.cell_lt R_42.out.2)).trans R_42.out.2⟩
        have B_48 : Hid (Below w.heap.size w w7) := Frame.next B_40.out hb B_40.out.size
        clear hb L_37 E_38 K_39 B_40 P_41 R_42 Px_43 Rx_44
        obtain ⟨_, _, _, rs, hsl, hIG, hdp, hsm⟩ := L_45.out
        cases hsl
        have IG : Hid (Dls.IsG w7 la ln lc rs) := hIG
        have RS : Hid (∀ r ∈ rs, r.n ≤ 1048576) := (Dlk.small_ds hsm).2
        have LN : Hid (ln ≤ 1048576) := (Dlk.small_ds hsm).1
        have DP : Hid (Dls.dpl rs = ds) := hdp
        have DL : Hid (ds.length = ln) := by show _ = _; rw [← hdp]; exact Dls.dpl_length ln rs hIG.len
        clear hIG hdp hsm
        have hln := LN.out
        go_wp2_with fail
        go_loopw [112] (fun i wr => ∃ k : Nat, k ≤ ln ∧ i = .int .i64 k ∧ Below w7.heap.size w7 wr) (fun i _ => ln - (intOf i).toNat)
        case atStart => exact ⟨0, Nat.zero_le _, rfl, Below.refl _ _⟩
        case round =>
          obtain ⟨k, hk, rfl, hnx⟩ := hrel
          have HN : Hid (Below w7.heap.size w7 wr) := hnx
          have hsr := hnx.size
          by_cases hlt : k < ln
          · obtain ⟨bb, off, fa, fn, fc, ga, gn, gc, x, hla, p0, p1, he, hx⟩ := Dga.dep_at IG.out hnx hlt RS.out
            subst hla
            have MX : Hid (x ∈ ds) := by
              rw [DP.out] at hx
              have h1 : k < ds.length := by rw [DL.out]; exact hlt
              rw [show ds.getD k Dls.d0 = ds[k] by simp [List.getD, h1]] at hx
              show x ∈ ds
              rw [← hx]
              exact List.getElem_mem h1
            have B1 : Hid (Below w7.heap.size w7 (wr.alloc (.cells #[.slice fa fn fc, .slice ga gn gc] 26))) := hnx.alloc hsr _
            have HE : Hid (Dls.EIs (wr.alloc (.cells #[.slice fa fn fc, .slice ga gn gc] 26)) (.slice fa fn fc) (.slice ga gn gc) x) := Dls.eIs_below he ((Below.refl _ _).alloc (Nat.le_refl _) _)
            have HP : Hid (Krl.QIs (wr.alloc (.cells #[.slice fa fn fc, .slice ga gn gc] 26)) (.slice pa pn pc) (.slice qa qn qc) (Wpu.witV x1 ds d)) := Krl.qIs_below P_46.out B1.out
            have ccR0 : (wr.alloc (.cells #[.slice fa fn fc, .slice ga gn gc] 26)).cell? ⟨w4.heap.size, 0, none⟩ = some (.slice pa pn pc) := (B1.out.cell (p := ⟨w4.heap.size, 0, none⟩) (Frame.cell_lt R_47.out.1)).trans R_47.out.1
            have ccR1 : (wr.alloc (.cells #[.slice fa fn fc, .slice ga gn gc] 26)).cell? ⟨w4.heap.size, 1, none⟩ = some (.slice qa qn qc) := (B1.out.cell (p := ⟨w4.heap.size, 1, none⟩) (Frame.cell_lt R_47.out.2)).trans R_47.out.2
            clear he hx hnx
            go_wp2_with fail
            refine (Hib.impl_HoldsIn (.slice pa pn pc) (.slice qa qn qc) (.slice fa fn fc) (.slice ga gn gc) (Wpu.witV x1 ds d) x _ HP.out HE.out).mono ?_
            rintro e w8 ⟨rfl, hb⟩
            rw [(WV.out.2.2 x MX.out).1, (WV.out.2.2 x MX.out).2]
            have N1 : Hid (Below w7.heap.size w7 w8) := Frame.next B1.out hb B1.out.size
            clear hb ccR0 ccR1
            go_wp2
            go_roundw
            case rel => exact ⟨k + 1, by omega, by go_num, N1.out⟩
            case measure => simp [intOf]; omega
          · have BE : Hid (Below w.heap.size w wr) := Frame.next B_48.out HN.out B_48.out.size
            clear hnx
            go_wp2_with fail
            refine (Ddp.draw_ClosureOf b m capb ys _ (Mem.IsRow.below HD.out BE.out)).mono ?_
            rintro e y1 ⟨c2, v2, u2, es, xs, rfl, hv, hu, hb⟩
            have BY1 : Hid (Below w.heap.size w y1) := Frame.next BE.out hb BE.out.size
            have VY1 : Hid (Dlk.DIs y1 v2 es) := hv
            have UY1 : Hid (Kep.IIs y1 u2 xs) := hu
            clear hv hu hb
            go_wp2_with fail
            refine (Csd.impl_ClosureOf c2 v2 u2 es xs _ VY1.out UY1.out).mono ?_
            rintro e y2 ⟨o2, rfl, ho, hb⟩
            have BY2 : Hid (Below w.heap.size w y2) := Frame.next BY1.out hb BY1.out.size
            have VY2 : Hid (Dlk.DIs y2 v2 es) := Dlk.dIs_below VY1.out hb
            have UY2 : Hid (Kep.IIs y2 u2 xs) := Kep.iIs_below UY1.out hb
            have OY2 : Hid (Kep.IIs y2 o2 (Csd.closV c2 es xs)) := Kep.iOwn_is ho
            clear ho hb VY1 UY1
            go_wp2_with fail
            refine (Ssd.spec_ClosureOf c2 v2 u2 es xs _ VY2.out UY2.out).mono ?_
            rintro e y3 ⟨o3, rfl, ho, hb⟩
            have BY3 : Hid (Below w.heap.size w y3) := Frame.next BY2.out hb BY2.out.size
            have VY3 : Hid (Dlk.DIs y3 v2 es) := Dlk.dIs_below VY2.out hb
            have OY3 : Hid (Kep.IIs y3 o2 (Csd.closV c2 es xs)) := Kep.iIs_below OY2.out hb
            have QY3 : Hid (Kep.IIs y3 o3 (Csd.closV c2 es xs)) := Kep.iOwn_is ho
            clear ho hb VY2 UY2 OY2
            rcases Wsp.em_bool (Csd.closG c2 es xs) with hcg | hcg
            · rw [hcg]
              clear hcg
              go_wp2_with fail
              refine (Dlh.sameInts _ _ _ _ _ OY3.out QY3.out).mono ?_
              rintro e y4 ⟨rfl, hb⟩
              rw [decide_eq_true (Eq.refl (Csd.closV c2 es xs))]
              have BY4 : Hid (Below w.heap.size w y4) := Frame.next BY3.out hb BY3.out.size
              clear hb
              go_wp2
              go_ret
              exact ⟨rfl, BY4.out⟩
            · have AG : Hid (Csd.closG c2 es (Csd.closV c2 es xs) = true ∧ Csd.closV c2 es (Csd.closV c2 es xs) = Csd.closV c2 es xs) := Cpx.again hcg
              rw [hcg]
              clear hcg
              go_wp2_with fail
              refine (Dlh.sameInts _ _ _ _ _ OY3.out QY3.out).mono ?_
              rintro e y4 ⟨rfl, hb⟩
              rw [decide_eq_true (Eq.refl (Csd.closV c2 es xs))]
              have BY4 : Hid (Below w.heap.size w y4) := Frame.next BY3.out hb BY3.out.size
              have VY4 : Hid (Dlk.DIs y4 v2 es) := Dlk.dIs_below VY3.out hb
              have OY4 : Hid (Kep.IIs y4 o2 (Csd.closV c2 es xs)) := Kep.iIs_below OY3.out hb
              clear hb
              go_wp2_with fail
              refine (Csd.impl_ClosureOf c2 v2 o2 es (Csd.closV c2 es xs) _ VY4.out OY4.out).mono ?_
              rintro e y5 ⟨o5, rfl, ho, hb⟩
              rw [AG.out.1]
              have BY5 : Hid (Below w.heap.size w y5) := Frame.next BY4.out hb BY4.out.size
              have OY5 : Hid (Kep.IIs y5 o2 (Csd.closV c2 es xs)) := Kep.iIs_below OY4.out hb
              have PY5 : Hid (Kep.IIs y5 o5 (Csd.closV c2 es xs)) := by have h1 := Kep.iOwn_is ho; rw [AG.out.2] at h1; exact h1
              clear ho hb
              go_wp2_with fail
              refine (Dlh.sameInts _ _ _ _ _ PY5.out OY5.out).mono ?_
              rintro e y6 ⟨rfl, hb⟩
              rw [decide_eq_true (Eq.refl (Csd.closV c2 es xs))]
              have BY6 : Hid (Below w.heap.size w y6) := Frame.next BY5.out hb BY5.out.size
              clear hb
              go_wp2
              go_ret
              exact ⟨rfl, BY6.out⟩

set_option maxRecDepth 100000 in
theorem contract (H : Type) (enc : TypeId × Value → H) (W : World) (base : Nat) (args : Array Value) (ds gs : List (DataW H)) (before : List MemPlace)
    (hval0 : ∀ (j : Nat) t v, Try.f3.params[j]? = some t → args[j]? = some v → Value.okWide Try.prog W .any base t v)
    (hW : DataW.Whole enc Try.prog Try.f3.params.toList Rows.fnClosedSpec.vars false W args.toList ds gs before) :
    Calls Try.prog 3 args W fun e W' => ∃ v, e = .returned v ∧ Rows.fnClosedSpec.post enc Try.prog Try.f3 false true false false W args v W' := by
  refine Frame.law_calls (tb := 4) laidOut (by kernel_rfl) (by kernel_rfl) (by kernel_rfl) Try.underlying4 hW (fun ds gs h1 h2 => ?_) ?_
  · rw [Try.params3] at h1
    match ds, gs, h1, h2 with
    | [_, _], [], _, _ => rfl
  · obtain ⟨p, q, hA0, _, _, _, _⟩ := hW
    have hval : ∀ (j : Nat) t v, Try.f3.params[j]? = some t → args[j]? = some v → Value.okWide Try.prog W .any base t v := hval0
    have hA : DataW.TrodAll enc Try.prog W 0 (fun _ => true) true Try.f3.params.toList args.toList ds p := hA0
    rw [Try.params3] at hA hval
    obtain ⟨v0, vs0, d0, ds0, p0, q0, hargs, rfl, rfl, h0, r0⟩ := trodAll_cons hA
    obtain ⟨v1, vs1, d1, ds1, p1, q1, rfl, rfl, rfl, h1, r1⟩ := trodAll_cons r0
    obtain ⟨rfl, rfl, rfl⟩ := trodAll_nil r1
    obtain rfl : args = #[v0, v1] := by cases args; simp_all
    obtain ⟨a0, len0, cap0, rfl⟩ := okWide_slice Try.underlying22 (hval 0 22 v0 rfl rfl)
    obtain ⟨z0, w0⟩ := Frame.isRow_of Try.underlying22 Try.underlying5 (by kernel_rfl) h0
    obtain ⟨a1, len1, cap1, rfl⟩ := okWide_slice Try.underlying22 (hval 1 22 v1 rfl rfl)
    obtain ⟨z1, w1⟩ := Frame.isRow_of Try.underlying22 Try.underlying5 (by kernel_rfl) h1
    exact walk a0 len0 cap0 z0 a1 len1 cap1 z1 W w0 w1

set_option maxRecDepth 100000 in
theorem lifted (os : Os) (started : os.Started) (H : Type) (enc : TypeId × Value → H) :
    ReturnsInHanded {} Try.checked os 3 .any (Rows.fnClosedSpec.pre6 enc Try.prog Try.f3 Rows.fnClosedRow.domain false) (Rows.fnClosedSpec.post enc Try.prog Try.f3 false true false false) := by
  refine returnsInHanded_of_change (C := Try.checked) own started (by kernel_rfl) Try.func3
    (ChangeSpec.witness6 (enc := enc) (C := Try.checked) false ⟨#[], #[.slice none 0 0, .slice none 0 0], []⟩ 8 (by kernel_rfl) (by kernel_rfl) (by kernel_rfl) (by kernel_rfl)) ?_
  intro W base args ds gs before hval hW _ _
  exact contract H enc W base args ds gs before hval hW

theorem fnamed : Try.prog.funcNamed Rows.fnClosedRow.func = some 3 := by kernel_rfl

theorem joined : joinedFacts Try.prog 3 Try.f3 Rows.fnClosedSpec Rows.fnClosedRow = true := by kernel_rfl

/-- The statement. -/
theorem proved : Rows.FnClosedSaid :=
  OpenClaim.holds_of_wide 3 Try.f3 rfl rfl rfl rfl rfl rfl rfl ⟨rfl, rfl, rfl, rfl, rfl⟩ rfl rfl rfl rfl rfl fnamed Try.func3 joined
    (of_decide_eq_true (by kernel_rfl)) (by unfold Func.isWrapper; first | (rw [if_pos (by decide +kernel)]; kernel_rfl) | (rw [if_neg (by decide +kernel)]; exact ⟨rfl, rfl⟩))
    (fun os started H enc _ => lifted os started H enc)
#print axioms proved

end Go.Proofs.Ytbeielafbegflaa.fnClosed
