/-
  Proved: at every two slices of bytes the law FnGroups returns true, and its arguments read afterwards as they did.
-/
import Derived.Test.YtkondmnkmbdncaaFrame
import Derived.Test.YtkondmnkmbdncaaDlg
import Derived.Test.YtkondmnkmbdncaaGle
import Derived.Test.YtkondmnkmbdncaaGlg
import Derived.Test.YtkondmnkmbdncaaGli
import Derived.Test.YtkondmnkmbdncaaGlc
namespace Go.Proofs.Ytkondmnkmbdncaa.fnGroups
open Go.ChangeShapes Go.WideShapes Go.ChangeAt Go.RowKit

theorem own : ownKnob Try.prog.godebug = none := by kernel_rfl
theorem laidOut : laidOutB Try.prog = true := by kernel_rfl

set_option maxRecDepth 100000 in
set_option maxHeartbeats 8000000 in
theorem walk (a : Option Addr) (n cap : Nat) (zs : List Int) (b : Option Addr) (m capb : Nat) (ys : List Int) (w : World) (hc : Frame.IsRow .u8 w a n cap zs) (hd : Frame.IsRow .u8 w b m capb ys) :
    Calls Try.prog 4 #[.slice a n cap, .slice b m capb] w fun e w' => e = .returned (.bool true) ∧ Below w.heap.size w w' := by
  have HC : Hid (Frame.IsRow .u8 w a n cap zs) := hc
  have HD : Hid (Frame.IsRow .u8 w b m capb ys) := hd
  clear hc hd
  by_cases hbig : (1048576 : Int) < wrap64 ((n : Int) + (m : Int))
  · go_enter Try.func4, Try.ntmps4
    go_wp2
    go_ret
    exact ⟨rfl, Below.refl _ _⟩
  · go_enter Try.func4, Try.ntmps4
    go_wp2_with fail
    refine (Dlg.draw_GroupsOf a n cap zs _ HC.out).mono ?_
    rintro e w1 ⟨lv, xs, rfl, hlv, hb1⟩
    have B1 : Hid (Below w.heap.size w w1) := hb1
    obtain ⟨la, ln, lc, rs, rfl, hls, hlp, hlt⟩ := hlv
    have L1 : Hid (Knl.LIs w1 (.slice la ln lc) xs) := ⟨la, ln, lc, rs, rfl, hls, hlp, hlt⟩
    have HLN : Hid (xs.length = ln) := by have h1 := hls.len; have h2 : (Lls.lplain rs).length = rs.length := by simp [Lls.lplain]
                                          show xs.length = ln; rw [← hlp]; omega
    clear hb1 hls hlp hlt
    go_wp2_with fail
    refine (Glf.impl_GroupsOf _ xs _ L1.out).mono ?_
    rintro e w2 ⟨u2, rfl, ho2, hb2⟩
    have B2 : Hid (Below w.heap.size w w2) := Frame.next B1.out hb2 B1.out.size
    have L2 : Hid (Knl.LIs w2 (.slice la ln lc) xs) := Knl.lIs_below L1.out hb2
    have G2 : Hid (Knl.LIs w2 u2 (Gpv.groupsV xs)) := Knl.lOwn_is ho2
    clear ho2 hb2 L1
    go_wp2_with fail
    refine (Glg.spec_GroupsOf _ xs _ L2.out).mono ?_
    rintro e w3 ⟨u3, rfl, ho3, hb3⟩
    have B3 : Hid (Below w.heap.size w w3) := Frame.next B2.out hb3 B2.out.size
    have L3 : Hid (Knl.LIs w3 (.slice la ln lc) xs) := Knl.lIs_below L2.out hb3
    have G3 : Hid (Knl.LIs w3 u2 (Gpv.groupsV xs)) := Knl.lIs_below G2.out hb3
    have H3 : Hid (Knl.LIs w3 u3 (Gpv.groupsV xs)) := Knl.lOwn_is ho3
    clear ho3 hb3 L2 G2
    go_wp2_with fail
    refine (Glh.impl_OrderBy _ xs _ L3.out).mono ?_
    rintro e w4 ⟨u4, rfl, ho4, hb4⟩
    obtain ⟨oa, on, oc, rfl, hor, hon⟩ := Kep.iOwn_is ho4
    have B4 : Hid (Below w.heap.size w w4) := Frame.next B3.out hb4 B3.out.size
    have L4 : Hid (Knl.LIs w4 (.slice la ln lc) xs) := Knl.lIs_below L3.out hb4
    have G4 : Hid (Knl.LIs w4 u2 (Gpv.groupsV xs)) := Knl.lIs_below G3.out hb4
    have H4 : Hid (Knl.LIs w4 u3 (Gpv.groupsV xs)) := Knl.lIs_below H3.out hb4
    have O4 : Hid (Frame.IsRow .i64 w4 oa on oc (Glh.orderV xs)) := hor
    have HON : Hid (on ≤ 1048576) := hon
    clear ho4 hb4 L3 G3 H3 hor hon
    go_wp2_with fail
    refine (Gli.spec_OrderBy _ xs _ L4.out).mono ?_
    rintro e w5 ⟨u5, rfl, ho5, hb5⟩
    have B5 : Hid (Below w.heap.size w w5) := Frame.next B4.out hb5 B4.out.size
    have L5 : Hid (Knl.LIs w5 (.slice la ln lc) xs) := Knl.lIs_below L4.out hb5
    have G5 : Hid (Knl.LIs w5 u2 (Gpv.groupsV xs)) := Knl.lIs_below G4.out hb5
    have H5 : Hid (Knl.LIs w5 u3 (Gpv.groupsV xs)) := Knl.lIs_below H4.out hb5
    have O5 : Hid (Frame.IsRow .i64 w5 oa on oc (Glh.orderV xs)) := Mem.IsRow.below O4.out hb5
    have P5 : Hid (Kep.IIs w5 u5 (Glh.orderV xs)) := Kep.iOwn_is ho5
    clear ho5 hb5 L4 G4 H4 O4
    rcases Glb.em_bool (Gpu.goodG xs) with hg | hg
    · have HGT : Hid (Gpu.goodG xs = false) := hg
      rw [hg]
      clear hg
      go_wp2_with fail
      refine (Dlg.sameRows _ _ _ _ _ G5.out H5.out).mono ?_
      rintro e w6 ⟨rfl, hb6⟩
      rw [decide_eq_true (Eq.refl (Gpv.groupsV xs))]
      have B6 : Hid (Below w.heap.size w w6) := Frame.next B5.out hb6 B5.out.size
      have L6 : Hid (Knl.LIs w6 (.slice la ln lc) xs) := Knl.lIs_below L5.out hb6
      have O6 : Hid (Frame.IsRow .i64 w6 oa on oc (Glh.orderV xs)) := Mem.IsRow.below O5.out hb6
      have P6 : Hid (Kep.IIs w6 u5 (Glh.orderV xs)) := Kep.iIs_below P5.out hb6
      clear hb6 G5 H5 L5 O5 P5
      go_wp2_with fail
      refine (Dlg.sameInts (.slice oa on oc) _ _ _ _ ⟨oa, on, oc, rfl, O6.out, HON.out⟩ P6.out).mono ?_
      rintro e w7 ⟨rfl, hb7⟩
      rw [decide_eq_true (Eq.refl (Glh.orderV xs))]
      have B7 : Hid (Below w.heap.size w w7) := Frame.next B6.out hb7 B6.out.size
      have L7 : Hid (Knl.LIs w7 (.slice la ln lc) xs) := Knl.lIs_below L6.out hb7
      have O7 : Hid (Frame.IsRow .i64 w7 oa on oc (Glh.orderV xs)) := Mem.IsRow.below O6.out hb7
      clear hb7 L6 O6 P6
      go_wp2_with fail
      refine (Gla.impl_GoodLinks _ _ _ L7.out).mono ?_
      rintro e w8 ⟨rfl, hb8⟩
      rw [HGT.out]
      have B8 : Hid (Below w.heap.size w w8) := Frame.next B7.out hb8 B7.out.size
      have L8 : Hid (Knl.LIs w8 (.slice la ln lc) xs) := Knl.lIs_below L7.out hb8
      have O8 : Hid (Frame.IsRow .i64 w8 oa on oc (Glh.orderV xs)) := Mem.IsRow.below O7.out hb8
      clear hb8 L7 O7
      go_wp2_with fail
      refine (Dlg.draw_GroupAt b m capb ys _ (Mem.IsRow.below HD.out B8.out)).mono ?_
      rintro e x1 ⟨uv, us, kk, rfl, huv, hbx1⟩
      have BX1 : Hid (Below w.heap.size w x1) := Frame.next B8.out hbx1 B8.out.size
      have UX1 : Hid (Knl.LIs x1 uv us) := huv
      clear huv hbx1
      go_wp2_with fail
      refine (Gld.impl_GroupAt uv us kk _ UX1.out).mono ?_
      rintro e x2 ⟨g2, rfl, ho2, hbx2⟩
      have BX2 : Hid (Below w.heap.size w x2) := Frame.next BX1.out hbx2 BX1.out.size
      have UX2 : Hid (Knl.LIs x2 uv us) := Knl.lIs_below UX1.out hbx2
      have G2 : Hid (Kep.IIs x2 g2 (Gpu.groupV us kk)) := Kep.iOwn_is ho2
      clear hbx2 ho2
      go_wp2_with fail
      refine (Gle.spec_GroupAt uv us kk _ UX2.out).mono ?_
      rintro e x3 ⟨g3, rfl, ho3, hbx3⟩
      have BX3 : Hid (Below w.heap.size w x3) := Frame.next BX2.out hbx3 BX2.out.size
      have UX3 : Hid (Knl.LIs x3 uv us) := Knl.lIs_below UX2.out hbx3
      have G3 : Hid (Kep.IIs x3 g2 (Gpu.groupV us kk)) := Kep.iIs_below G2.out hbx3
      have H3 : Hid (Kep.IIs x3 g3 (Gpu.groupV us kk)) := Kep.iOwn_is ho3
      clear hbx3 ho3
      go_wp2_with fail
      refine (Glb.impl_ReachOf uv us kk _ UX3.out).mono ?_
      rintro e x4 ⟨g4, rfl, ho4, hbx4⟩
      have BX4 : Hid (Below w.heap.size w x4) := Frame.next BX3.out hbx4 BX3.out.size
      have UX4 : Hid (Knl.LIs x4 uv us) := Knl.lIs_below UX3.out hbx4
      have G4 : Hid (Kep.IIs x4 g2 (Gpu.groupV us kk)) := Kep.iIs_below G3.out hbx4
      have H4 : Hid (Kep.IIs x4 g3 (Gpu.groupV us kk)) := Kep.iIs_below H3.out hbx4
      have R4 : Hid (Kep.IIs x4 g4 (Gpu.reachV us kk)) := Kep.iOwn_is ho4
      clear hbx4 ho4
      go_wp2_with fail
      refine (Glc.spec_ReachOf uv us kk _ UX4.out).mono ?_
      rintro e x5 ⟨g5, rfl, ho5, hbx5⟩
      have BX5 : Hid (Below w.heap.size w x5) := Frame.next BX4.out hbx5 BX4.out.size
      have G5 : Hid (Kep.IIs x5 g2 (Gpu.groupV us kk)) := Kep.iIs_below G4.out hbx5
      have H5 : Hid (Kep.IIs x5 g3 (Gpu.groupV us kk)) := Kep.iIs_below H4.out hbx5
      have R5 : Hid (Kep.IIs x5 g4 (Gpu.reachV us kk)) := Kep.iIs_below R4.out hbx5
      have Q5 : Hid (Kep.IIs x5 g5 (Gpu.reachV us kk)) := Kep.iOwn_is ho5
      clear hbx5 ho5 G2 G3 G4 H3 H4 R4 UX1 UX2 UX3 UX4
      generalize Gpu.nodeB us kk = nb
      cases nb
      all_goals
        go_wp2_with fail
        refine (Dlg.sameInts _ _ _ _ _ G5.out H5.out).mono ?_
        rintro e x6 ⟨rfl, hbx6⟩
        rw [decide_eq_true (Eq.refl (Gpu.groupV us kk))]
        have BX6 : Hid (Below w.heap.size w x6) := Frame.next BX5.out hbx6 BX5.out.size
        have R6 : Hid (Kep.IIs x6 g4 (Gpu.reachV us kk)) := Kep.iIs_below R5.out hbx6
        have Q6 : Hid (Kep.IIs x6 g5 (Gpu.reachV us kk)) := Kep.iIs_below Q5.out hbx6
        clear hbx6
        go_wp2_with fail
        refine (Dlg.sameInts _ _ _ _ _ R6.out Q6.out).mono ?_
        rintro e x7 ⟨rfl, hbx7⟩
        rw [decide_eq_true (Eq.refl (Gpu.reachV us kk))]
        have BX7 : Hid (Below w.heap.size w x7) := Frame.next BX6.out hbx7 BX6.out.size
        clear hbx7
        go_wp2
        go_ret
        exact ⟨rfl, BX7.out⟩
    · have HGT : Hid (Gpu.goodG xs = true) := hg
      have GP : Hid (Gpu.GoodP xs) := Gpu.good_iff.1 hg
      have HOV : Hid (Glh.orderV xs = Gpx.ordN xs) := by show _ = _; unfold Glh.orderV; rw [hg]; rfl
      have HOL : Hid (on = ln) := by have h1 := O5.out.len; rw [HOV.out, Gpx.ord_len, HLN.out] at h1; exact h1.symm
      rw [hg]
      clear hg
      go_wp2_with fail
      refine (Dlg.sameRows _ _ _ _ _ G5.out H5.out).mono ?_
      rintro e w6 ⟨rfl, hb6⟩
      rw [decide_eq_true (Eq.refl (Gpv.groupsV xs))]
      have B6 : Hid (Below w.heap.size w w6) := Frame.next B5.out hb6 B5.out.size
      have L6 : Hid (Knl.LIs w6 (.slice la ln lc) xs) := Knl.lIs_below L5.out hb6
      have O6 : Hid (Frame.IsRow .i64 w6 oa on oc (Glh.orderV xs)) := Mem.IsRow.below O5.out hb6
      have P6 : Hid (Kep.IIs w6 u5 (Glh.orderV xs)) := Kep.iIs_below P5.out hb6
      clear hb6 G5 H5 L5 O5 P5
      go_wp2_with fail
      refine (Dlg.sameInts (.slice oa on oc) _ _ _ _ ⟨oa, on, oc, rfl, O6.out, HON.out⟩ P6.out).mono ?_
      rintro e w7 ⟨rfl, hb7⟩
      rw [decide_eq_true (Eq.refl (Glh.orderV xs))]
      have B7 : Hid (Below w.heap.size w w7) := Frame.next B6.out hb7 B6.out.size
      have L7 : Hid (Knl.LIs w7 (.slice la ln lc) xs) := Knl.lIs_below L6.out hb7
      have O7 : Hid (Frame.IsRow .i64 w7 oa on oc (Glh.orderV xs)) := Mem.IsRow.below O6.out hb7
      clear hb7 L6 O6 P6
      go_wp2_with fail
      refine (Gla.impl_GoodLinks _ _ _ L7.out).mono ?_
      rintro e w8 ⟨rfl, hb8⟩
      rw [HGT.out]
      have B8 : Hid (Below w.heap.size w w8) := Frame.next B7.out hb8 B7.out.size
      have L8 : Hid (Knl.LIs w8 (.slice la ln lc) xs) := Knl.lIs_below L7.out hb8
      have O8 : Hid (Frame.IsRow .i64 w8 oa on oc (Glh.orderV xs)) := Mem.IsRow.below O7.out hb8
      clear hb8 L7 O7
      have hne : ((on : Int) != (ln : Int)) = false := by rw [HOL.out]; simp
      have hln63 : ln ≤ 100 := by have := GP.out.few; have := HLN.out; omega
      go_wp2_with fail
      go_loopw [95] (fun i wr => ∃ k : Nat, k ≤ ln ∧ i = .int .i64 k ∧ Below w8.heap.size w8 wr) (fun i _ => ln - (intOf i).toNat)
      case atStart => exact ⟨0, Nat.zero_le _, rfl, Below.refl _ _⟩
      case round =>
        obtain ⟨k, hk, rfl, hnx⟩ := hrel
        rename World => wk
        have NK : Hid (Below w8.heap.size w8 wk) := hnx
        have BK : Hid (Below w.heap.size w wk) := Frame.next B8.out hnx B8.out.size
        have LK : Hid (Knl.LIs wk (.slice la ln lc) xs) := Knl.lIs_below L8.out hnx
        have OK : Hid (Frame.IsRow .i64 wk oa on oc (Gpx.ordN xs)) := by have h := Mem.IsRow.below O8.out hnx; rw [HOV.out] at h; exact h
        clear hnx
        by_cases hlt : k < ln
        · have KIN : Hid (0 ≤ (k : Int) ∧ (k : Int) < (xs.length : Int)) := by rw [HLN.out]; show _ ∧ _; omega
          have NOD : Hid (Gpu.nodeB xs (k : Int) = true) := Gpu.node_iff.2 ⟨GP.out, KIN.out⟩
          have RV : Hid (Gpu.reachV xs (k : Int) = Gpu.reachN xs (k : Int)) := by show _ = _; unfold Gpu.reachV; rw [NOD.out]; rfl
          have GV : Hid (Gpu.groupV xs (k : Int) = Gpu.groupN xs (k : Int)) := by show _ = _; unfold Gpu.groupV; rw [NOD.out]; rfl
          have PK : Hid (0 ≤ Lib.idxOf (Gpx.ordN xs) (k : Int)) := Gpx.ord_in KIN.out
          have hkI : (k : Int) < (ln : Int) := by omega
          go_wp2_with fail
          refine (Glb.impl_ReachOf _ xs (k : Int) _ LK.out).mono ?_
          rintro e y1 ⟨r1, rfl, hor1, hby1⟩
          rw [NOD.out]
          rw [RV.out] at hor1
          obtain ⟨ra, rn, rc, rfl, hrr, hrn⟩ := Kep.iOwn_is hor1
          have NK1 : Hid (Below w8.heap.size w8 y1) := Frame.next NK.out hby1 NK.out.size
          have L1 : Hid (Knl.LIs y1 (.slice la ln lc) xs) := Knl.lIs_below LK.out hby1
          have OK1 : Hid (Frame.IsRow .i64 y1 oa on oc (Gpx.ordN xs)) := Mem.IsRow.below OK.out hby1
          have R1 : Hid (Frame.IsRow .i64 y1 ra rn rc (Gpu.reachN xs (k : Int))) := hrr
          have HRN : Hid ((Gpu.reachN xs (k : Int)).length = rn) := hrr.len
          clear hor1 hby1 hrr
          go_wp2_with fail
          refine (Gld.impl_GroupAt _ xs (k : Int) _ L1.out).mono ?_
          rintro e y2 ⟨g2, rfl, hog2, hby2⟩
          rw [NOD.out]
          rw [GV.out] at hog2
          obtain ⟨ga, gn, gc, rfl, hgr, hgn⟩ := Kep.iOwn_is hog2
          have NK2 : Hid (Below w8.heap.size w8 y2) := Frame.next NK1.out hby2 NK1.out.size
          have L2 : Hid (Knl.LIs y2 (.slice la ln lc) xs) := Knl.lIs_below L1.out hby2
          have OK2 : Hid (Frame.IsRow .i64 y2 oa on oc (Gpx.ordN xs)) := Mem.IsRow.below OK1.out hby2
          have R2 : Hid (Frame.IsRow .i64 y2 ra rn rc (Gpu.reachN xs (k : Int))) := Mem.IsRow.below R1.out hby2
          have X2 : Hid (Frame.IsRow .i64 y2 ga gn gc (Gpu.groupN xs (k : Int))) := hgr
          clear hog2 hby2 hgr hgn L1 OK1 R1
          go_wp2_with fail
          refine (Dlg.placeIn oa on oc (Gpx.ordN xs) (k : Int) _ OK2.out).mono ?_
          rintro e w' ⟨rfl, hw'⟩; have hw'' := hw'.symm; clear hw'; subst hw''
          have hpk : ¬ Lib.idxOf (Gpx.ordN xs) (k : Int) < 0 := by have := PK.out; omega
          go_wp2_with fail
          rename World => y3
          go_loopw [124] (fun i wr => ∃ q : Nat, q ≤ rn ∧ i = .int .i64 q ∧ Below y3.heap.size y3 wr) (fun i _ => rn - (intOf i).toNat)
          case atStart => exact ⟨0, Nat.zero_le _, rfl, Below.refl _ _⟩
          case round =>
            obtain ⟨q, hq, rfl, hnx⟩ := hrel
            rename World => yq
            have NQ : Hid (Below y3.heap.size y3 yq) := hnx
            have NKQ : Hid (Below w8.heap.size w8 yq) := Frame.next NK2.out hnx NK2.out.size
            have LQ : Hid (Knl.LIs yq (.slice la ln lc) xs) := Knl.lIs_below L2.out hnx
            have OQ : Hid (Frame.IsRow .i64 yq oa on oc (Gpx.ordN xs)) := Mem.IsRow.below OK2.out hnx
            have RQ : Hid (Frame.IsRow .i64 yq ra rn rc (Gpu.reachN xs (k : Int))) := Mem.IsRow.below R2.out hnx
            have XQ : Hid (Frame.IsRow .i64 yq ga gn gc (Gpu.groupN xs (k : Int))) := Mem.IsRow.below X2.out hnx
            clear hnx
            by_cases hltq : q < rn
            · obtain ⟨b2, o2, rfl, hb2, hc2⟩ := RQ.out.cells (by omega)
              have p2 := hc2 q hltq
              have hzm := Mem.getD_mem (zs := Gpu.reachN xs (k : Int)) (i := q) (by rw [HRN.out]; exact hltq)
              generalize (Gpu.reachN xs (k : Int)).getD q 0 = z at p2 hzm
              have ZIN : Hid (0 ≤ z ∧ z < (xs.length : Int)) := Gpu.reach_in hzm
              have KZ : Hid (Gpu.Rch xs (k : Int) z) := (Gpu.mem_reach GP.out KIN.out).1 hzm
              have NODZ : Hid (Gpu.nodeB xs z = true) := Gpu.node_iff.2 ⟨GP.out, ZIN.out⟩
              have RVZ : Hid (Gpu.reachV xs z = Gpu.reachN xs z) := by show _ = _; unfold Gpu.reachV; rw [NODZ.out]; rfl
              have HSAME : Hid (decide (z ∈ Gpu.groupN xs (k : Int)) = decide ((k : Int) ∈ Gpu.reachN xs z)) := by
                show _ = _
                rw [decide_eq_decide, Gpu.mem_group, Gpu.mem_reach GP.out ZIN.out]
                exact ⟨fun h => h.2.2, fun h => ⟨ZIN.out, KZ.out, h⟩⟩
              have HPL : Hid (decide ((k : Int) ∈ Gpu.reachN xs z) = false → Lib.idxOf (Gpx.ordN xs) z < Lib.idxOf (Gpx.ordN xs) (k : Int)) := fun h =>
                Gpx.ord_ahead KIN.out ZIN.out KZ.out (fun hr => of_decide_eq_false h ((Gpu.mem_reach GP.out ZIN.out).2 hr))
              have hq0 : (0 : Int) ≤ (q : Int) := by omega
              have hqn : (q : Int) < (rn : Int) := by omega
              clear hb2 hc2 hzm
              go_wp2_with fail
              refine (Glb.impl_ReachOf _ xs z _ LQ.out).mono ?_
              rintro e y4 ⟨r4, rfl, hor4, hby4⟩
              rw [NODZ.out]
              rw [RVZ.out] at hor4
              obtain ⟨qa, qn, qc, rfl, hqr, hqn4⟩ := Kep.iOwn_is hor4
              have NQ4 : Hid (Below y3.heap.size y3 y4) := Frame.next NQ.out hby4 NQ.out.size
              have O4 : Hid (Frame.IsRow .i64 y4 oa on oc (Gpx.ordN xs)) := Mem.IsRow.below OQ.out hby4
              have X4 : Hid (Frame.IsRow .i64 y4 ga gn gc (Gpu.groupN xs (k : Int))) := Mem.IsRow.below XQ.out hby4
              have Q4 : Hid (Frame.IsRow .i64 y4 qa qn qc (Gpu.reachN xs z)) := hqr
              clear hor4 hby4 hqr hqn4 p2
              go_wp2_with fail
              refine (Dlg.laws_has ga gn gc _ z _ X4.out).mono ?_
              rintro e w' ⟨rfl, hw'⟩; have hw'' := hw'.symm; clear hw'; subst hw''
              rw [HSAME.out]
              go_wp2_with fail
              refine (Dlg.laws_has qa qn qc _ (k : Int) _ Q4.out).mono ?_
              rintro e w' ⟨rfl, hw'⟩; have hw'' := hw'.symm; clear hw'; subst hw''
              rcases Glb.em_bool (decide ((k : Int) ∈ Gpu.reachN xs z)) with hv | hv
              · have HV : Hid (decide ((k : Int) ∈ Gpu.reachN xs z) = false) := hv
                have hidx := HPL.out hv
                rw [hv]
                clear hv
                go_wp2_with fail
                refine (Dlg.laws_has qa qn qc _ (k : Int) _ Q4.out).mono ?_
                rintro e w' ⟨rfl, hw'⟩; have hw'' := hw'.symm; clear hw'; subst hw''
                rw [HV.out]
                have HIDX : Hid (Lib.idxOf (Gpx.ordN xs) z < Lib.idxOf (Gpx.ordN xs) (k : Int)) := hidx
                clear hidx
                go_wp2_with fail
                refine (Dlg.placeIn oa on oc (Gpx.ordN xs) z _ O4.out).mono ?_
                rintro e w' ⟨rfl, hw'⟩; have hw'' := hw'.symm; clear hw'; subst hw''
                go_wp2_with fail
                refine (Dlg.placeIn oa on oc (Gpx.ordN xs) (k : Int) _ O4.out).mono ?_
                rintro e w' ⟨rfl, hw'⟩; have hw'' := hw'.symm; clear hw'; subst hw''
                have hgt : ¬ Lib.idxOf (Gpx.ordN xs) z > Lib.idxOf (Gpx.ordN xs) (k : Int) := by have := HIDX.out; omega
                go_wp2_with fail
                go_roundw
                case rel => exact ⟨q + 1, by omega, by go_num, NQ4.out⟩
                case measure => simp [intOf]; omega
              · have HV : Hid (decide ((k : Int) ∈ Gpu.reachN xs z) = true) := hv
                rw [hv]
                clear hv
                go_wp2_with fail
                refine (Dlg.laws_has qa qn qc _ (k : Int) _ Q4.out).mono ?_
                rintro e w' ⟨rfl, hw'⟩; have hw'' := hw'.symm; clear hw'; subst hw''
                rw [HV.out]
                go_wp2_with fail
                go_roundw
                case rel => exact ⟨q + 1, by omega, by go_num, NQ4.out⟩
                case measure => simp [intOf]; omega
            · go_wp2_with fail
              go_roundw
              case rel => exact ⟨k + 1, by omega, by go_num, NKQ.out⟩
              case measure => simp [intOf]; omega
        · skip
          go_wp2_with fail
          refine (Dlg.draw_GroupAt b m capb ys _ (Mem.IsRow.below HD.out BK.out)).mono ?_
          rintro e x1 ⟨uv, us, kk, rfl, huv, hbx1⟩
          have BX1 : Hid (Below w.heap.size w x1) := Frame.next BK.out hbx1 BK.out.size
          have UX1 : Hid (Knl.LIs x1 uv us) := huv
          clear huv hbx1
          go_wp2_with fail
          refine (Gld.impl_GroupAt uv us kk _ UX1.out).mono ?_
          rintro e x2 ⟨g2, rfl, ho2, hbx2⟩
          have BX2 : Hid (Below w.heap.size w x2) := Frame.next BX1.out hbx2 BX1.out.size
          have UX2 : Hid (Knl.LIs x2 uv us) := Knl.lIs_below UX1.out hbx2
          have G2 : Hid (Kep.IIs x2 g2 (Gpu.groupV us kk)) := Kep.iOwn_is ho2
          clear hbx2 ho2
          go_wp2_with fail
          refine (Gle.spec_GroupAt uv us kk _ UX2.out).mono ?_
          rintro e x3 ⟨g3, rfl, ho3, hbx3⟩
          have BX3 : Hid (Below w.heap.size w x3) := Frame.next BX2.out hbx3 BX2.out.size
          have UX3 : Hid (Knl.LIs x3 uv us) := Knl.lIs_below UX2.out hbx3
          have G3 : Hid (Kep.IIs x3 g2 (Gpu.groupV us kk)) := Kep.iIs_below G2.out hbx3
          have H3 : Hid (Kep.IIs x3 g3 (Gpu.groupV us kk)) := Kep.iOwn_is ho3
          clear hbx3 ho3
          go_wp2_with fail
          refine (Glb.impl_ReachOf uv us kk _ UX3.out).mono ?_
          rintro e x4 ⟨g4, rfl, ho4, hbx4⟩
          have BX4 : Hid (Below w.heap.size w x4) := Frame.next BX3.out hbx4 BX3.out.size
          have UX4 : Hid (Knl.LIs x4 uv us) := Knl.lIs_below UX3.out hbx4
          have G4 : Hid (Kep.IIs x4 g2 (Gpu.groupV us kk)) := Kep.iIs_below G3.out hbx4
          have H4 : Hid (Kep.IIs x4 g3 (Gpu.groupV us kk)) := Kep.iIs_below H3.out hbx4
          have R4 : Hid (Kep.IIs x4 g4 (Gpu.reachV us kk)) := Kep.iOwn_is ho4
          clear hbx4 ho4
          go_wp2_with fail
          refine (Glc.spec_ReachOf uv us kk _ UX4.out).mono ?_
          rintro e x5 ⟨g5, rfl, ho5, hbx5⟩
          have BX5 : Hid (Below w.heap.size w x5) := Frame.next BX4.out hbx5 BX4.out.size
          have G5 : Hid (Kep.IIs x5 g2 (Gpu.groupV us kk)) := Kep.iIs_below G4.out hbx5
          have H5 : Hid (Kep.IIs x5 g3 (Gpu.groupV us kk)) := Kep.iIs_below H4.out hbx5
          have R5 : Hid (Kep.IIs x5 g4 (Gpu.reachV us kk)) := Kep.iIs_below R4.out hbx5
          have Q5 : Hid (Kep.IIs x5 g5 (Gpu.reachV us kk)) := Kep.iOwn_is ho5
          clear hbx5 ho5 G2 G3 G4 H3 H4 R4 UX1 UX2 UX3 UX4
          generalize Gpu.nodeB us kk = nb
          cases nb
          all_goals
            go_wp2_with fail
            refine (Dlg.sameInts _ _ _ _ _ G5.out H5.out).mono ?_
            rintro e x6 ⟨rfl, hbx6⟩
            rw [decide_eq_true (Eq.refl (Gpu.groupV us kk))]
            have BX6 : Hid (Below w.heap.size w x6) := Frame.next BX5.out hbx6 BX5.out.size
            have R6 : Hid (Kep.IIs x6 g4 (Gpu.reachV us kk)) := Kep.iIs_below R5.out hbx6
            have Q6 : Hid (Kep.IIs x6 g5 (Gpu.reachV us kk)) := Kep.iIs_below Q5.out hbx6
            clear hbx6
            go_wp2_with fail
            refine (Dlg.sameInts _ _ _ _ _ R6.out Q6.out).mono ?_
            rintro e x7 ⟨rfl, hbx7⟩
            rw [decide_eq_true (Eq.refl (Gpu.reachV us kk))]
            have BX7 : Hid (Below w.heap.size w x7) := Frame.next BX6.out hbx7 BX6.out.size
            clear hbx7
            go_wp2
            go_ret
            exact ⟨rfl, BX7.out⟩

set_option maxRecDepth 100000 in
theorem contract (H : Type) (enc : TypeId × Value → H) (W : World) (base : Nat) (args : Array Value) (ds gs : List (DataW H)) (before : List MemPlace)
    (hval0 : ∀ (j : Nat) t v, Try.f4.params[j]? = some t → args[j]? = some v → Value.okWide Try.prog W .any base t v)
    (hW : DataW.Whole enc Try.prog Try.f4.params.toList Rows.fnGroupsSpec.vars false W args.toList ds gs before) :
    Calls Try.prog 4 args W fun e W' => ∃ v, e = .returned v ∧ Rows.fnGroupsSpec.post enc Try.prog Try.f4 false true false false W args v W' := by
  refine Frame.law_calls (tb := 4) laidOut (by kernel_rfl) (by kernel_rfl) (by kernel_rfl) Try.underlying4 hW (fun ds gs h1 h2 => ?_) ?_
  · rw [Try.params4] at h1
    match ds, gs, h1, h2 with
    | [_, _], [], _, _ => rfl
  · obtain ⟨p, q, hA0, _, _, _, _⟩ := hW
    have hval : ∀ (j : Nat) t v, Try.f4.params[j]? = some t → args[j]? = some v → Value.okWide Try.prog W .any base t v := hval0
    have hA : DataW.TrodAll enc Try.prog W 0 (fun _ => true) true Try.f4.params.toList args.toList ds p := hA0
    rw [Try.params4] at hA hval
    obtain ⟨v0, vs0, d0, ds0, p0, q0, hargs, rfl, rfl, h0, r0⟩ := trodAll_cons hA
    obtain ⟨v1, vs1, d1, ds1, p1, q1, rfl, rfl, rfl, h1, r1⟩ := trodAll_cons r0
    obtain ⟨rfl, rfl, rfl⟩ := trodAll_nil r1
    obtain rfl : args = #[v0, v1] := by cases args; simp_all
    obtain ⟨a0, len0, cap0, rfl⟩ := okWide_slice Try.underlying22 (hval 0 22 v0 rfl rfl)
    obtain ⟨z0, w0⟩ := Frame.isRow_of Try.underlying22 Try.underlying5 (by kernel_rfl) h0
    obtain ⟨a1, len1, cap1, rfl⟩ := okWide_slice Try.underlying22 (hval 1 22 v1 rfl rfl)
    obtain ⟨z1, w1⟩ := Frame.isRow_of Try.underlying22 Try.underlying5 (by kernel_rfl) h1
    exact walk a0 len0 cap0 z0 a1 len1 cap1 z1 W w0 w1

set_option maxRecDepth 100000 in
theorem lifted (os : Os) (started : os.Started) (H : Type) (enc : TypeId × Value → H) :
    ReturnsInHanded {} Try.checked os 4 .any (Rows.fnGroupsSpec.pre6 enc Try.prog Try.f4 Rows.fnGroupsRow.domain false) (Rows.fnGroupsSpec.post enc Try.prog Try.f4 false true false false) := by
  refine returnsInHanded_of_change (C := Try.checked) own started (by kernel_rfl) Try.func4
    (ChangeSpec.witness6 (enc := enc) (C := Try.checked) false ⟨#[], #[.slice none 0 0, .slice none 0 0], []⟩ 8 (by kernel_rfl) (by kernel_rfl) (by kernel_rfl) (by kernel_rfl)) ?_
  intro W base args ds gs before hval hW _ _
  exact contract H enc W base args ds gs before hval hW

theorem fnamed : Try.prog.funcNamed Rows.fnGroupsRow.func = some 4 := by kernel_rfl

theorem joined : joinedFacts Try.prog 4 Try.f4 Rows.fnGroupsSpec Rows.fnGroupsRow = true := by kernel_rfl

/-- The statement. -/
theorem proved : Rows.FnGroupsSaid :=
  OpenClaim.holds_of_wide 4 Try.f4 rfl rfl rfl rfl rfl rfl rfl ⟨rfl, rfl, rfl, rfl, rfl⟩ rfl rfl rfl rfl rfl fnamed Try.func4 joined
    (of_decide_eq_true (by kernel_rfl)) (by unfold Func.isWrapper; first | (rw [if_pos (by decide +kernel)]; kernel_rfl) | (rw [if_neg (by decide +kernel)]; exact ⟨rfl, rfl⟩))
    (fun os started H enc _ => lifted os started H enc)
#print axioms proved

end Go.Proofs.Ytkondmnkmbdncaa.fnGroups
