/-
  Proved: at every two slices of bytes the law FnRanges returns true, and its arguments read afterwards as they did.
-/
import Derived.Test.YtciaegdgoabipaaFrame
import Derived.Test.YtciaegdgoabipaaPut2
import Derived.Test.YtciaegdgoabipaaDr2d
namespace Go.Proofs.Ytciaegdgoabipaa.fnRanges
open Go.ChangeShapes Go.WideShapes Go.ChangeAt Go.RowKit

theorem own : ownKnob Try.prog.godebug = none := by kernel_rfl
theorem laidOut : laidOutB Try.prog = true := by kernel_rfl

set_option maxRecDepth 100000 in
set_option maxHeartbeats 16000000 in
theorem walk (a : Option Addr) (n cap : Nat) (zs : List Int) (b : Option Addr) (m capb : Nat) (ys : List Int) (w : World) (hc : Frame.IsRow .u8 w a n cap zs) (hd : Frame.IsRow .u8 w b m capb ys) :
    Calls Try.prog 4 #[.slice a n cap, .slice b m capb] w fun e w' => e = .returned (.bool true) ∧ Below w.heap.size w w' := by
  obtain ⟨i0, hi, hz0, hz1, hz2⟩ := info_parts Rws.infoR
  have HC : Hid (Frame.IsRow .u8 w a n cap zs) := hc
  have HD : Hid (Frame.IsRow .u8 w b m capb ys) := hd
  clear hc hd
  have B0 : Hid (Below w.heap.size w w) := Below.refl _ _
  by_cases hbig : (1048576 : Int) < wrap64 ((n : Int) + (m : Int))
  · go_enter Try.func4, Try.ntmps4
    go_wp2
    go_ret
    exact ⟨rfl, Below.refl _ _⟩
  · go_enter Try.func4, Try.ntmps4
    go_wp2_with fail
    refine (Dr2d.draw_RangeOf _ _ _ _ _ HC.out).mono ?_
    rintro e w1 ⟨lv, xs, p, q, rfl, hr, hp, hq, hb⟩
    have B_2 : Hid (Below w.heap.size w w1) := Frame.next B0.out hb B0.out.size
    have L_3 : Hid (Knr.RIs w1 lv xs) := hr
    clear hb B0 hr
    clear hbig
    obtain ⟨g, hg⟩ : ∃ g, Tfn.pGood xs = g := ⟨_, rfl⟩
    have HG : Hid (Tfn.pGood xs = g) := hg
    clear hg
    go_wp2_with fail
    refine (Put2.impl_Range _ _ p q g _ L_3.out HG.out).mono ?_
    rintro e w4 ⟨rv, rfl, hr, hb⟩
    have B_5 : Hid (Below w.heap.size w w4) := Frame.next B_2.out hb B_2.out.size
    have L_6 : Hid (Knr.RIs w4 lv xs) := Knr.rIs_below L_3.out hb
    have R_7 : Hid (Knr.RIs w4 rv (Tfn.pRangeV p q xs)) := hr
    clear hb B_2 L_3 hr
    go_wp2_with fail
    refine (Put2.spec_Range _ _ p q g _ L_6.out HG.out).mono ?_
    rintro e w8 ⟨sv, rfl, hr, hb⟩
    have B_9 : Hid (Below w.heap.size w w8) := Frame.next B_5.out hb B_5.out.size
    have L_10 : Hid (Knr.RIs w8 lv xs) := Knr.rIs_below L_6.out hb
    have R_11 : Hid (Knr.RIs w8 rv (Tfn.pRangeV p q xs)) := Knr.rIs_below R_7.out hb
    have S_12 : Hid (Knr.RIs w8 sv (Tfn.pRangeV p q xs)) := hr
    clear hb B_5 L_6 R_7 hr
    have e0 : (g != g) = false := by simp
    go_wp2_with fail
    refine (Rwl.same_table _ _ _ _ _ R_11.out S_12.out rfl).mono ?_
    rintro e w13 ⟨rfl, hb⟩
    have B_14 : Hid (Below w.heap.size w w13) := Frame.next B_9.out hb B_9.out.size
    have L_15 : Hid (Knr.RIs w13 lv xs) := Knr.rIs_below L_10.out hb
    have R_16 : Hid (Knr.RIs w13 rv (Tfn.pRangeV p q xs)) := Knr.rIs_below R_11.out hb
    have S_17 : Hid (Knr.RIs w13 sv (Tfn.pRangeV p q xs)) := Knr.rIs_below S_12.out hb
    clear hb B_9 L_10 R_11 S_12
    cases g
    · clear e0
      go_wp2_with fail
      refine (Dr2d.draw_SetColumn _ _ _ _ _ (Mem.IsRow.below HD.out B_14.out)).mono ?_
      rintro e w18 ⟨uv, uxs, key, col, vb, vn, rfl, hu, hkey, hvn, hb⟩
      have B_19 : Hid (Below w.heap.size w w18) := Frame.next B_14.out hb B_14.out.size
      obtain ⟨ua, un, uc, rs, rfl, hrs, rfl, htot⟩ := hu
      have U_20 : Hid (Knr.RIs w18 (.slice ua un uc) (Rws.plain rs)) := ⟨ua, un, uc, rs, rfl, hrs, rfl, htot⟩
      have US_21 : Hid (Rws.IsRows w18 ua un uc rs) := hrs
      have KW : Hid ((Lit.int .i64 key).wf = true) := hkey
      have VW : Hid ((Lit.int .i64 vn).wf = true) := hvn
      clear hb B_14 hrs htot hkey hvn
      have B_22 : Hid (Below w.heap.size w (w18.alloc (.cells #[.bool vb, .int .i64 vn] 45))) := Frame.next B_19.out (Draw1.below_alloc w18 (.cells #[.bool vb, .int .i64 vn] 45)) B_19.out.size
      have U_23 : Hid (Knr.RIs (w18.alloc (.cells #[.bool vb, .int .i64 vn] 45)) (.slice ua un uc) (Rws.plain rs)) := Knr.rIs_below U_20.out (Draw1.below_alloc w18 (.cells #[.bool vb, .int .i64 vn] 45))
      have US_24 : Hid (Rws.IsRows (w18.alloc (.cells #[.bool vb, .int .i64 vn] 45)) ua un uc rs) := Rws.IsRows.below US_21.out (Draw1.below_alloc w18 (.cells #[.bool vb, .int .i64 vn] 45))
      have VB_25 : Hid (Put2.VBox (w18.alloc (.cells #[.bool vb, .int .i64 vn] 45)) (w18.heap.size) vb vn) := Put2.VBox.new w18 vb vn 45
      clear B_19 U_20 US_21
      obtain ⟨o, ho⟩ : ∃ o, Tfn.pSetB key col (vb, vn) (Rws.plain rs) = o := ⟨_, rfl⟩
      have HO : Hid (Tfn.pSetB key col (vb, vn) (Rws.plain rs) = o) := ho
      clear ho
      obtain ⟨vx0, vx1⟩ := VB_25.out
      go_wp2_with fail
      refine (Put2.impl_Set _ _ key col vb vn o _ U_23.out KW.out VW.out HO.out).mono ?_
      rintro e w26 ⟨sv1, rfl, hs, hb⟩
      have B_27 : Hid (Below w.heap.size w w26) := Frame.next B_22.out hb B_22.out.size
      have U_28 : Hid (Knr.RIs w26 (.slice ua un uc) (Rws.plain rs)) := Knr.rIs_below U_23.out hb
      have US_29 : Hid (Rws.IsRows w26 ua un uc rs) := Rws.IsRows.below US_24.out hb
      have VB_30 : Hid (Put2.VBox w26 (w18.heap.size) vb vn) := Put2.VBox.below VB_25.out hb
      obtain ⟨sa, sn, sc, qs, rfl, hqs, hqe, hst⟩ := hs
      have SS_31 : Hid (Rws.IsRows w26 sa sn sc qs) := hqs
      have S1_32 : Hid (Knr.RIs w26 (.slice sa sn sc) (Tfn.pSetV key col (vb, vn) (Rws.plain rs))) := ⟨sa, sn, sc, qs, rfl, hqs, hqe, hst⟩
      have QE : Hid (Rws.plain qs = (Tfn.pSetV key col (vb, vn) (Rws.plain rs))) := hqe
      have HSN : Hid (∀ r ∈ qs, r.n ≤ 1048576) := (Knr.small_rows hst).2
      have hsn : sn ≤ 1048576 := by rw [← hqs.len]; exact (Knr.small_rows hst).1
      clear hb B_22 U_23 US_24 VB_25 hqs hqe hst vx0 vx1
      obtain ⟨vx0, vx1⟩ := VB_30.out
      go_wp2_with fail
      refine (Put2.spec_Set _ _ key col vb vn o _ U_28.out KW.out VW.out HO.out).mono ?_
      rintro e w33 ⟨sv2, rfl, hs, hb⟩
      have B_34 : Hid (Below w.heap.size w w33) := Frame.next B_27.out hb B_27.out.size
      have U_35 : Hid (Knr.RIs w33 (.slice ua un uc) (Rws.plain rs)) := Knr.rIs_below U_28.out hb
      have US_36 : Hid (Rws.IsRows w33 ua un uc rs) := Rws.IsRows.below US_29.out hb
      have VB_37 : Hid (Put2.VBox w33 (w18.heap.size) vb vn) := Put2.VBox.below VB_30.out hb
      have SS_38 : Hid (Rws.IsRows w33 sa sn sc qs) := Rws.IsRows.below SS_31.out hb
      have S1_39 : Hid (Knr.RIs w33 (.slice sa sn sc) (Tfn.pSetV key col (vb, vn) (Rws.plain rs))) := Knr.rIs_below S1_32.out hb
      have S2_40 : Hid (Knr.RIs w33 sv2 (Tfn.pSetV key col (vb, vn) (Rws.plain rs))) := hs
      clear hb B_27 U_28 US_29 VB_30 SS_31 S1_32 hs vx0 vx1
      go_wp2_with fail
      refine (Dr2c.draw_KeysOf _ _ _ _ _ (Mem.IsRow.below HD.out B_34.out)).mono ?_
      rintro e w41 ⟨kv, kxs, rfl, hk, hb⟩
      have B_42 : Hid (Below w.heap.size w w41) := Frame.next B_34.out hb B_34.out.size
      have U_43 : Hid (Knr.RIs w41 (.slice ua un uc) (Rws.plain rs)) := Knr.rIs_below U_35.out hb
      have US_44 : Hid (Rws.IsRows w41 ua un uc rs) := Rws.IsRows.below US_36.out hb
      have VB_45 : Hid (Put2.VBox w41 (w18.heap.size) vb vn) := Put2.VBox.below VB_37.out hb
      have SS_46 : Hid (Rws.IsRows w41 sa sn sc qs) := Rws.IsRows.below SS_38.out hb
      have S1_47 : Hid (Knr.RIs w41 (.slice sa sn sc) (Tfn.pSetV key col (vb, vn) (Rws.plain rs))) := Knr.rIs_below S1_39.out hb
      have S2_48 : Hid (Knr.RIs w41 sv2 (Tfn.pSetV key col (vb, vn) (Rws.plain rs))) := Knr.rIs_below S2_40.out hb
      have K_49 : Hid (Knr.RIs w41 kv kxs) := hk
      clear hb B_34 U_35 US_36 VB_37 SS_38 S1_39 S2_40 hk
      obtain ⟨g2, hg2⟩ : ∃ g, Tfn.pGood kxs = g := ⟨_, rfl⟩
      have HG2 : Hid (Tfn.pGood kxs = g2) := hg2
      clear hg2
      go_wp2_with fail
      refine (Put2.impl_Keys _ _ g2 _ K_49.out HG2.out).mono ?_
      rintro e w50 ⟨k1, rfl, hk, hb⟩
      have B_51 : Hid (Below w.heap.size w w50) := Frame.next B_42.out hb B_42.out.size
      have U_52 : Hid (Knr.RIs w50 (.slice ua un uc) (Rws.plain rs)) := Knr.rIs_below U_43.out hb
      have US_53 : Hid (Rws.IsRows w50 ua un uc rs) := Rws.IsRows.below US_44.out hb
      have VB_54 : Hid (Put2.VBox w50 (w18.heap.size) vb vn) := Put2.VBox.below VB_45.out hb
      have SS_55 : Hid (Rws.IsRows w50 sa sn sc qs) := Rws.IsRows.below SS_46.out hb
      have S1_56 : Hid (Knr.RIs w50 (.slice sa sn sc) (Tfn.pSetV key col (vb, vn) (Rws.plain rs))) := Knr.rIs_below S1_47.out hb
      have S2_57 : Hid (Knr.RIs w50 sv2 (Tfn.pSetV key col (vb, vn) (Rws.plain rs))) := Knr.rIs_below S2_48.out hb
      have K_58 : Hid (Knr.RIs w50 kv kxs) := Knr.rIs_below K_49.out hb
      have K1_59 : Hid (Kep.IIs w50 k1 (Tfn.pKeysV kxs)) := hk
      clear hb B_42 U_43 US_44 VB_45 SS_46 S1_47 S2_48 K_49 hk
      go_wp2_with fail
      refine (Put2.spec_Keys _ _ g2 _ K_58.out HG2.out).mono ?_
      rintro e w60 ⟨k2, rfl, hk, hb⟩
      have B_61 : Hid (Below w.heap.size w w60) := Frame.next B_51.out hb B_51.out.size
      have U_62 : Hid (Knr.RIs w60 (.slice ua un uc) (Rws.plain rs)) := Knr.rIs_below U_52.out hb
      have US_63 : Hid (Rws.IsRows w60 ua un uc rs) := Rws.IsRows.below US_53.out hb
      have VB_64 : Hid (Put2.VBox w60 (w18.heap.size) vb vn) := Put2.VBox.below VB_54.out hb
      have SS_65 : Hid (Rws.IsRows w60 sa sn sc qs) := Rws.IsRows.below SS_55.out hb
      have S1_66 : Hid (Knr.RIs w60 (.slice sa sn sc) (Tfn.pSetV key col (vb, vn) (Rws.plain rs))) := Knr.rIs_below S1_56.out hb
      have S2_67 : Hid (Knr.RIs w60 sv2 (Tfn.pSetV key col (vb, vn) (Rws.plain rs))) := Knr.rIs_below S2_57.out hb
      have K_68 : Hid (Knr.RIs w60 kv kxs) := Knr.rIs_below K_58.out hb
      have K1_69 : Hid (Kep.IIs w60 k1 (Tfn.pKeysV kxs)) := Kep.iIs_below K1_59.out hb
      have K2_70 : Hid (Kep.IIs w60 k2 (Tfn.pKeysV kxs)) := hk
      clear hb B_51 U_52 US_53 VB_54 SS_55 S1_56 S2_57 K_58 K1_59 hk
      have e3 : (o != o) = false := by simp
      have e4 : (g2 != g2) = false := by simp
      go_wp2_with fail
      refine (Rwl.same_table _ _ _ _ _ S1_66.out S2_67.out rfl).mono ?_
      rintro e w71 ⟨rfl, hb⟩
      have B_72 : Hid (Below w.heap.size w w71) := Frame.next B_61.out hb B_61.out.size
      have U_73 : Hid (Knr.RIs w71 (.slice ua un uc) (Rws.plain rs)) := Knr.rIs_below U_62.out hb
      have US_74 : Hid (Rws.IsRows w71 ua un uc rs) := Rws.IsRows.below US_63.out hb
      have VB_75 : Hid (Put2.VBox w71 (w18.heap.size) vb vn) := Put2.VBox.below VB_64.out hb
      have SS_76 : Hid (Rws.IsRows w71 sa sn sc qs) := Rws.IsRows.below SS_65.out hb
      have S1_77 : Hid (Knr.RIs w71 (.slice sa sn sc) (Tfn.pSetV key col (vb, vn) (Rws.plain rs))) := Knr.rIs_below S1_66.out hb
      have S2_78 : Hid (Knr.RIs w71 sv2 (Tfn.pSetV key col (vb, vn) (Rws.plain rs))) := Knr.rIs_below S2_67.out hb
      have K_79 : Hid (Knr.RIs w71 kv kxs) := Knr.rIs_below K_68.out hb
      have K1_80 : Hid (Kep.IIs w71 k1 (Tfn.pKeysV kxs)) := Kep.iIs_below K1_69.out hb
      have K2_81 : Hid (Kep.IIs w71 k2 (Tfn.pKeysV kxs)) := Kep.iIs_below K2_70.out hb
      clear hb B_61 U_62 US_63 VB_64 SS_65 S1_66 S2_67 K_68 K1_69 K2_70
      go_wp2_with fail
      refine (Put2.same_ints _ _ _ _ K1_80.out K2_81.out).mono ?_
      rintro e w82 ⟨rfl, hb⟩
      have B_83 : Hid (Below w.heap.size w w82) := Frame.next B_72.out hb B_72.out.size
      have U_84 : Hid (Knr.RIs w82 (.slice ua un uc) (Rws.plain rs)) := Knr.rIs_below U_73.out hb
      have US_85 : Hid (Rws.IsRows w82 ua un uc rs) := Rws.IsRows.below US_74.out hb
      have VB_86 : Hid (Put2.VBox w82 (w18.heap.size) vb vn) := Put2.VBox.below VB_75.out hb
      have SS_87 : Hid (Rws.IsRows w82 sa sn sc qs) := Rws.IsRows.below SS_76.out hb
      have S1_88 : Hid (Knr.RIs w82 (.slice sa sn sc) (Tfn.pSetV key col (vb, vn) (Rws.plain rs))) := Knr.rIs_below S1_77.out hb
      have S2_89 : Hid (Knr.RIs w82 sv2 (Tfn.pSetV key col (vb, vn) (Rws.plain rs))) := Knr.rIs_below S2_78.out hb
      have K_90 : Hid (Knr.RIs w82 kv kxs) := Knr.rIs_below K_79.out hb
      have K1_91 : Hid (Kep.IIs w82 k1 (Tfn.pKeysV kxs)) := Kep.iIs_below K1_80.out hb
      have K2_92 : Hid (Kep.IIs w82 k2 (Tfn.pKeysV kxs)) := Kep.iIs_below K2_81.out hb
      clear hb B_72 U_73 US_74 VB_75 SS_76 S1_77 S2_78 K_79 K1_80 K2_81
      cases o
      · clear e3
        go_wp2
        go_ret
        exact ⟨rfl, B_83.out⟩
      · clear e3 e4
        have SA : Hid (qs.length = rs.length ∧ 0 ≤ col ∧ col ≤ 2 ∧ ∀ i, i < rs.length → (qs.getD i Rws.rd).key = (rs.getD i Rws.rd).key ∧ (qs.getD i Rws.rd).vs = (if (rs.getD i Rws.rd).key = key then (rs.getD i Rws.rd).vs.set col.toNat (vb, vn) else (rs.getD i Rws.rd).vs)) := Put2.set_at HO.out QE.out
        go_wp2
        go_loopw [173] (fun i wr => ∃ j : Nat, j ≤ sn ∧ i = .int .i64 j ∧ Below w82.heap.size w82 wr) (fun i _ => sn - (intOf i).toNat)
        case atStart => exact ⟨0, Nat.zero_le _, rfl, Below.refl _ _⟩
        case round =>
          rename World => wo
          obtain ⟨j, hj, rfl, hbr⟩ := hrel
          have HW : Hid (Below w82.heap.size w82 wo) := hbr
          clear hbr
          have B_93 : Hid (Below w.heap.size w wo) := Frame.next B_83.out HW.out B_83.out.size
          have US_94 : Hid (Rws.IsRows wo ua un uc rs) := Rws.IsRows.below US_85.out HW.out
          have VB_95 : Hid (Put2.VBox wo (w18.heap.size) vb vn) := Put2.VBox.below VB_86.out HW.out
          have SS_96 : Hid (Rws.IsRows wo sa sn sc qs) := Rws.IsRows.below SS_87.out HW.out
          have C_97 : Hid (Below w82.heap.size w82 wo) := HW.out
          clear HW
          by_cases hlt : j < sn
          · have hS := SS_96.out
            have hU := US_94.out
            have hlen := hS.len
            have hlenu := hU.len
            have HUN : Hid (sn = un) := by show _ = _; have := SA.out.1; omega
            obtain ⟨b1, o1, rfl, hb1, hc1⟩ := hS.cells (by omega)
            obtain ⟨b2, o2, rfl, hb2, hc2⟩ := hU.cells (by have := HUN.out; omega)
            have kx : j < qs.length := by rw [hlen]; exact hlt
            have ky : j < rs.length := by rw [← SA.out.1]; exact kx
            have p0 : wo.cell? ⟨b1, o1 + j * 2, none⟩ = some (.int .i64 (qs.getD j Rws.rd).key) := (hc1 j hlt).1
            have p1 : wo.cell? ⟨b1, o1 + j * 2 + 1, none⟩ = some (.slice (qs.getD j Rws.rd).a (qs.getD j Rws.rd).n (qs.getD j Rws.rd).c) := (hc1 j hlt).2
            have P2 : Hid (wo.cell? ⟨b2, o2 + j * 2 + 1, none⟩ = some (.slice (rs.getD j Rws.rd).a (rs.getD j Rws.rd).n (rs.getD j Rws.rd).c)) := (hc2 j (by have := HUN.out; omega)).2
            have vx := (hS.rows _ (Rws.getD_mem_rd kx)).2
            have vy := (hU.rows _ (Rws.getD_mem_rd ky)).2
            have nx := HSN.out _ (Rws.getD_mem_rd kx)
            have SC := SA.out.2.2.2 j ky
            generalize qs.getD j Rws.rd = x at p0 p1 vx nx SC
            generalize rs.getD j Rws.rd = y at P2 vy SC
            obtain ⟨xk, xa, xn, xc, xv⟩ := x
            obtain ⟨yk, ya, yn, yc, yv⟩ := y
            simp only at p0 p1 vx vy nx SC
            obtain ⟨rfl, hxv⟩ := SC
            have SE := Put2.set_cells (key := key) (col := col) SA.out.2.1 hxv
            have lx := vx.len
            have ly := vy.len
            have HXY : Hid (xn = yn) := by show _ = _; have := SE.1; omega
            have HE : Hid (∀ c : Nat, c < xn → (xk = key → (c : Int) = col → xv.getD c Vals.vd = (vb, vn)) ∧ (¬ (xk = key ∧ (c : Int) = col) → xv.getD c Vals.vd = yv.getD c Vals.vd)) := fun c hc => SE.2 c (by omega)
            have VX : Hid (Vals.IsVals wo xa xn xc xv) := vx
            have VY : Hid (Vals.IsVals wo ya yn yc yv) := vy
            have hjI : (j : Int) < (sn : Int) := by omega
            have hjU : (j : Int) < (un : Int) := by have := HUN.out; omega
            have hj0 : (0 : Int) ≤ (j : Int) := by omega
            clear hS hU hlen hlenu hc1 hc2 vx vy kx ky SE lx ly hxv
            have B_98 : Hid (Below w.heap.size w (wo.alloc (.cells #[.int .i64 xk, .slice xa xn xc] 26))) := Frame.next B_93.out (Draw1.below_alloc wo (.cells #[.int .i64 xk, .slice xa xn xc] 26)) B_93.out.size
            have VB_99 : Hid (Put2.VBox (wo.alloc (.cells #[.int .i64 xk, .slice xa xn xc] 26)) (w18.heap.size) vb vn) := Put2.VBox.below VB_95.out (Draw1.below_alloc wo (.cells #[.int .i64 xk, .slice xa xn xc] 26))
            have C_100 : Hid (Below w82.heap.size w82 (wo.alloc (.cells #[.int .i64 xk, .slice xa xn xc] 26))) := Frame.next C_97.out (Draw1.below_alloc wo (.cells #[.int .i64 xk, .slice xa xn xc] 26)) C_97.out.size
            have XB_101 : Hid (Rwl.Box (wo.alloc (.cells #[.int .i64 xk, .slice xa xn xc] 26)) (wo.heap.size) xk xa xn xc) := Rwl.Box.new wo xk xa xn xc 26
            clear B_93 VB_95 C_97
            have BX : Hid (Below wo.heap.size wo (wo.alloc (.cells #[.int .i64 xk, .slice xa xn xc] 26))) := Draw1.below_alloc _ _
            have hbw : b2 < wo.heap.size := hb2
            have YC : Hid ((wo.alloc (.cells #[.int .i64 xk, .slice xa xn xc] 26)).cell? ⟨b2, o2 + j * 2 + 1, none⟩ = some (.slice ya yn yc)) := (BX.out.cell (p := ⟨b2, o2 + j * 2 + 1, none⟩) hb2).trans P2.out
            have XV : Hid (Vals.IsVals (wo.alloc (.cells #[.int .i64 xk, .slice xa xn xc] 26)) xa xn xc xv) := Vals.IsVals.below VX.out BX.out
            have YV : Hid (Vals.IsVals (wo.alloc (.cells #[.int .i64 xk, .slice xa xn xc] 26)) ya yn yc yv) := Vals.IsVals.below VY.out BX.out
            have HBW : Hid ((wo.alloc (.cells #[.int .i64 xk, .slice xa xn xc] 26)).heap.size = wo.heap.size + 1) := by show _ = _; simp
            go_wp2
            go_loopw [181] (fun i wr => ∃ c : Nat, c ≤ xn ∧ i = .int .i64 c ∧ Below (wo.alloc (.cells #[.int .i64 xk, .slice xa xn xc] 26)).heap.size (wo.alloc (.cells #[.int .i64 xk, .slice xa xn xc] 26)) wr) (fun i _ => xn - (intOf i).toNat)
            case atStart => exact ⟨0, Nat.zero_le _, rfl, Below.refl _ _⟩
            case round =>
              obtain ⟨c, hc, rfl, hbq⟩ := hrel
              have HQ : Hid (Below (wo.alloc (.cells #[.int .i64 xk, .slice xa xn xc] 26)).heap.size (wo.alloc (.cells #[.int .i64 xk, .slice xa xn xc] 26)) wr) := hbq
              clear hbq p0 p1
              have B_102 : Hid (Below w.heap.size w wr) := Frame.next B_98.out HQ.out B_98.out.size
              have VB_103 : Hid (Put2.VBox wr (w18.heap.size) vb vn) := Put2.VBox.below VB_99.out HQ.out
              have C_104 : Hid (Below w82.heap.size w82 wr) := Frame.next C_100.out HQ.out C_100.out.size
              have XB_105 : Hid (Rwl.Box wr (wo.heap.size) xk xa xn xc) := Rwl.Box.below XB_101.out HQ.out
              by_cases hcl : c < xn
              · have yc0 : wr.cell? ⟨b2, o2 + j * 2 + 1, none⟩ = some (.slice ya yn yc) := (HQ.out.cell (p := ⟨b2, o2 + j * 2 + 1, none⟩) (by rw [HBW.out]; show b2 < _; omega)).trans YC.out
                obtain ⟨g1, f1, rfl, hg1, hd1⟩ := (Vals.IsVals.below XV.out HQ.out).cells (by omega)
                obtain ⟨g3, f3, rfl, hg3, hd3⟩ := (Vals.IsVals.below YV.out HQ.out).cells (by have := HXY.out; omega)
                have x0 := (hd1 c hcl).1
                have x1 := (hd1 c hcl).2
                have y0 := (hd3 c (by have := HXY.out; omega)).1
                have y1 := (hd3 c (by have := HXY.out; omega)).2
                have HEC := HE.out c hcl
                generalize xv.getD c Vals.vd = xx at x0 x1 HEC
                generalize yv.getD c Vals.vd = yy at y0 y1 HEC
                obtain ⟨xb, xi⟩ := xx
                obtain ⟨yb, yi⟩ := yy
                simp only at x0 x1 y0 y1
                obtain ⟨bk0, bk1⟩ := XB_105.out
                obtain ⟨vk0, vk1⟩ := VB_103.out
                have hcI : (c : Int) < (xn : Int) := by omega
                have hcJ : (c : Int) < (yn : Int) := by have := HXY.out; omega
                have hc0 : (0 : Int) ≤ (c : Int) := by omega
                have hgd : Try.prog.eqGuardType Try.prog.depth 45 = false := by kernel_rfl
                clear hd1 hd3
                by_cases hkk : xk = key
                · have ek : (xk == key) = true := by simp [hkk]
                  by_cases hcc : (c : Int) = col
                  · have ec : ((c : Int) == col) = true := by simp [hcc]
                    have hv := HEC.1 hkk hcc
                    simp only [Prod.mk.injEq] at hv
                    obtain ⟨rfl, rfl⟩ := hv
                    have hq : ∀ w2 : World, (binOp .neq 45 (.agg #[.bool xb, .int .i64 xi]) (.agg #[.bool xb, .int .i64 xi])).run Try.prog w2 = .ok (.bool false) w2 := fun w2 => by rw [Smt.neq_value]; simp
                    clear HEC hkk hcc
                    go_wp2_with fail
                    go_quiet (fail)
                    go_wp2
                    go_roundw
                    case rel => exact ⟨c + 1, by omega, by go_num, below_drewN HQ.out _⟩
                    case measure => simp [intOf]; omega
                  · have ec : ((c : Int) == col) = false := by simp [hcc]
                    have hv := HEC.2 (fun h => hcc h.2)
                    simp only [Prod.mk.injEq] at hv
                    obtain ⟨rfl, rfl⟩ := hv
                    have hq : ∀ w2 : World, (binOp .neq 45 (.agg #[.bool xb, .int .i64 xi]) (.agg #[.bool xb, .int .i64 xi])).run Try.prog w2 = .ok (.bool false) w2 := fun w2 => by rw [Smt.neq_value]; simp
                    clear HEC hkk hcc
                    go_wp2_with fail
                    go_quiet (fail)
                    go_wp2
                    go_roundw
                    case rel => exact ⟨c + 1, by omega, by go_num, below_drewN HQ.out _⟩
                    case measure => simp [intOf]; omega
                · have ek : (xk == key) = false := by simp [hkk]
                  have hv := HEC.2 (fun h => hkk h.1)
                  simp only [Prod.mk.injEq] at hv
                  obtain ⟨rfl, rfl⟩ := hv
                  have hq : ∀ w2 : World, (binOp .neq 45 (.agg #[.bool xb, .int .i64 xi]) (.agg #[.bool xb, .int .i64 xi])).run Try.prog w2 = .ok (.bool false) w2 := fun w2 => by rw [Smt.neq_value]; simp
                  clear HEC hkk
                  go_wp2_with fail
                  go_quiet (fail)
                  go_wp2
                  go_roundw
                  case rel => exact ⟨c + 1, by omega, by go_num, below_drewN HQ.out _⟩
                  case measure => simp [intOf]; omega
              · have hcn : ¬ (c : Int) < (xn : Int) := by omega
                go_wp2
                go_roundw
                case rel => exact ⟨j + 1, by omega, by go_num, C_104.out⟩
                case measure => simp [intOf]; omega
          · have hjn : ¬ (j : Int) < (sn : Int) := by omega
            go_wp2
            go_ret
            exact ⟨rfl, B_93.out⟩
    · clear e0
      by_cases hpq : p ≤ q
      · have hpd : decide (p ≤ q) = true := decide_eq_true hpq
        go_wp2_with fail
        refine (Dr2d.numberOf _ _ _ _ _ (Mem.IsRow.below HD.out B_14.out)).mono ?_
        rintro e w9 ⟨r, rfl, hr0, hr1, rfl⟩
        go_wp2_with fail
        have hm0 : 0 ≤ r % (q - p + 1) := Int.emod_nonneg _ (by omega)
        have hm1 : r % (q - p + 1) < q - p + 1 := Int.emod_lt_of_pos _ (by omega)
        have hT : wrap64 (p + r % (q - p + 1)) = p + r % (q - p + 1) := by generalize r % (q - p + 1) = z at hm0 hm1 ⊢; unfold wrap64; omega
        rw [hT]
        have hT0 : p ≤ p + r % (q - p + 1) := by omega
        have hT1 : p + r % (q - p + 1) ≤ q := by omega
        clear hT hm0 hm1
        generalize p + r % (q - p + 1) = T at hT0 hT1 ⊢
        refine (Put2.impl_Range _ _ p T true _ L_15.out HG.out).mono ?_
        rintro e w106 ⟨av, rfl, hr, hb⟩
        have B_107 : Hid (Below w.heap.size w w106) := Frame.next B_14.out hb B_14.out.size
        have L_108 : Hid (Knr.RIs w106 lv xs) := Knr.rIs_below L_15.out hb
        have R_109 : Hid (Knr.RIs w106 rv (Tfn.pRangeV p q xs)) := Knr.rIs_below R_16.out hb
        obtain ⟨aa, an, ac, ra, rfl, hra, hae, hat⟩ := hr
        have A_110 : Hid (Rws.IsRows w106 aa an ac ra) := hra
        have AE : Hid (Rws.plain ra = Tfn.pRangeV p T xs) := hae
        have han : an ≤ 1048576 := by rw [← hra.len]; exact (Knr.small_rows hat).1
        clear hb B_14 L_15 R_16 hra hae hat
        go_wp2_with fail
        refine (Put2.impl_Range _ _ (T + 1) q true _ L_108.out HG.out).mono ?_
        rintro e w111 ⟨bv, rfl, hr, hb⟩
        have B_112 : Hid (Below w.heap.size w w111) := Frame.next B_107.out hb B_107.out.size
        have L_113 : Hid (Knr.RIs w111 lv xs) := Knr.rIs_below L_108.out hb
        have R_114 : Hid (Knr.RIs w111 rv (Tfn.pRangeV p q xs)) := Knr.rIs_below R_109.out hb
        have A_115 : Hid (Rws.IsRows w111 aa an ac ra) := Rws.IsRows.below A_110.out hb
        obtain ⟨ba, bn, bc, rb, rfl, hrb, hbe, hbt⟩ := hr
        have D_116 : Hid (Rws.IsRows w111 ba bn bc rb) := hrb
        have BE : Hid (Rws.plain rb = Tfn.pRangeV (T + 1) q xs) := hbe
        have hbn : bn ≤ 1048576 := by rw [← hrb.len]; exact (Knr.small_rows hbt).1
        clear hb B_107 L_108 R_109 A_110 hrb hbe hbt
        have JE : Hid (Rws.plain ra ++ Rws.plain rb = Tfn.pRangeV p q xs) := by show _ = _; rw [AE.out, BE.out]; exact Put2.range_two p T q hT0 hT1 HG.out
        have JT : Hid (Knr.ptotal (Rws.plain ra ++ Rws.plain rb) ≤ 1048576) := by show _ ≤ _; rw [JE.out]; exact Tfn.rangeV_small _ _ _
        have O0 : Hid ((w111.alloc (.cells #[] 26)).ownsRow w111.heap.size 26 2 (.slice (some ⟨w111.heap.size, 0, none⟩) 0 0) 0 []) := Cpy.own_empty w111 w111.heap.size _ 2 _ rfl (Nat.le_refl _)
        have BD : Hid (Below w111.heap.size w111 (w111.alloc (.cells #[] 26))) := (Below.refl _ _).alloc (Nat.le_refl _) _
        have S1 : Hid (0 < an → ∃ ad, aa = some ad ∧ ∀ i u, (Rws.rcells ra)[i]? = some u → (w111.alloc (.cells #[] 26)).cell? (ad.add i) = some u) := Put2.rows_ad (Rws.IsRows.below A_115.out BD.out)
        have L1 : Hid ((Rws.rcells ra).length = an * 2) := by show _ = _; rw [Rws.rcells_length, A_115.out.len]
        go_wp2_with (at_builtin; refine Put2.unguard (by rfl) ?_; refine App.wpList_append_all _ rfl _ _ 23 rfl w111.heap.size 26 i0 (.agg #[.int .i64 0, .slice none 0 0]) 2 32 Try.underlying23 hi hz0 hz1 hz2 rfl (by decide) _ _ _ rfl O0.out _ an _ (Rws.rcells ra) rfl L1.out S1.out (Spt.rcells_one _) ?x1 ?x2 BD.out.size ?_)
        case x1 => unfold maxLen; omega
        case x2 => omega
        intro a2 c2 wa hown2 hgrow2
        have O2 : Hid (wa.ownsRow w111.heap.size 26 2 (.slice a2 an c2) an (Rws.rcells ra)) := (show wa.ownsRow w111.heap.size 26 2 (.slice a2 an c2) an (Rws.rcells ra) by simpa using hown2)
        have B2 : Hid (Below w111.heap.size w111 wa) := Drp.below_append BD.out O0.out hgrow2 BD.out.size
        have S2 : Hid (0 < bn → ∃ ad, ba = some ad ∧ ∀ i u, (Rws.rcells rb)[i]? = some u → wa.cell? (ad.add i) = some u) := Put2.rows_ad (Rws.IsRows.below D_116.out B2.out)
        have L2 : Hid ((Rws.rcells rb).length = bn * 2) := by show _ = _; rw [Rws.rcells_length, D_116.out.len]
        clear hown2 hgrow2
        go_wp2_with (at_builtin; refine Put2.unguard (by rfl) ?_; refine App.wpList_append_all _ rfl _ _ 23 rfl w111.heap.size 26 i0 (.agg #[.int .i64 0, .slice none 0 0]) 2 32 Try.underlying23 hi hz0 hz1 hz2 rfl (by decide) _ _ _ rfl O2.out _ bn _ (Rws.rcells rb) rfl L2.out S2.out (Spt.rcells_one _) ?y1 ?y2 B2.out.size ?_)
        case y1 => unfold maxLen; omega
        case y2 => omega
        intro a3 c3 wj hown3 hgrow3
        have B3 : Hid (Below w111.heap.size w111 wj) := Drp.below_append B2.out O2.out hgrow3 B2.out.size
        have J : Hid (Knr.RIs wj (.slice a3 (an + bn) c3) (Rws.plain ra ++ Rws.plain rb)) := Put2.joined A_115.out D_116.out B3.out hown3 JT.out
        clear hown3 hgrow3
        have B_117 : Hid (Below w.heap.size w wj) := Frame.next B_112.out B3.out B_112.out.size
        have R_118 : Hid (Knr.RIs wj rv (Tfn.pRangeV p q xs)) := Knr.rIs_below R_114.out B3.out
        clear B_112 L_113 R_114 A_115 D_116 O0 BD S1 L1 O2 B2 S2 L2
        go_wp2_with fail
        refine (Rwl.same_table _ _ _ _ _ J.out R_118.out JE.out).mono ?_
        rintro e w119 ⟨rfl, hb⟩
        have B_120 : Hid (Below w.heap.size w w119) := Frame.next B_117.out hb B_117.out.size
        have R_121 : Hid (Knr.RIs w119 rv (Tfn.pRangeV p q xs)) := Knr.rIs_below R_118.out hb
        clear hb B_117 R_118
        go_wp2_with fail
        refine (Dr2d.draw_SetColumn _ _ _ _ _ (Mem.IsRow.below HD.out B_120.out)).mono ?_
        rintro e w122 ⟨uv, uxs, key, col, vb, vn, rfl, hu, hkey, hvn, hb⟩
        have B_123 : Hid (Below w.heap.size w w122) := Frame.next B_120.out hb B_120.out.size
        obtain ⟨ua, un, uc, rs, rfl, hrs, rfl, htot⟩ := hu
        have U_124 : Hid (Knr.RIs w122 (.slice ua un uc) (Rws.plain rs)) := ⟨ua, un, uc, rs, rfl, hrs, rfl, htot⟩
        have US_125 : Hid (Rws.IsRows w122 ua un uc rs) := hrs
        have KW : Hid ((Lit.int .i64 key).wf = true) := hkey
        have VW : Hid ((Lit.int .i64 vn).wf = true) := hvn
        clear hb B_120 hrs htot hkey hvn
        have B_126 : Hid (Below w.heap.size w (w122.alloc (.cells #[.bool vb, .int .i64 vn] 45))) := Frame.next B_123.out (Draw1.below_alloc w122 (.cells #[.bool vb, .int .i64 vn] 45)) B_123.out.size
        have U_127 : Hid (Knr.RIs (w122.alloc (.cells #[.bool vb, .int .i64 vn] 45)) (.slice ua un uc) (Rws.plain rs)) := Knr.rIs_below U_124.out (Draw1.below_alloc w122 (.cells #[.bool vb, .int .i64 vn] 45))
        have US_128 : Hid (Rws.IsRows (w122.alloc (.cells #[.bool vb, .int .i64 vn] 45)) ua un uc rs) := Rws.IsRows.below US_125.out (Draw1.below_alloc w122 (.cells #[.bool vb, .int .i64 vn] 45))
        have VB_129 : Hid (Put2.VBox (w122.alloc (.cells #[.bool vb, .int .i64 vn] 45)) (w122.heap.size) vb vn) := Put2.VBox.new w122 vb vn 45
        clear B_123 U_124 US_125
        obtain ⟨o, ho⟩ : ∃ o, Tfn.pSetB key col (vb, vn) (Rws.plain rs) = o := ⟨_, rfl⟩
        have HO : Hid (Tfn.pSetB key col (vb, vn) (Rws.plain rs) = o) := ho
        clear ho
        obtain ⟨vx0, vx1⟩ := VB_129.out
        go_wp2_with fail
        refine (Put2.impl_Set _ _ key col vb vn o _ U_127.out KW.out VW.out HO.out).mono ?_
        rintro e w130 ⟨sv1, rfl, hs, hb⟩
        have B_131 : Hid (Below w.heap.size w w130) := Frame.next B_126.out hb B_126.out.size
        have U_132 : Hid (Knr.RIs w130 (.slice ua un uc) (Rws.plain rs)) := Knr.rIs_below U_127.out hb
        have US_133 : Hid (Rws.IsRows w130 ua un uc rs) := Rws.IsRows.below US_128.out hb
        have VB_134 : Hid (Put2.VBox w130 (w122.heap.size) vb vn) := Put2.VBox.below VB_129.out hb
        obtain ⟨sa, sn, sc, qs, rfl, hqs, hqe, hst⟩ := hs
        have SS_135 : Hid (Rws.IsRows w130 sa sn sc qs) := hqs
        have S1_136 : Hid (Knr.RIs w130 (.slice sa sn sc) (Tfn.pSetV key col (vb, vn) (Rws.plain rs))) := ⟨sa, sn, sc, qs, rfl, hqs, hqe, hst⟩
        have QE : Hid (Rws.plain qs = (Tfn.pSetV key col (vb, vn) (Rws.plain rs))) := hqe
        have HSN : Hid (∀ r ∈ qs, r.n ≤ 1048576) := (Knr.small_rows hst).2
        have hsn : sn ≤ 1048576 := by rw [← hqs.len]; exact (Knr.small_rows hst).1
        clear hb B_126 U_127 US_128 VB_129 hqs hqe hst vx0 vx1
        obtain ⟨vx0, vx1⟩ := VB_134.out
        go_wp2_with fail
        refine (Put2.spec_Set _ _ key col vb vn o _ U_132.out KW.out VW.out HO.out).mono ?_
        rintro e w137 ⟨sv2, rfl, hs, hb⟩
        have B_138 : Hid (Below w.heap.size w w137) := Frame.next B_131.out hb B_131.out.size
        have U_139 : Hid (Knr.RIs w137 (.slice ua un uc) (Rws.plain rs)) := Knr.rIs_below U_132.out hb
        have US_140 : Hid (Rws.IsRows w137 ua un uc rs) := Rws.IsRows.below US_133.out hb
        have VB_141 : Hid (Put2.VBox w137 (w122.heap.size) vb vn) := Put2.VBox.below VB_134.out hb
        have SS_142 : Hid (Rws.IsRows w137 sa sn sc qs) := Rws.IsRows.below SS_135.out hb
        have S1_143 : Hid (Knr.RIs w137 (.slice sa sn sc) (Tfn.pSetV key col (vb, vn) (Rws.plain rs))) := Knr.rIs_below S1_136.out hb
        have S2_144 : Hid (Knr.RIs w137 sv2 (Tfn.pSetV key col (vb, vn) (Rws.plain rs))) := hs
        clear hb B_131 U_132 US_133 VB_134 SS_135 S1_136 hs vx0 vx1
        go_wp2_with fail
        refine (Dr2c.draw_KeysOf _ _ _ _ _ (Mem.IsRow.below HD.out B_138.out)).mono ?_
        rintro e w145 ⟨kv, kxs, rfl, hk, hb⟩
        have B_146 : Hid (Below w.heap.size w w145) := Frame.next B_138.out hb B_138.out.size
        have U_147 : Hid (Knr.RIs w145 (.slice ua un uc) (Rws.plain rs)) := Knr.rIs_below U_139.out hb
        have US_148 : Hid (Rws.IsRows w145 ua un uc rs) := Rws.IsRows.below US_140.out hb
        have VB_149 : Hid (Put2.VBox w145 (w122.heap.size) vb vn) := Put2.VBox.below VB_141.out hb
        have SS_150 : Hid (Rws.IsRows w145 sa sn sc qs) := Rws.IsRows.below SS_142.out hb
        have S1_151 : Hid (Knr.RIs w145 (.slice sa sn sc) (Tfn.pSetV key col (vb, vn) (Rws.plain rs))) := Knr.rIs_below S1_143.out hb
        have S2_152 : Hid (Knr.RIs w145 sv2 (Tfn.pSetV key col (vb, vn) (Rws.plain rs))) := Knr.rIs_below S2_144.out hb
        have K_153 : Hid (Knr.RIs w145 kv kxs) := hk
        clear hb B_138 U_139 US_140 VB_141 SS_142 S1_143 S2_144 hk
        obtain ⟨g2, hg2⟩ : ∃ g, Tfn.pGood kxs = g := ⟨_, rfl⟩
        have HG2 : Hid (Tfn.pGood kxs = g2) := hg2
        clear hg2
        go_wp2_with fail
        refine (Put2.impl_Keys _ _ g2 _ K_153.out HG2.out).mono ?_
        rintro e w154 ⟨k1, rfl, hk, hb⟩
        have B_155 : Hid (Below w.heap.size w w154) := Frame.next B_146.out hb B_146.out.size
        have U_156 : Hid (Knr.RIs w154 (.slice ua un uc) (Rws.plain rs)) := Knr.rIs_below U_147.out hb
        have US_157 : Hid (Rws.IsRows w154 ua un uc rs) := Rws.IsRows.below US_148.out hb
        have VB_158 : Hid (Put2.VBox w154 (w122.heap.size) vb vn) := Put2.VBox.below VB_149.out hb
        have SS_159 : Hid (Rws.IsRows w154 sa sn sc qs) := Rws.IsRows.below SS_150.out hb
        have S1_160 : Hid (Knr.RIs w154 (.slice sa sn sc) (Tfn.pSetV key col (vb, vn) (Rws.plain rs))) := Knr.rIs_below S1_151.out hb
        have S2_161 : Hid (Knr.RIs w154 sv2 (Tfn.pSetV key col (vb, vn) (Rws.plain rs))) := Knr.rIs_below S2_152.out hb
        have K_162 : Hid (Knr.RIs w154 kv kxs) := Knr.rIs_below K_153.out hb
        have K1_163 : Hid (Kep.IIs w154 k1 (Tfn.pKeysV kxs)) := hk
        clear hb B_146 U_147 US_148 VB_149 SS_150 S1_151 S2_152 K_153 hk
        go_wp2_with fail
        refine (Put2.spec_Keys _ _ g2 _ K_162.out HG2.out).mono ?_
        rintro e w164 ⟨k2, rfl, hk, hb⟩
        have B_165 : Hid (Below w.heap.size w w164) := Frame.next B_155.out hb B_155.out.size
        have U_166 : Hid (Knr.RIs w164 (.slice ua un uc) (Rws.plain rs)) := Knr.rIs_below U_156.out hb
        have US_167 : Hid (Rws.IsRows w164 ua un uc rs) := Rws.IsRows.below US_157.out hb
        have VB_168 : Hid (Put2.VBox w164 (w122.heap.size) vb vn) := Put2.VBox.below VB_158.out hb
        have SS_169 : Hid (Rws.IsRows w164 sa sn sc qs) := Rws.IsRows.below SS_159.out hb
        have S1_170 : Hid (Knr.RIs w164 (.slice sa sn sc) (Tfn.pSetV key col (vb, vn) (Rws.plain rs))) := Knr.rIs_below S1_160.out hb
        have S2_171 : Hid (Knr.RIs w164 sv2 (Tfn.pSetV key col (vb, vn) (Rws.plain rs))) := Knr.rIs_below S2_161.out hb
        have K_172 : Hid (Knr.RIs w164 kv kxs) := Knr.rIs_below K_162.out hb
        have K1_173 : Hid (Kep.IIs w164 k1 (Tfn.pKeysV kxs)) := Kep.iIs_below K1_163.out hb
        have K2_174 : Hid (Kep.IIs w164 k2 (Tfn.pKeysV kxs)) := hk
        clear hb B_155 U_156 US_157 VB_158 SS_159 S1_160 S2_161 K_162 K1_163 hk
        have e3 : (o != o) = false := by simp
        have e4 : (g2 != g2) = false := by simp
        go_wp2_with fail
        refine (Rwl.same_table _ _ _ _ _ S1_170.out S2_171.out rfl).mono ?_
        rintro e w175 ⟨rfl, hb⟩
        have B_176 : Hid (Below w.heap.size w w175) := Frame.next B_165.out hb B_165.out.size
        have U_177 : Hid (Knr.RIs w175 (.slice ua un uc) (Rws.plain rs)) := Knr.rIs_below U_166.out hb
        have US_178 : Hid (Rws.IsRows w175 ua un uc rs) := Rws.IsRows.below US_167.out hb
        have VB_179 : Hid (Put2.VBox w175 (w122.heap.size) vb vn) := Put2.VBox.below VB_168.out hb
        have SS_180 : Hid (Rws.IsRows w175 sa sn sc qs) := Rws.IsRows.below SS_169.out hb
        have S1_181 : Hid (Knr.RIs w175 (.slice sa sn sc) (Tfn.pSetV key col (vb, vn) (Rws.plain rs))) := Knr.rIs_below S1_170.out hb
        have S2_182 : Hid (Knr.RIs w175 sv2 (Tfn.pSetV key col (vb, vn) (Rws.plain rs))) := Knr.rIs_below S2_171.out hb
        have K_183 : Hid (Knr.RIs w175 kv kxs) := Knr.rIs_below K_172.out hb
        have K1_184 : Hid (Kep.IIs w175 k1 (Tfn.pKeysV kxs)) := Kep.iIs_below K1_173.out hb
        have K2_185 : Hid (Kep.IIs w175 k2 (Tfn.pKeysV kxs)) := Kep.iIs_below K2_174.out hb
        clear hb B_165 U_166 US_167 VB_168 SS_169 S1_170 S2_171 K_172 K1_173 K2_174
        go_wp2_with fail
        refine (Put2.same_ints _ _ _ _ K1_184.out K2_185.out).mono ?_
        rintro e w186 ⟨rfl, hb⟩
        have B_187 : Hid (Below w.heap.size w w186) := Frame.next B_176.out hb B_176.out.size
        have U_188 : Hid (Knr.RIs w186 (.slice ua un uc) (Rws.plain rs)) := Knr.rIs_below U_177.out hb
        have US_189 : Hid (Rws.IsRows w186 ua un uc rs) := Rws.IsRows.below US_178.out hb
        have VB_190 : Hid (Put2.VBox w186 (w122.heap.size) vb vn) := Put2.VBox.below VB_179.out hb
        have SS_191 : Hid (Rws.IsRows w186 sa sn sc qs) := Rws.IsRows.below SS_180.out hb
        have S1_192 : Hid (Knr.RIs w186 (.slice sa sn sc) (Tfn.pSetV key col (vb, vn) (Rws.plain rs))) := Knr.rIs_below S1_181.out hb
        have S2_193 : Hid (Knr.RIs w186 sv2 (Tfn.pSetV key col (vb, vn) (Rws.plain rs))) := Knr.rIs_below S2_182.out hb
        have K_194 : Hid (Knr.RIs w186 kv kxs) := Knr.rIs_below K_183.out hb
        have K1_195 : Hid (Kep.IIs w186 k1 (Tfn.pKeysV kxs)) := Kep.iIs_below K1_184.out hb
        have K2_196 : Hid (Kep.IIs w186 k2 (Tfn.pKeysV kxs)) := Kep.iIs_below K2_185.out hb
        clear hb B_176 U_177 US_178 VB_179 SS_180 S1_181 S2_182 K_183 K1_184 K2_185
        cases o
        · clear e3
          go_wp2
          go_ret
          exact ⟨rfl, B_187.out⟩
        · clear e3 e4
          have SA : Hid (qs.length = rs.length ∧ 0 ≤ col ∧ col ≤ 2 ∧ ∀ i, i < rs.length → (qs.getD i Rws.rd).key = (rs.getD i Rws.rd).key ∧ (qs.getD i Rws.rd).vs = (if (rs.getD i Rws.rd).key = key then (rs.getD i Rws.rd).vs.set col.toNat (vb, vn) else (rs.getD i Rws.rd).vs)) := Put2.set_at HO.out QE.out
          go_wp2
          go_loopw [173] (fun i wr => ∃ j : Nat, j ≤ sn ∧ i = .int .i64 j ∧ Below w186.heap.size w186 wr) (fun i _ => sn - (intOf i).toNat)
          case atStart => exact ⟨0, Nat.zero_le _, rfl, Below.refl _ _⟩
          case round =>
            rename World => wo
            obtain ⟨j, hj, rfl, hbr⟩ := hrel
            have HW : Hid (Below w186.heap.size w186 wo) := hbr
            clear hbr
            have B_197 : Hid (Below w.heap.size w wo) := Frame.next B_187.out HW.out B_187.out.size
            have US_198 : Hid (Rws.IsRows wo ua un uc rs) := Rws.IsRows.below US_189.out HW.out
            have VB_199 : Hid (Put2.VBox wo (w122.heap.size) vb vn) := Put2.VBox.below VB_190.out HW.out
            have SS_200 : Hid (Rws.IsRows wo sa sn sc qs) := Rws.IsRows.below SS_191.out HW.out
            have C_201 : Hid (Below w186.heap.size w186 wo) := HW.out
            clear HW
            by_cases hlt : j < sn
            · have hS := SS_200.out
              have hU := US_198.out
              have hlen := hS.len
              have hlenu := hU.len
              have HUN : Hid (sn = un) := by show _ = _; have := SA.out.1; omega
              obtain ⟨b1, o1, rfl, hb1, hc1⟩ := hS.cells (by omega)
              obtain ⟨b2, o2, rfl, hb2, hc2⟩ := hU.cells (by have := HUN.out; omega)
              have kx : j < qs.length := by rw [hlen]; exact hlt
              have ky : j < rs.length := by rw [← SA.out.1]; exact kx
              have p0 : wo.cell? ⟨b1, o1 + j * 2, none⟩ = some (.int .i64 (qs.getD j Rws.rd).key) := (hc1 j hlt).1
              have p1 : wo.cell? ⟨b1, o1 + j * 2 + 1, none⟩ = some (.slice (qs.getD j Rws.rd).a (qs.getD j Rws.rd).n (qs.getD j Rws.rd).c) := (hc1 j hlt).2
              have P2 : Hid (wo.cell? ⟨b2, o2 + j * 2 + 1, none⟩ = some (.slice (rs.getD j Rws.rd).a (rs.getD j Rws.rd).n (rs.getD j Rws.rd).c)) := (hc2 j (by have := HUN.out; omega)).2
              have vx := (hS.rows _ (Rws.getD_mem_rd kx)).2
              have vy := (hU.rows _ (Rws.getD_mem_rd ky)).2
              have nx := HSN.out _ (Rws.getD_mem_rd kx)
              have SC := SA.out.2.2.2 j ky
              generalize qs.getD j Rws.rd = x at p0 p1 vx nx SC
              generalize rs.getD j Rws.rd = y at P2 vy SC
              obtain ⟨xk, xa, xn, xc, xv⟩ := x
              obtain ⟨yk, ya, yn, yc, yv⟩ := y
              simp only at p0 p1 vx vy nx SC
              obtain ⟨rfl, hxv⟩ := SC
              have SE := Put2.set_cells (key := key) (col := col) SA.out.2.1 hxv
              have lx := vx.len
              have ly := vy.len
              have HXY : Hid (xn = yn) := by show _ = _; have := SE.1; omega
              have HE : Hid (∀ c : Nat, c < xn → (xk = key → (c : Int) = col → xv.getD c Vals.vd = (vb, vn)) ∧ (¬ (xk = key ∧ (c : Int) = col) → xv.getD c Vals.vd = yv.getD c Vals.vd)) := fun c hc => SE.2 c (by omega)
              have VX : Hid (Vals.IsVals wo xa xn xc xv) := vx
              have VY : Hid (Vals.IsVals wo ya yn yc yv) := vy
              have hjI : (j : Int) < (sn : Int) := by omega
              have hjU : (j : Int) < (un : Int) := by have := HUN.out; omega
              have hj0 : (0 : Int) ≤ (j : Int) := by omega
              clear hS hU hlen hlenu hc1 hc2 vx vy kx ky SE lx ly hxv
              have B_202 : Hid (Below w.heap.size w (wo.alloc (.cells #[.int .i64 xk, .slice xa xn xc] 26))) := Frame.next B_197.out (Draw1.below_alloc wo (.cells #[.int .i64 xk, .slice xa xn xc] 26)) B_197.out.size
              have VB_203 : Hid (Put2.VBox (wo.alloc (.cells #[.int .i64 xk, .slice xa xn xc] 26)) (w122.heap.size) vb vn) := Put2.VBox.below VB_199.out (Draw1.below_alloc wo (.cells #[.int .i64 xk, .slice xa xn xc] 26))
              have C_204 : Hid (Below w186.heap.size w186 (wo.alloc (.cells #[.int .i64 xk, .slice xa xn xc] 26))) := Frame.next C_201.out (Draw1.below_alloc wo (.cells #[.int .i64 xk, .slice xa xn xc] 26)) C_201.out.size
              have XB_205 : Hid (Rwl.Box (wo.alloc (.cells #[.int .i64 xk, .slice xa xn xc] 26)) (wo.heap.size) xk xa xn xc) := Rwl.Box.new wo xk xa xn xc 26
              clear B_197 VB_199 C_201
              have BX : Hid (Below wo.heap.size wo (wo.alloc (.cells #[.int .i64 xk, .slice xa xn xc] 26))) := Draw1.below_alloc _ _
              have hbw : b2 < wo.heap.size := hb2
              have YC : Hid ((wo.alloc (.cells #[.int .i64 xk, .slice xa xn xc] 26)).cell? ⟨b2, o2 + j * 2 + 1, none⟩ = some (.slice ya yn yc)) := (BX.out.cell (p := ⟨b2, o2 + j * 2 + 1, none⟩) hb2).trans P2.out
              have XV : Hid (Vals.IsVals (wo.alloc (.cells #[.int .i64 xk, .slice xa xn xc] 26)) xa xn xc xv) := Vals.IsVals.below VX.out BX.out
              have YV : Hid (Vals.IsVals (wo.alloc (.cells #[.int .i64 xk, .slice xa xn xc] 26)) ya yn yc yv) := Vals.IsVals.below VY.out BX.out
              have HBW : Hid ((wo.alloc (.cells #[.int .i64 xk, .slice xa xn xc] 26)).heap.size = wo.heap.size + 1) := by show _ = _; simp
              go_wp2
              go_loopw [181] (fun i wr => ∃ c : Nat, c ≤ xn ∧ i = .int .i64 c ∧ Below (wo.alloc (.cells #[.int .i64 xk, .slice xa xn xc] 26)).heap.size (wo.alloc (.cells #[.int .i64 xk, .slice xa xn xc] 26)) wr) (fun i _ => xn - (intOf i).toNat)
              case atStart => exact ⟨0, Nat.zero_le _, rfl, Below.refl _ _⟩
              case round =>
                obtain ⟨c, hc, rfl, hbq⟩ := hrel
                have HQ : Hid (Below (wo.alloc (.cells #[.int .i64 xk, .slice xa xn xc] 26)).heap.size (wo.alloc (.cells #[.int .i64 xk, .slice xa xn xc] 26)) wr) := hbq
                clear hbq p0 p1
                have B_206 : Hid (Below w.heap.size w wr) := Frame.next B_202.out HQ.out B_202.out.size
                have VB_207 : Hid (Put2.VBox wr (w122.heap.size) vb vn) := Put2.VBox.below VB_203.out HQ.out
                have C_208 : Hid (Below w186.heap.size w186 wr) := Frame.next C_204.out HQ.out C_204.out.size
                have XB_209 : Hid (Rwl.Box wr (wo.heap.size) xk xa xn xc) := Rwl.Box.below XB_205.out HQ.out
                by_cases hcl : c < xn
                · have yc0 : wr.cell? ⟨b2, o2 + j * 2 + 1, none⟩ = some (.slice ya yn yc) := (HQ.out.cell (p := ⟨b2, o2 + j * 2 + 1, none⟩) (by rw [HBW.out]; show b2 < _; omega)).trans YC.out
                  obtain ⟨g1, f1, rfl, hg1, hd1⟩ := (Vals.IsVals.below XV.out HQ.out).cells (by omega)
                  obtain ⟨g3, f3, rfl, hg3, hd3⟩ := (Vals.IsVals.below YV.out HQ.out).cells (by have := HXY.out; omega)
                  have x0 := (hd1 c hcl).1
                  have x1 := (hd1 c hcl).2
                  have y0 := (hd3 c (by have := HXY.out; omega)).1
                  have y1 := (hd3 c (by have := HXY.out; omega)).2
                  have HEC := HE.out c hcl
                  generalize xv.getD c Vals.vd = xx at x0 x1 HEC
                  generalize yv.getD c Vals.vd = yy at y0 y1 HEC
                  obtain ⟨xb, xi⟩ := xx
                  obtain ⟨yb, yi⟩ := yy
                  simp only at x0 x1 y0 y1
                  obtain ⟨bk0, bk1⟩ := XB_209.out
                  obtain ⟨vk0, vk1⟩ := VB_207.out
                  have hcI : (c : Int) < (xn : Int) := by omega
                  have hcJ : (c : Int) < (yn : Int) := by have := HXY.out; omega
                  have hc0 : (0 : Int) ≤ (c : Int) := by omega
                  have hgd : Try.prog.eqGuardType Try.prog.depth 45 = false := by kernel_rfl
                  clear hd1 hd3
                  by_cases hkk : xk = key
                  · have ek : (xk == key) = true := by simp [hkk]
                    by_cases hcc : (c : Int) = col
                    · have ec : ((c : Int) == col) = true := by simp [hcc]
                      have hv := HEC.1 hkk hcc
                      simp only [Prod.mk.injEq] at hv
                      obtain ⟨rfl, rfl⟩ := hv
                      have hq : ∀ w2 : World, (binOp .neq 45 (.agg #[.bool xb, .int .i64 xi]) (.agg #[.bool xb, .int .i64 xi])).run Try.prog w2 = .ok (.bool false) w2 := fun w2 => by rw [Smt.neq_value]; simp
                      clear HEC hkk hcc
                      go_wp2_with fail
                      go_quiet (fail)
                      go_wp2
                      go_roundw
                      case rel => exact ⟨c + 1, by omega, by go_num, below_drewN HQ.out _⟩
                      case measure => simp [intOf]; omega
                    · have ec : ((c : Int) == col) = false := by simp [hcc]
                      have hv := HEC.2 (fun h => hcc h.2)
                      simp only [Prod.mk.injEq] at hv
                      obtain ⟨rfl, rfl⟩ := hv
                      have hq : ∀ w2 : World, (binOp .neq 45 (.agg #[.bool xb, .int .i64 xi]) (.agg #[.bool xb, .int .i64 xi])).run Try.prog w2 = .ok (.bool false) w2 := fun w2 => by rw [Smt.neq_value]; simp
                      clear HEC hkk hcc
                      go_wp2_with fail
                      go_quiet (fail)
                      go_wp2
                      go_roundw
                      case rel => exact ⟨c + 1, by omega, by go_num, below_drewN HQ.out _⟩
                      case measure => simp [intOf]; omega
                  · have ek : (xk == key) = false := by simp [hkk]
                    have hv := HEC.2 (fun h => hkk h.1)
                    simp only [Prod.mk.injEq] at hv
                    obtain ⟨rfl, rfl⟩ := hv
                    have hq : ∀ w2 : World, (binOp .neq 45 (.agg #[.bool xb, .int .i64 xi]) (.agg #[.bool xb, .int .i64 xi])).run Try.prog w2 = .ok (.bool false) w2 := fun w2 => by rw [Smt.neq_value]; simp
                    clear HEC hkk
                    go_wp2_with fail
                    go_quiet (fail)
                    go_wp2
                    go_roundw
                    case rel => exact ⟨c + 1, by omega, by go_num, below_drewN HQ.out _⟩
                    case measure => simp [intOf]; omega
                · have hcn : ¬ (c : Int) < (xn : Int) := by omega
                  go_wp2
                  go_roundw
                  case rel => exact ⟨j + 1, by omega, by go_num, C_208.out⟩
                  case measure => simp [intOf]; omega
            · have hjn : ¬ (j : Int) < (sn : Int) := by omega
              go_wp2
              go_ret
              exact ⟨rfl, B_197.out⟩
      · have hpd : decide (p ≤ q) = false := decide_eq_false hpq
        go_wp2_with fail
        refine (Dr2d.draw_SetColumn _ _ _ _ _ (Mem.IsRow.below HD.out B_14.out)).mono ?_
        rintro e w210 ⟨uv, uxs, key, col, vb, vn, rfl, hu, hkey, hvn, hb⟩
        have B_211 : Hid (Below w.heap.size w w210) := Frame.next B_14.out hb B_14.out.size
        obtain ⟨ua, un, uc, rs, rfl, hrs, rfl, htot⟩ := hu
        have U_212 : Hid (Knr.RIs w210 (.slice ua un uc) (Rws.plain rs)) := ⟨ua, un, uc, rs, rfl, hrs, rfl, htot⟩
        have US_213 : Hid (Rws.IsRows w210 ua un uc rs) := hrs
        have KW : Hid ((Lit.int .i64 key).wf = true) := hkey
        have VW : Hid ((Lit.int .i64 vn).wf = true) := hvn
        clear hb B_14 hrs htot hkey hvn
        have B_214 : Hid (Below w.heap.size w (w210.alloc (.cells #[.bool vb, .int .i64 vn] 45))) := Frame.next B_211.out (Draw1.below_alloc w210 (.cells #[.bool vb, .int .i64 vn] 45)) B_211.out.size
        have U_215 : Hid (Knr.RIs (w210.alloc (.cells #[.bool vb, .int .i64 vn] 45)) (.slice ua un uc) (Rws.plain rs)) := Knr.rIs_below U_212.out (Draw1.below_alloc w210 (.cells #[.bool vb, .int .i64 vn] 45))
        have US_216 : Hid (Rws.IsRows (w210.alloc (.cells #[.bool vb, .int .i64 vn] 45)) ua un uc rs) := Rws.IsRows.below US_213.out (Draw1.below_alloc w210 (.cells #[.bool vb, .int .i64 vn] 45))
        have VB_217 : Hid (Put2.VBox (w210.alloc (.cells #[.bool vb, .int .i64 vn] 45)) (w210.heap.size) vb vn) := Put2.VBox.new w210 vb vn 45
        clear B_211 U_212 US_213
        obtain ⟨o, ho⟩ : ∃ o, Tfn.pSetB key col (vb, vn) (Rws.plain rs) = o := ⟨_, rfl⟩
        have HO : Hid (Tfn.pSetB key col (vb, vn) (Rws.plain rs) = o) := ho
        clear ho
        obtain ⟨vx0, vx1⟩ := VB_217.out
        go_wp2_with fail
        refine (Put2.impl_Set _ _ key col vb vn o _ U_215.out KW.out VW.out HO.out).mono ?_
        rintro e w218 ⟨sv1, rfl, hs, hb⟩
        have B_219 : Hid (Below w.heap.size w w218) := Frame.next B_214.out hb B_214.out.size
        have U_220 : Hid (Knr.RIs w218 (.slice ua un uc) (Rws.plain rs)) := Knr.rIs_below U_215.out hb
        have US_221 : Hid (Rws.IsRows w218 ua un uc rs) := Rws.IsRows.below US_216.out hb
        have VB_222 : Hid (Put2.VBox w218 (w210.heap.size) vb vn) := Put2.VBox.below VB_217.out hb
        obtain ⟨sa, sn, sc, qs, rfl, hqs, hqe, hst⟩ := hs
        have SS_223 : Hid (Rws.IsRows w218 sa sn sc qs) := hqs
        have S1_224 : Hid (Knr.RIs w218 (.slice sa sn sc) (Tfn.pSetV key col (vb, vn) (Rws.plain rs))) := ⟨sa, sn, sc, qs, rfl, hqs, hqe, hst⟩
        have QE : Hid (Rws.plain qs = (Tfn.pSetV key col (vb, vn) (Rws.plain rs))) := hqe
        have HSN : Hid (∀ r ∈ qs, r.n ≤ 1048576) := (Knr.small_rows hst).2
        have hsn : sn ≤ 1048576 := by rw [← hqs.len]; exact (Knr.small_rows hst).1
        clear hb B_214 U_215 US_216 VB_217 hqs hqe hst vx0 vx1
        obtain ⟨vx0, vx1⟩ := VB_222.out
        go_wp2_with fail
        refine (Put2.spec_Set _ _ key col vb vn o _ U_220.out KW.out VW.out HO.out).mono ?_
        rintro e w225 ⟨sv2, rfl, hs, hb⟩
        have B_226 : Hid (Below w.heap.size w w225) := Frame.next B_219.out hb B_219.out.size
        have U_227 : Hid (Knr.RIs w225 (.slice ua un uc) (Rws.plain rs)) := Knr.rIs_below U_220.out hb
        have US_228 : Hid (Rws.IsRows w225 ua un uc rs) := Rws.IsRows.below US_221.out hb
        have VB_229 : Hid (Put2.VBox w225 (w210.heap.size) vb vn) := Put2.VBox.below VB_222.out hb
        have SS_230 : Hid (Rws.IsRows w225 sa sn sc qs) := Rws.IsRows.below SS_223.out hb
        have S1_231 : Hid (Knr.RIs w225 (.slice sa sn sc) (Tfn.pSetV key col (vb, vn) (Rws.plain rs))) := Knr.rIs_below S1_224.out hb
        have S2_232 : Hid (Knr.RIs w225 sv2 (Tfn.pSetV key col (vb, vn) (Rws.plain rs))) := hs
        clear hb B_219 U_220 US_221 VB_222 SS_223 S1_224 hs vx0 vx1
        go_wp2_with fail
        refine (Dr2c.draw_KeysOf _ _ _ _ _ (Mem.IsRow.below HD.out B_226.out)).mono ?_
        rintro e w233 ⟨kv, kxs, rfl, hk, hb⟩
        have B_234 : Hid (Below w.heap.size w w233) := Frame.next B_226.out hb B_226.out.size
        have U_235 : Hid (Knr.RIs w233 (.slice ua un uc) (Rws.plain rs)) := Knr.rIs_below U_227.out hb
        have US_236 : Hid (Rws.IsRows w233 ua un uc rs) := Rws.IsRows.below US_228.out hb
        have VB_237 : Hid (Put2.VBox w233 (w210.heap.size) vb vn) := Put2.VBox.below VB_229.out hb
        have SS_238 : Hid (Rws.IsRows w233 sa sn sc qs) := Rws.IsRows.below SS_230.out hb
        have S1_239 : Hid (Knr.RIs w233 (.slice sa sn sc) (Tfn.pSetV key col (vb, vn) (Rws.plain rs))) := Knr.rIs_below S1_231.out hb
        have S2_240 : Hid (Knr.RIs w233 sv2 (Tfn.pSetV key col (vb, vn) (Rws.plain rs))) := Knr.rIs_below S2_232.out hb
        have K_241 : Hid (Knr.RIs w233 kv kxs) := hk
        clear hb B_226 U_227 US_228 VB_229 SS_230 S1_231 S2_232 hk
        obtain ⟨g2, hg2⟩ : ∃ g, Tfn.pGood kxs = g := ⟨_, rfl⟩
        have HG2 : Hid (Tfn.pGood kxs = g2) := hg2
        clear hg2
        go_wp2_with fail
        refine (Put2.impl_Keys _ _ g2 _ K_241.out HG2.out).mono ?_
        rintro e w242 ⟨k1, rfl, hk, hb⟩
        have B_243 : Hid (Below w.heap.size w w242) := Frame.next B_234.out hb B_234.out.size
        have U_244 : Hid (Knr.RIs w242 (.slice ua un uc) (Rws.plain rs)) := Knr.rIs_below U_235.out hb
        have US_245 : Hid (Rws.IsRows w242 ua un uc rs) := Rws.IsRows.below US_236.out hb
        have VB_246 : Hid (Put2.VBox w242 (w210.heap.size) vb vn) := Put2.VBox.below VB_237.out hb
        have SS_247 : Hid (Rws.IsRows w242 sa sn sc qs) := Rws.IsRows.below SS_238.out hb
        have S1_248 : Hid (Knr.RIs w242 (.slice sa sn sc) (Tfn.pSetV key col (vb, vn) (Rws.plain rs))) := Knr.rIs_below S1_239.out hb
        have S2_249 : Hid (Knr.RIs w242 sv2 (Tfn.pSetV key col (vb, vn) (Rws.plain rs))) := Knr.rIs_below S2_240.out hb
        have K_250 : Hid (Knr.RIs w242 kv kxs) := Knr.rIs_below K_241.out hb
        have K1_251 : Hid (Kep.IIs w242 k1 (Tfn.pKeysV kxs)) := hk
        clear hb B_234 U_235 US_236 VB_237 SS_238 S1_239 S2_240 K_241 hk
        go_wp2_with fail
        refine (Put2.spec_Keys _ _ g2 _ K_250.out HG2.out).mono ?_
        rintro e w252 ⟨k2, rfl, hk, hb⟩
        have B_253 : Hid (Below w.heap.size w w252) := Frame.next B_243.out hb B_243.out.size
        have U_254 : Hid (Knr.RIs w252 (.slice ua un uc) (Rws.plain rs)) := Knr.rIs_below U_244.out hb
        have US_255 : Hid (Rws.IsRows w252 ua un uc rs) := Rws.IsRows.below US_245.out hb
        have VB_256 : Hid (Put2.VBox w252 (w210.heap.size) vb vn) := Put2.VBox.below VB_246.out hb
        have SS_257 : Hid (Rws.IsRows w252 sa sn sc qs) := Rws.IsRows.below SS_247.out hb
        have S1_258 : Hid (Knr.RIs w252 (.slice sa sn sc) (Tfn.pSetV key col (vb, vn) (Rws.plain rs))) := Knr.rIs_below S1_248.out hb
        have S2_259 : Hid (Knr.RIs w252 sv2 (Tfn.pSetV key col (vb, vn) (Rws.plain rs))) := Knr.rIs_below S2_249.out hb
        have K_260 : Hid (Knr.RIs w252 kv kxs) := Knr.rIs_below K_250.out hb
        have K1_261 : Hid (Kep.IIs w252 k1 (Tfn.pKeysV kxs)) := Kep.iIs_below K1_251.out hb
        have K2_262 : Hid (Kep.IIs w252 k2 (Tfn.pKeysV kxs)) := hk
        clear hb B_243 U_244 US_245 VB_246 SS_247 S1_248 S2_249 K_250 K1_251 hk
        have e3 : (o != o) = false := by simp
        have e4 : (g2 != g2) = false := by simp
        go_wp2_with fail
        refine (Rwl.same_table _ _ _ _ _ S1_258.out S2_259.out rfl).mono ?_
        rintro e w263 ⟨rfl, hb⟩
        have B_264 : Hid (Below w.heap.size w w263) := Frame.next B_253.out hb B_253.out.size
        have U_265 : Hid (Knr.RIs w263 (.slice ua un uc) (Rws.plain rs)) := Knr.rIs_below U_254.out hb
        have US_266 : Hid (Rws.IsRows w263 ua un uc rs) := Rws.IsRows.below US_255.out hb
        have VB_267 : Hid (Put2.VBox w263 (w210.heap.size) vb vn) := Put2.VBox.below VB_256.out hb
        have SS_268 : Hid (Rws.IsRows w263 sa sn sc qs) := Rws.IsRows.below SS_257.out hb
        have S1_269 : Hid (Knr.RIs w263 (.slice sa sn sc) (Tfn.pSetV key col (vb, vn) (Rws.plain rs))) := Knr.rIs_below S1_258.out hb
        have S2_270 : Hid (Knr.RIs w263 sv2 (Tfn.pSetV key col (vb, vn) (Rws.plain rs))) := Knr.rIs_below S2_259.out hb
        have K_271 : Hid (Knr.RIs w263 kv kxs) := Knr.rIs_below K_260.out hb
        have K1_272 : Hid (Kep.IIs w263 k1 (Tfn.pKeysV kxs)) := Kep.iIs_below K1_261.out hb
        have K2_273 : Hid (Kep.IIs w263 k2 (Tfn.pKeysV kxs)) := Kep.iIs_below K2_262.out hb
        clear hb B_253 U_254 US_255 VB_256 SS_257 S1_258 S2_259 K_260 K1_261 K2_262
        go_wp2_with fail
        refine (Put2.same_ints _ _ _ _ K1_272.out K2_273.out).mono ?_
        rintro e w274 ⟨rfl, hb⟩
        have B_275 : Hid (Below w.heap.size w w274) := Frame.next B_264.out hb B_264.out.size
        have U_276 : Hid (Knr.RIs w274 (.slice ua un uc) (Rws.plain rs)) := Knr.rIs_below U_265.out hb
        have US_277 : Hid (Rws.IsRows w274 ua un uc rs) := Rws.IsRows.below US_266.out hb
        have VB_278 : Hid (Put2.VBox w274 (w210.heap.size) vb vn) := Put2.VBox.below VB_267.out hb
        have SS_279 : Hid (Rws.IsRows w274 sa sn sc qs) := Rws.IsRows.below SS_268.out hb
        have S1_280 : Hid (Knr.RIs w274 (.slice sa sn sc) (Tfn.pSetV key col (vb, vn) (Rws.plain rs))) := Knr.rIs_below S1_269.out hb
        have S2_281 : Hid (Knr.RIs w274 sv2 (Tfn.pSetV key col (vb, vn) (Rws.plain rs))) := Knr.rIs_below S2_270.out hb
        have K_282 : Hid (Knr.RIs w274 kv kxs) := Knr.rIs_below K_271.out hb
        have K1_283 : Hid (Kep.IIs w274 k1 (Tfn.pKeysV kxs)) := Kep.iIs_below K1_272.out hb
        have K2_284 : Hid (Kep.IIs w274 k2 (Tfn.pKeysV kxs)) := Kep.iIs_below K2_273.out hb
        clear hb B_264 U_265 US_266 VB_267 SS_268 S1_269 S2_270 K_271 K1_272 K2_273
        cases o
        · clear e3
          go_wp2
          go_ret
          exact ⟨rfl, B_275.out⟩
        · clear e3 e4
          have SA : Hid (qs.length = rs.length ∧ 0 ≤ col ∧ col ≤ 2 ∧ ∀ i, i < rs.length → (qs.getD i Rws.rd).key = (rs.getD i Rws.rd).key ∧ (qs.getD i Rws.rd).vs = (if (rs.getD i Rws.rd).key = key then (rs.getD i Rws.rd).vs.set col.toNat (vb, vn) else (rs.getD i Rws.rd).vs)) := Put2.set_at HO.out QE.out
          go_wp2
          go_loopw [173] (fun i wr => ∃ j : Nat, j ≤ sn ∧ i = .int .i64 j ∧ Below w274.heap.size w274 wr) (fun i _ => sn - (intOf i).toNat)
          case atStart => exact ⟨0, Nat.zero_le _, rfl, Below.refl _ _⟩
          case round =>
            rename World => wo
            obtain ⟨j, hj, rfl, hbr⟩ := hrel
            have HW : Hid (Below w274.heap.size w274 wo) := hbr
            clear hbr
            have B_285 : Hid (Below w.heap.size w wo) := Frame.next B_275.out HW.out B_275.out.size
            have US_286 : Hid (Rws.IsRows wo ua un uc rs) := Rws.IsRows.below US_277.out HW.out
            have VB_287 : Hid (Put2.VBox wo (w210.heap.size) vb vn) := Put2.VBox.below VB_278.out HW.out
            have SS_288 : Hid (Rws.IsRows wo sa sn sc qs) := Rws.IsRows.below SS_279.out HW.out
            have C_289 : Hid (Below w274.heap.size w274 wo) := HW.out
            clear HW
            by_cases hlt : j < sn
            · have hS := SS_288.out
              have hU := US_286.out
              have hlen := hS.len
              have hlenu := hU.len
              have HUN : Hid (sn = un) := by show _ = _; have := SA.out.1; omega
              obtain ⟨b1, o1, rfl, hb1, hc1⟩ := hS.cells (by omega)
              obtain ⟨b2, o2, rfl, hb2, hc2⟩ := hU.cells (by have := HUN.out; omega)
              have kx : j < qs.length := by rw [hlen]; exact hlt
              have ky : j < rs.length := by rw [← SA.out.1]; exact kx
              have p0 : wo.cell? ⟨b1, o1 + j * 2, none⟩ = some (.int .i64 (qs.getD j Rws.rd).key) := (hc1 j hlt).1
              have p1 : wo.cell? ⟨b1, o1 + j * 2 + 1, none⟩ = some (.slice (qs.getD j Rws.rd).a (qs.getD j Rws.rd).n (qs.getD j Rws.rd).c) := (hc1 j hlt).2
              have P2 : Hid (wo.cell? ⟨b2, o2 + j * 2 + 1, none⟩ = some (.slice (rs.getD j Rws.rd).a (rs.getD j Rws.rd).n (rs.getD j Rws.rd).c)) := (hc2 j (by have := HUN.out; omega)).2
              have vx := (hS.rows _ (Rws.getD_mem_rd kx)).2
              have vy := (hU.rows _ (Rws.getD_mem_rd ky)).2
              have nx := HSN.out _ (Rws.getD_mem_rd kx)
              have SC := SA.out.2.2.2 j ky
              generalize qs.getD j Rws.rd = x at p0 p1 vx nx SC
              generalize rs.getD j Rws.rd = y at P2 vy SC
              obtain ⟨xk, xa, xn, xc, xv⟩ := x
              obtain ⟨yk, ya, yn, yc, yv⟩ := y
              simp only at p0 p1 vx vy nx SC
              obtain ⟨rfl, hxv⟩ := SC
              have SE := Put2.set_cells (key := key) (col := col) SA.out.2.1 hxv
              have lx := vx.len
              have ly := vy.len
              have HXY : Hid (xn = yn) := by show _ = _; have := SE.1; omega
              have HE : Hid (∀ c : Nat, c < xn → (xk = key → (c : Int) = col → xv.getD c Vals.vd = (vb, vn)) ∧ (¬ (xk = key ∧ (c : Int) = col) → xv.getD c Vals.vd = yv.getD c Vals.vd)) := fun c hc => SE.2 c (by omega)
              have VX : Hid (Vals.IsVals wo xa xn xc xv) := vx
              have VY : Hid (Vals.IsVals wo ya yn yc yv) := vy
              have hjI : (j : Int) < (sn : Int) := by omega
              have hjU : (j : Int) < (un : Int) := by have := HUN.out; omega
              have hj0 : (0 : Int) ≤ (j : Int) := by omega
              clear hS hU hlen hlenu hc1 hc2 vx vy kx ky SE lx ly hxv
              have B_290 : Hid (Below w.heap.size w (wo.alloc (.cells #[.int .i64 xk, .slice xa xn xc] 26))) := Frame.next B_285.out (Draw1.below_alloc wo (.cells #[.int .i64 xk, .slice xa xn xc] 26)) B_285.out.size
              have VB_291 : Hid (Put2.VBox (wo.alloc (.cells #[.int .i64 xk, .slice xa xn xc] 26)) (w210.heap.size) vb vn) := Put2.VBox.below VB_287.out (Draw1.below_alloc wo (.cells #[.int .i64 xk, .slice xa xn xc] 26))
              have C_292 : Hid (Below w274.heap.size w274 (wo.alloc (.cells #[.int .i64 xk, .slice xa xn xc] 26))) := Frame.next C_289.out (Draw1.below_alloc wo (.cells #[.int .i64 xk, .slice xa xn xc] 26)) C_289.out.size
              have XB_293 : Hid (Rwl.Box (wo.alloc (.cells #[.int .i64 xk, .slice xa xn xc] 26)) (wo.heap.size) xk xa xn xc) := Rwl.Box.new wo xk xa xn xc 26
              clear B_285 VB_287 C_289
              have BX : Hid (Below wo.heap.size wo (wo.alloc (.cells #[.int .i64 xk, .slice xa xn xc] 26))) := Draw1.below_alloc _ _
              have hbw : b2 < wo.heap.size := hb2
              have YC : Hid ((wo.alloc (.cells #[.int .i64 xk, .slice xa xn xc] 26)).cell? ⟨b2, o2 + j * 2 + 1, none⟩ = some (.slice ya yn yc)) := (BX.out.cell (p := ⟨b2, o2 + j * 2 + 1, none⟩) hb2).trans P2.out
              have XV : Hid (Vals.IsVals (wo.alloc (.cells #[.int .i64 xk, .slice xa xn xc] 26)) xa xn xc xv) := Vals.IsVals.below VX.out BX.out
              have YV : Hid (Vals.IsVals (wo.alloc (.cells #[.int .i64 xk, .slice xa xn xc] 26)) ya yn yc yv) := Vals.IsVals.below VY.out BX.out
              have HBW : Hid ((wo.alloc (.cells #[.int .i64 xk, .slice xa xn xc] 26)).heap.size = wo.heap.size + 1) := by show _ = _; simp
              go_wp2
              go_loopw [181] (fun i wr => ∃ c : Nat, c ≤ xn ∧ i = .int .i64 c ∧ Below (wo.alloc (.cells #[.int .i64 xk, .slice xa xn xc] 26)).heap.size (wo.alloc (.cells #[.int .i64 xk, .slice xa xn xc] 26)) wr) (fun i _ => xn - (intOf i).toNat)
              case atStart => exact ⟨0, Nat.zero_le _, rfl, Below.refl _ _⟩
              case round =>
                obtain ⟨c, hc, rfl, hbq⟩ := hrel
                have HQ : Hid (Below (wo.alloc (.cells #[.int .i64 xk, .slice xa xn xc] 26)).heap.size (wo.alloc (.cells #[.int .i64 xk, .slice xa xn xc] 26)) wr) := hbq
                clear hbq p0 p1
                have B_294 : Hid (Below w.heap.size w wr) := Frame.next B_290.out HQ.out B_290.out.size
                have VB_295 : Hid (Put2.VBox wr (w210.heap.size) vb vn) := Put2.VBox.below VB_291.out HQ.out
                have C_296 : Hid (Below w274.heap.size w274 wr) := Frame.next C_292.out HQ.out C_292.out.size
                have XB_297 : Hid (Rwl.Box wr (wo.heap.size) xk xa xn xc) := Rwl.Box.below XB_293.out HQ.out
                by_cases hcl : c < xn
                · have yc0 : wr.cell? ⟨b2, o2 + j * 2 + 1, none⟩ = some (.slice ya yn yc) := (HQ.out.cell (p := ⟨b2, o2 + j * 2 + 1, none⟩) (by rw [HBW.out]; show b2 < _; omega)).trans YC.out
                  obtain ⟨g1, f1, rfl, hg1, hd1⟩ := (Vals.IsVals.below XV.out HQ.out).cells (by omega)
                  obtain ⟨g3, f3, rfl, hg3, hd3⟩ := (Vals.IsVals.below YV.out HQ.out).cells (by have := HXY.out; omega)
                  have x0 := (hd1 c hcl).1
                  have x1 := (hd1 c hcl).2
                  have y0 := (hd3 c (by have := HXY.out; omega)).1
                  have y1 := (hd3 c (by have := HXY.out; omega)).2
                  have HEC := HE.out c hcl
                  generalize xv.getD c Vals.vd = xx at x0 x1 HEC
                  generalize yv.getD c Vals.vd = yy at y0 y1 HEC
                  obtain ⟨xb, xi⟩ := xx
                  obtain ⟨yb, yi⟩ := yy
                  simp only at x0 x1 y0 y1
                  obtain ⟨bk0, bk1⟩ := XB_297.out
                  obtain ⟨vk0, vk1⟩ := VB_295.out
                  have hcI : (c : Int) < (xn : Int) := by omega
                  have hcJ : (c : Int) < (yn : Int) := by have := HXY.out; omega
                  have hc0 : (0 : Int) ≤ (c : Int) := by omega
                  have hgd : Try.prog.eqGuardType Try.prog.depth 45 = false := by kernel_rfl
                  clear hd1 hd3
                  by_cases hkk : xk = key
                  · have ek : (xk == key) = true := by simp [hkk]
                    by_cases hcc : (c : Int) = col
                    · have ec : ((c : Int) == col) = true := by simp [hcc]
                      have hv := HEC.1 hkk hcc
                      simp only [Prod.mk.injEq] at hv
                      obtain ⟨rfl, rfl⟩ := hv
                      have hq : ∀ w2 : World, (binOp .neq 45 (.agg #[.bool xb, .int .i64 xi]) (.agg #[.bool xb, .int .i64 xi])).run Try.prog w2 = .ok (.bool false) w2 := fun w2 => by rw [Smt.neq_value]; simp
                      clear HEC hkk hcc
                      go_wp2_with fail
                      go_quiet (fail)
                      go_wp2
                      go_roundw
                      case rel => exact ⟨c + 1, by omega, by go_num, below_drewN HQ.out _⟩
                      case measure => simp [intOf]; omega
                    · have ec : ((c : Int) == col) = false := by simp [hcc]
                      have hv := HEC.2 (fun h => hcc h.2)
                      simp only [Prod.mk.injEq] at hv
                      obtain ⟨rfl, rfl⟩ := hv
                      have hq : ∀ w2 : World, (binOp .neq 45 (.agg #[.bool xb, .int .i64 xi]) (.agg #[.bool xb, .int .i64 xi])).run Try.prog w2 = .ok (.bool false) w2 := fun w2 => by rw [Smt.neq_value]; simp
                      clear HEC hkk hcc
                      go_wp2_with fail
                      go_quiet (fail)
                      go_wp2
                      go_roundw
                      case rel => exact ⟨c + 1, by omega, by go_num, below_drewN HQ.out _⟩
                      case measure => simp [intOf]; omega
                  · have ek : (xk == key) = false := by simp [hkk]
                    have hv := HEC.2 (fun h => hkk h.1)
                    simp only [Prod.mk.injEq] at hv
                    obtain ⟨rfl, rfl⟩ := hv
                    have hq : ∀ w2 : World, (binOp .neq 45 (.agg #[.bool xb, .int .i64 xi]) (.agg #[.bool xb, .int .i64 xi])).run Try.prog w2 = .ok (.bool false) w2 := fun w2 => by rw [Smt.neq_value]; simp
                    clear HEC hkk
                    go_wp2_with fail
                    go_quiet (fail)
                    go_wp2
                    go_roundw
                    case rel => exact ⟨c + 1, by omega, by go_num, below_drewN HQ.out _⟩
                    case measure => simp [intOf]; omega
                · have hcn : ¬ (c : Int) < (xn : Int) := by omega
                  go_wp2
                  go_roundw
                  case rel => exact ⟨j + 1, by omega, by go_num, C_296.out⟩
                  case measure => simp [intOf]; omega
            · have hjn : ¬ (j : Int) < (sn : Int) := by omega
              go_wp2
              go_ret
              exact ⟨rfl, B_285.out⟩

set_option maxRecDepth 100000 in
theorem contract (H : Type) (enc : TypeId × Value → H) (W : World) (base : Nat) (args : Array Value) (ds gs : List (DataW H)) (before : List MemPlace)
    (hval0 : ∀ (j : Nat) t v, Try.f4.params[j]? = some t → args[j]? = some v → Value.okWide Try.prog W .any base t v)
    (hW : DataW.Whole enc Try.prog Try.f4.params.toList Rows.fnRangesSpec.vars false W args.toList ds gs before) :
    Calls Try.prog 4 args W fun e W' => ∃ v, e = .returned v ∧ Rows.fnRangesSpec.post enc Try.prog Try.f4 false true false false W args v W' := by
  refine Frame.law_calls (tb := 4) laidOut (by kernel_rfl) (by kernel_rfl) (by kernel_rfl) Try.underlying4 hW (fun ds gs h1 h2 => ?_) ?_
  · rw [Try.params4] at h1
    match ds, gs, h1, h2 with
    | [_, _], [], _, _ => rfl
  · obtain ⟨p, q, hA0, _, _, _, _⟩ := hW
    have hval : ∀ (j : Nat) t v, Try.f4.params[j]? = some t → args[j]? = some v → Value.okWide Try.prog W .any base t v := hval0
    have hA : DataW.TrodAll enc Try.prog W 0 (fun _ => true) true Try.f4.params.toList args.toList ds p := hA0
    rw [Try.params4] at hA hval
    obtain ⟨v0, vs0, d0, ds0, p0, q0, hargs, rfl, rfl, h0, r0⟩ := trodAll_cons hA
    obtain ⟨v1, vs1, d1, ds1, p1, q1, rfl, rfl, rfl, h1, r1⟩ := trodAll_cons r0
    obtain ⟨rfl, rfl, rfl⟩ := trodAll_nil r1
    obtain rfl : args = #[v0, v1] := by cases args; simp_all
    obtain ⟨a0, len0, cap0, rfl⟩ := okWide_slice Try.underlying22 (hval 0 22 v0 rfl rfl)
    obtain ⟨z0, w0⟩ := Frame.isRow_of Try.underlying22 Try.underlying5 (by kernel_rfl) h0
    obtain ⟨a1, len1, cap1, rfl⟩ := okWide_slice Try.underlying22 (hval 1 22 v1 rfl rfl)
    obtain ⟨z1, w1⟩ := Frame.isRow_of Try.underlying22 Try.underlying5 (by kernel_rfl) h1
    exact walk a0 len0 cap0 z0 a1 len1 cap1 z1 W w0 w1

set_option maxRecDepth 100000 in
theorem lifted (os : Os) (started : os.Started) (H : Type) (enc : TypeId × Value → H) :
    ReturnsInHanded {} Try.checked os 4 .any (Rows.fnRangesSpec.pre6 enc Try.prog Try.f4 Rows.fnRangesRow.domain false) (Rows.fnRangesSpec.post enc Try.prog Try.f4 false true false false) := by
  refine returnsInHanded_of_change (C := Try.checked) own started (by kernel_rfl) Try.func4
    (ChangeSpec.witness6 (enc := enc) (C := Try.checked) false ⟨#[], #[.slice none 0 0, .slice none 0 0], []⟩ 8 (by kernel_rfl) (by kernel_rfl) (by kernel_rfl) (by kernel_rfl)) ?_
  intro W base args ds gs before hval hW _ _
  exact contract H enc W base args ds gs before hval hW

/-- The statement. -/
theorem proved : Rows.FnRangesSaid :=
  OpenClaim.holds_of_wide 4 Try.f4 rfl rfl rfl rfl rfl rfl rfl ⟨rfl, rfl, rfl, rfl, rfl⟩ rfl rfl rfl rfl rfl (by kernel_rfl) Try.func4 (by kernel_rfl)
    (of_decide_eq_true (by kernel_rfl)) (by unfold Func.isWrapper; first | (rw [if_pos (by decide +kernel)]; kernel_rfl) | (rw [if_neg (by decide +kernel)]; exact ⟨rfl, rfl⟩))
    (fun os started H enc _ => lifted os started H enc)
#print axioms proved

end Go.Proofs.Ytciaegdgoabipaa.fnRanges
