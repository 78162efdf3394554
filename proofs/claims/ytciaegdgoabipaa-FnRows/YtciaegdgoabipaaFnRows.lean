/-
  Proved: at every two slices of bytes the law FnRows returns true, and its arguments read afterwards as they did.
-/
import Derived.Test.YtciaegdgoabipaaFrame
import Derived.Test.YtciaegdgoabipaaRwl
import Derived.Test.YtciaegdgoabipaaDr2c
namespace Go.Proofs.Ytciaegdgoabipaa.fnRows
open Go.ChangeShapes Go.WideShapes Go.ChangeAt Go.RowKit

theorem own : ownKnob Try.prog.godebug = none := by kernel_rfl
theorem laidOut : laidOutB Try.prog = true := by kernel_rfl

set_option maxRecDepth 100000 in
set_option maxHeartbeats 8000000 in
theorem walk (a : Option Addr) (n cap : Nat) (zs : List Int) (b : Option Addr) (m capb : Nat) (ys : List Int) (w : World) (hc : Frame.IsRow .u8 w a n cap zs) (hd : Frame.IsRow .u8 w b m capb ys) :
    Calls Try.prog 3 #[.slice a n cap, .slice b m capb] w fun e w' => e = .returned (.bool true) ∧ Below w.heap.size w w' := by
  have HC : Hid (Frame.IsRow .u8 w a n cap zs) := hc
  have HD : Hid (Frame.IsRow .u8 w b m capb ys) := hd
  clear hc hd
  have B0 : Hid (Below w.heap.size w w) := Below.refl _ _
  by_cases hbig : (1048576 : Int) < wrap64 ((n : Int) + (m : Int))
  · go_enter Try.func3, Try.ntmps3
    go_wp2
    go_ret
    exact ⟨rfl, Below.refl _ _⟩
  · go_enter Try.func3, Try.ntmps3
    go_wp2_with fail
    refine (Dr2c.draw_PutRow _ _ _ _ _ HC.out).mono ?_
    rintro e w1 ⟨lv, lxs, k, ra, rn, rc, vs, rfl, hr, hk, hv, hn, hb⟩
    have B_2 : Hid (Below w.heap.size w w1) := Frame.next B0.out hb B0.out.size
    obtain ⟨la, ln, lc, rs, rfl, hrs, rfl, htot⟩ := hr
    have L_3 : Hid (Knr.RIs w1 (.slice la ln lc) (Rws.plain rs)) := ⟨la, ln, lc, rs, rfl, hrs, rfl, htot⟩
    have S_4 : Hid (Rws.IsRows w1 la ln lc rs) := hrs
    have R_5 : Hid (Knr.WIs w1 ra rn rc (k, vs)) := ⟨hv, by omega⟩
    have HS : Hid (∀ r ∈ rs, r.n ≤ 1048576) := (Knr.small_rows htot).2
    have HK : Hid ((Lit.int .i64 k).wf = true) := hk
    have hln : ln ≤ 1048576 := by rw [← hrs.len]; exact (Knr.small_rows htot).1
    clear hb B0 hrs hv hk hn htot
    have B_6 : Hid (Below w.heap.size w (w1.alloc (.cells #[.int .i64 k, .slice ra rn rc] 26))) := Frame.next B_2.out (Draw1.below_alloc w1 (.cells #[.int .i64 k, .slice ra rn rc] 26)) B_2.out.size
    have L_7 : Hid (Knr.RIs (w1.alloc (.cells #[.int .i64 k, .slice ra rn rc] 26)) (.slice la ln lc) (Rws.plain rs)) := Knr.rIs_below L_3.out (Draw1.below_alloc w1 (.cells #[.int .i64 k, .slice ra rn rc] 26))
    have S_8 : Hid (Rws.IsRows (w1.alloc (.cells #[.int .i64 k, .slice ra rn rc] 26)) la ln lc rs) := Rws.IsRows.below S_4.out (Draw1.below_alloc w1 (.cells #[.int .i64 k, .slice ra rn rc] 26))
    have R_9 : Hid (Knr.WIs (w1.alloc (.cells #[.int .i64 k, .slice ra rn rc] 26)) ra rn rc (k, vs)) := Knr.wIs_below R_5.out (Draw1.below_alloc w1 (.cells #[.int .i64 k, .slice ra rn rc] 26))
    have RB_10 : Hid (Rwl.Box (w1.alloc (.cells #[.int .i64 k, .slice ra rn rc] 26)) (w1.heap.size) k ra rn rc) := Rwl.Box.new w1 k ra rn rc 26
    clear B_2 L_3 S_4 R_5
    obtain ⟨q, hq⟩ : ∃ q, Tfn.pPutB (k, vs) (Rws.plain rs) = q := ⟨_, rfl⟩
    have HB : Hid (Tfn.pPutB (k, vs) (Rws.plain rs) = q) := hq
    clear hq
    obtain ⟨gd, hgd⟩ : ∃ q, Tfn.pGood (Rws.plain rs) = q := ⟨_, rfl⟩
    have HGD : Hid (Tfn.pGood (Rws.plain rs) = gd) := hgd
    clear hgd
    obtain ⟨bx00, bx01⟩ := RB_10.out
    go_wp2_with fail
    refine (Rwl.impl_Put _ _ k vs ra rn rc q _ L_7.out HK.out R_9.out HB.out).mono ?_
    rintro e w11 ⟨pv, rfl, hp, hb⟩
    have B_12 : Hid (Below w.heap.size w w11) := Frame.next B_6.out hb B_6.out.size
    have L_13 : Hid (Knr.RIs w11 (.slice la ln lc) (Rws.plain rs)) := Knr.rIs_below L_7.out hb
    have S_14 : Hid (Rws.IsRows w11 la ln lc rs) := Rws.IsRows.below S_8.out hb
    have R_15 : Hid (Knr.WIs w11 ra rn rc (k, vs)) := Knr.wIs_below R_9.out hb
    have RB_16 : Hid (Rwl.Box w11 (w1.heap.size) k ra rn rc) := Rwl.Box.below RB_10.out hb
    have P_17 : Hid (Knr.RIs w11 pv (Tfn.pPutV (k, vs) (Rws.plain rs))) := hp
    clear hb B_6 L_7 S_8 R_9 RB_10 hp bx00 bx01
    obtain ⟨bx00, bx01⟩ := RB_16.out
    go_wp2_with fail
    refine (Rwl.spec_Put _ _ k vs ra rn rc q _ L_13.out HK.out R_15.out HB.out).mono ?_
    rintro e w18 ⟨pw, rfl, hp, hb⟩
    have B_19 : Hid (Below w.heap.size w w18) := Frame.next B_12.out hb B_12.out.size
    have L_20 : Hid (Knr.RIs w18 (.slice la ln lc) (Rws.plain rs)) := Knr.rIs_below L_13.out hb
    have S_21 : Hid (Rws.IsRows w18 la ln lc rs) := Rws.IsRows.below S_14.out hb
    have R_22 : Hid (Knr.WIs w18 ra rn rc (k, vs)) := Knr.wIs_below R_15.out hb
    have RB_23 : Hid (Rwl.Box w18 (w1.heap.size) k ra rn rc) := Rwl.Box.below RB_16.out hb
    have P_24 : Hid (Knr.RIs w18 pv (Tfn.pPutV (k, vs) (Rws.plain rs))) := Knr.rIs_below P_17.out hb
    have Q_25 : Hid (Knr.RIs w18 pw (Tfn.pPutV (k, vs) (Rws.plain rs))) := hp
    clear hb B_12 L_13 S_14 R_15 RB_16 P_17 hp bx00 bx01
    have e0 : (q != q) = false := by simp
    have e2 : (gd != gd) = false := by simp
    go_wp2_with fail
    refine (Rwl.same_table _ _ _ _ _ P_24.out Q_25.out rfl).mono ?_
    rintro e w26 ⟨rfl, hb⟩
    have B_27 : Hid (Below w.heap.size w w26) := Frame.next B_19.out hb B_19.out.size
    have L_28 : Hid (Knr.RIs w26 (.slice la ln lc) (Rws.plain rs)) := Knr.rIs_below L_20.out hb
    have S_29 : Hid (Rws.IsRows w26 la ln lc rs) := Rws.IsRows.below S_21.out hb
    have R_30 : Hid (Knr.WIs w26 ra rn rc (k, vs)) := Knr.wIs_below R_22.out hb
    have RB_31 : Hid (Rwl.Box w26 (w1.heap.size) k ra rn rc) := Rwl.Box.below RB_23.out hb
    have P_32 : Hid (Knr.RIs w26 pv (Tfn.pPutV (k, vs) (Rws.plain rs))) := Knr.rIs_below P_24.out hb
    have Q_33 : Hid (Knr.RIs w26 pw (Tfn.pPutV (k, vs) (Rws.plain rs))) := Knr.rIs_below Q_25.out hb
    clear hb B_19 L_20 S_21 R_22 RB_23 P_24 Q_25
    go_wp2_with fail
    refine (Rwl.impl_Good _ _ gd _ L_28.out HGD.out).mono ?_
    rintro e w34 ⟨rfl, hb⟩
    have B_35 : Hid (Below w.heap.size w w34) := Frame.next B_27.out hb B_27.out.size
    have L_36 : Hid (Knr.RIs w34 (.slice la ln lc) (Rws.plain rs)) := Knr.rIs_below L_28.out hb
    have S_37 : Hid (Rws.IsRows w34 la ln lc rs) := Rws.IsRows.below S_29.out hb
    have R_38 : Hid (Knr.WIs w34 ra rn rc (k, vs)) := Knr.wIs_below R_30.out hb
    have RB_39 : Hid (Rwl.Box w34 (w1.heap.size) k ra rn rc) := Rwl.Box.below RB_31.out hb
    have P_40 : Hid (Knr.RIs w34 pv (Tfn.pPutV (k, vs) (Rws.plain rs))) := Knr.rIs_below P_32.out hb
    have Q_41 : Hid (Knr.RIs w34 pw (Tfn.pPutV (k, vs) (Rws.plain rs))) := Knr.rIs_below Q_33.out hb
    clear hb B_27 L_28 S_29 R_30 RB_31 P_32 Q_33
    go_wp2_with fail
    refine (Rwl.spec_Good _ _ gd _ L_36.out HGD.out).mono ?_
    rintro e w42 ⟨rfl, hb⟩
    have B_43 : Hid (Below w.heap.size w w42) := Frame.next B_35.out hb B_35.out.size
    have L_44 : Hid (Knr.RIs w42 (.slice la ln lc) (Rws.plain rs)) := Knr.rIs_below L_36.out hb
    have S_45 : Hid (Rws.IsRows w42 la ln lc rs) := Rws.IsRows.below S_37.out hb
    have R_46 : Hid (Knr.WIs w42 ra rn rc (k, vs)) := Knr.wIs_below R_38.out hb
    have RB_47 : Hid (Rwl.Box w42 (w1.heap.size) k ra rn rc) := Rwl.Box.below RB_39.out hb
    have P_48 : Hid (Knr.RIs w42 pv (Tfn.pPutV (k, vs) (Rws.plain rs))) := Knr.rIs_below P_40.out hb
    have Q_49 : Hid (Knr.RIs w42 pw (Tfn.pPutV (k, vs) (Rws.plain rs))) := Knr.rIs_below Q_41.out hb
    clear hb B_35 L_36 S_37 R_38 RB_39 P_40 Q_41
    cases q
    · clear e0
      go_wp2_with fail
      refine (Dr2c.draw_DropRow _ _ _ _ _ (Mem.IsRow.below HD.out B_43.out)).mono ?_
      rintro e w50 ⟨u, us, key, rfl, hu, hkey, hb⟩
      have B_51 : Hid (Below w.heap.size w w50) := Frame.next B_43.out hb B_43.out.size
      have U_52 : Hid (Knr.RIs w50 u us) := hu
      have KW : Hid ((Lit.int .i64 key).wf = true) := hkey
      clear hb B_43 hu hkey
      obtain ⟨g, hg⟩ : ∃ g, Tfn.pRowB key us = g := ⟨_, rfl⟩
      obtain ⟨⟨fk, fv⟩, hf⟩ : ∃ x, Tfn.pRowV key us = x := ⟨_, rfl⟩
      have HG : Hid (Tfn.pRowB key us = g) := hg
      have HF : Hid (Tfn.pRowV key us = (fk, fv)) := hf
      clear hg hf
      have e1 : (g == g) = true := by simp
      go_wp2_with fail
      refine (Rwl.impl_Drop u us key g _ U_52.out KW.out HG.out).mono ?_
      rintro e w53 ⟨d1, rfl, hd1, hb⟩
      have B_54 : Hid (Below w.heap.size w w53) := Frame.next B_51.out hb B_51.out.size
      have U_55 : Hid (Knr.RIs w53 u us) := Knr.rIs_below U_52.out hb
      have D1_56 : Hid (Knr.RIs w53 d1 (Tfn.pDropV key us)) := hd1
      clear hb B_51 U_52 hd1
      go_wp2_with fail
      refine (Rwl.spec_Drop u us key g _ U_55.out KW.out HG.out).mono ?_
      rintro e w57 ⟨d2, rfl, hd2, hb⟩
      have B_58 : Hid (Below w.heap.size w w57) := Frame.next B_54.out hb B_54.out.size
      have U_59 : Hid (Knr.RIs w57 u us) := Knr.rIs_below U_55.out hb
      have D1_60 : Hid (Knr.RIs w57 d1 (Tfn.pDropV key us)) := Knr.rIs_below D1_56.out hb
      have D2_61 : Hid (Knr.RIs w57 d2 (Tfn.pDropV key us)) := hd2
      clear hb B_54 U_55 D1_56 hd2
      go_wp2_with fail
      refine (Rwl.impl_Find u us key fk fv g _ U_59.out KW.out HF.out HG.out).mono ?_
      rintro e w62 ⟨ya, yn, yc, rfl, hy, hb⟩
      have B_63 : Hid (Below w.heap.size w w62) := Frame.next B_58.out hb B_58.out.size
      have U_64 : Hid (Knr.RIs w62 u us) := Knr.rIs_below U_59.out hb
      have D1_65 : Hid (Knr.RIs w62 d1 (Tfn.pDropV key us)) := Knr.rIs_below D1_60.out hb
      have D2_66 : Hid (Knr.RIs w62 d2 (Tfn.pDropV key us)) := Knr.rIs_below D2_61.out hb
      have Y_67 : Hid (Knr.WIs w62 ya yn yc (fk, fv)) := hy
      clear hb B_58 U_59 D1_60 D2_61 hy
      have B_68 : Hid (Below w.heap.size w (w62.alloc (.cells #[.int .i64 fk, .slice ya yn yc] 26))) := Frame.next B_63.out (Draw1.below_alloc w62 (.cells #[.int .i64 fk, .slice ya yn yc] 26)) B_63.out.size
      have U_69 : Hid (Knr.RIs (w62.alloc (.cells #[.int .i64 fk, .slice ya yn yc] 26)) u us) := Knr.rIs_below U_64.out (Draw1.below_alloc w62 (.cells #[.int .i64 fk, .slice ya yn yc] 26))
      have D1_70 : Hid (Knr.RIs (w62.alloc (.cells #[.int .i64 fk, .slice ya yn yc] 26)) d1 (Tfn.pDropV key us)) := Knr.rIs_below D1_65.out (Draw1.below_alloc w62 (.cells #[.int .i64 fk, .slice ya yn yc] 26))
      have D2_71 : Hid (Knr.RIs (w62.alloc (.cells #[.int .i64 fk, .slice ya yn yc] 26)) d2 (Tfn.pDropV key us)) := Knr.rIs_below D2_66.out (Draw1.below_alloc w62 (.cells #[.int .i64 fk, .slice ya yn yc] 26))
      have Y_72 : Hid (Knr.WIs (w62.alloc (.cells #[.int .i64 fk, .slice ya yn yc] 26)) ya yn yc (fk, fv)) := Knr.wIs_below Y_67.out (Draw1.below_alloc w62 (.cells #[.int .i64 fk, .slice ya yn yc] 26))
      have YB_73 : Hid (Rwl.Box (w62.alloc (.cells #[.int .i64 fk, .slice ya yn yc] 26)) (w62.heap.size) fk ya yn yc) := Rwl.Box.new w62 fk ya yn yc 26
      clear B_63 U_64 D1_65 D2_66 Y_67
      go_wp2_with fail
      refine (Rwl.spec_Find u us key fk fv g _ U_69.out KW.out HF.out HG.out).mono ?_
      rintro e w74 ⟨za, zn, zc, rfl, hz, hb⟩
      have B_75 : Hid (Below w.heap.size w w74) := Frame.next B_68.out hb B_68.out.size
      have U_76 : Hid (Knr.RIs w74 u us) := Knr.rIs_below U_69.out hb
      have D1_77 : Hid (Knr.RIs w74 d1 (Tfn.pDropV key us)) := Knr.rIs_below D1_70.out hb
      have D2_78 : Hid (Knr.RIs w74 d2 (Tfn.pDropV key us)) := Knr.rIs_below D2_71.out hb
      have Y_79 : Hid (Knr.WIs w74 ya yn yc (fk, fv)) := Knr.wIs_below Y_72.out hb
      have YB_80 : Hid (Rwl.Box w74 (w62.heap.size) fk ya yn yc) := Rwl.Box.below YB_73.out hb
      have Z_81 : Hid (Knr.WIs w74 za zn zc (fk, fv)) := hz
      clear hb B_68 U_69 D1_70 D2_71 Y_72 YB_73 hz
      have B_82 : Hid (Below w.heap.size w (w74.alloc (.cells #[.int .i64 fk, .slice za zn zc] 26))) := Frame.next B_75.out (Draw1.below_alloc w74 (.cells #[.int .i64 fk, .slice za zn zc] 26)) B_75.out.size
      have U_83 : Hid (Knr.RIs (w74.alloc (.cells #[.int .i64 fk, .slice za zn zc] 26)) u us) := Knr.rIs_below U_76.out (Draw1.below_alloc w74 (.cells #[.int .i64 fk, .slice za zn zc] 26))
      have D1_84 : Hid (Knr.RIs (w74.alloc (.cells #[.int .i64 fk, .slice za zn zc] 26)) d1 (Tfn.pDropV key us)) := Knr.rIs_below D1_77.out (Draw1.below_alloc w74 (.cells #[.int .i64 fk, .slice za zn zc] 26))
      have D2_85 : Hid (Knr.RIs (w74.alloc (.cells #[.int .i64 fk, .slice za zn zc] 26)) d2 (Tfn.pDropV key us)) := Knr.rIs_below D2_78.out (Draw1.below_alloc w74 (.cells #[.int .i64 fk, .slice za zn zc] 26))
      have Y_86 : Hid (Knr.WIs (w74.alloc (.cells #[.int .i64 fk, .slice za zn zc] 26)) ya yn yc (fk, fv)) := Knr.wIs_below Y_79.out (Draw1.below_alloc w74 (.cells #[.int .i64 fk, .slice za zn zc] 26))
      have YB_87 : Hid (Rwl.Box (w74.alloc (.cells #[.int .i64 fk, .slice za zn zc] 26)) (w62.heap.size) fk ya yn yc) := Rwl.Box.below YB_80.out (Draw1.below_alloc w74 (.cells #[.int .i64 fk, .slice za zn zc] 26))
      have Z_88 : Hid (Knr.WIs (w74.alloc (.cells #[.int .i64 fk, .slice za zn zc] 26)) za zn zc (fk, fv)) := Knr.wIs_below Z_81.out (Draw1.below_alloc w74 (.cells #[.int .i64 fk, .slice za zn zc] 26))
      have ZB_89 : Hid (Rwl.Box (w74.alloc (.cells #[.int .i64 fk, .slice za zn zc] 26)) (w74.heap.size) fk za zn zc) := Rwl.Box.new w74 fk za zn zc 26
      clear B_75 U_76 D1_77 D2_78 Y_79 YB_80 Z_81
      go_wp2_with fail
      refine (Rwl.same_table d1 d2 _ _ _ D1_84.out D2_85.out rfl).mono ?_
      rintro e w90 ⟨rfl, hb⟩
      have B_91 : Hid (Below w.heap.size w w90) := Frame.next B_82.out hb B_82.out.size
      have U_92 : Hid (Knr.RIs w90 u us) := Knr.rIs_below U_83.out hb
      have D1_93 : Hid (Knr.RIs w90 d1 (Tfn.pDropV key us)) := Knr.rIs_below D1_84.out hb
      have D2_94 : Hid (Knr.RIs w90 d2 (Tfn.pDropV key us)) := Knr.rIs_below D2_85.out hb
      have Y_95 : Hid (Knr.WIs w90 ya yn yc (fk, fv)) := Knr.wIs_below Y_86.out hb
      have YB_96 : Hid (Rwl.Box w90 (w62.heap.size) fk ya yn yc) := Rwl.Box.below YB_87.out hb
      have Z_97 : Hid (Knr.WIs w90 za zn zc (fk, fv)) := Knr.wIs_below Z_88.out hb
      have ZB_98 : Hid (Rwl.Box w90 (w74.heap.size) fk za zn zc) := Rwl.Box.below ZB_89.out hb
      clear hb B_82 U_83 D1_84 D2_85 Y_86 YB_87 Z_88 ZB_89
      obtain ⟨bx00, bx01⟩ := YB_96.out
      obtain ⟨bx10, bx11⟩ := ZB_98.out
      go_wp2_with fail
      refine (Rwl.same_row _ _ _ _ _ _ fk fk fv fv _ Y_95.out Z_97.out rfl).mono ?_
      rintro e w99 ⟨rfl, hb⟩
      have B_100 : Hid (Below w.heap.size w w99) := Frame.next B_91.out hb B_91.out.size
      have U_101 : Hid (Knr.RIs w99 u us) := Knr.rIs_below U_92.out hb
      have D1_102 : Hid (Knr.RIs w99 d1 (Tfn.pDropV key us)) := Knr.rIs_below D1_93.out hb
      have D2_103 : Hid (Knr.RIs w99 d2 (Tfn.pDropV key us)) := Knr.rIs_below D2_94.out hb
      have Y_104 : Hid (Knr.WIs w99 ya yn yc (fk, fv)) := Knr.wIs_below Y_95.out hb
      have YB_105 : Hid (Rwl.Box w99 (w62.heap.size) fk ya yn yc) := Rwl.Box.below YB_96.out hb
      have Z_106 : Hid (Knr.WIs w99 za zn zc (fk, fv)) := Knr.wIs_below Z_97.out hb
      have ZB_107 : Hid (Rwl.Box w99 (w74.heap.size) fk za zn zc) := Rwl.Box.below ZB_98.out hb
      clear hb B_91 U_92 D1_93 D2_94 Y_95 YB_96 Z_97 ZB_98 bx00 bx01 bx10 bx11
      go_wp2
      go_ret
      exact ⟨rfl, B_100.out⟩
    · clear e0
      have F1 : Hid (Tfn.pRowV k (Tfn.pPutV (k, vs) (Rws.plain rs)) = (k, vs) ∧ Tfn.pRowB k (Tfn.pPutV (k, vs) (Rws.plain rs)) = true) := Pus.found_put HB.out
      obtain ⟨bx00, bx01⟩ := RB_47.out
      go_wp2_with fail
      refine (Rwl.impl_Find _ _ k k vs true _ P_48.out HK.out F1.out.1 F1.out.2).mono ?_
      rintro e w108 ⟨fa, fn, fc, rfl, hf, hb⟩
      have B_109 : Hid (Below w.heap.size w w108) := Frame.next B_43.out hb B_43.out.size
      have L_110 : Hid (Knr.RIs w108 (.slice la ln lc) (Rws.plain rs)) := Knr.rIs_below L_44.out hb
      have S_111 : Hid (Rws.IsRows w108 la ln lc rs) := Rws.IsRows.below S_45.out hb
      have R_112 : Hid (Knr.WIs w108 ra rn rc (k, vs)) := Knr.wIs_below R_46.out hb
      have RB_113 : Hid (Rwl.Box w108 (w1.heap.size) k ra rn rc) := Rwl.Box.below RB_47.out hb
      have P_114 : Hid (Knr.RIs w108 pv (Tfn.pPutV (k, vs) (Rws.plain rs))) := Knr.rIs_below P_48.out hb
      have Q_115 : Hid (Knr.RIs w108 pw (Tfn.pPutV (k, vs) (Rws.plain rs))) := Knr.rIs_below Q_49.out hb
      have F_116 : Hid (Knr.WIs w108 fa fn fc (k, vs)) := hf
      clear hb B_43 L_44 S_45 R_46 RB_47 P_48 Q_49 hf bx00 bx01
      have B_117 : Hid (Below w.heap.size w (w108.alloc (.cells #[.int .i64 k, .slice fa fn fc] 26))) := Frame.next B_109.out (Draw1.below_alloc w108 (.cells #[.int .i64 k, .slice fa fn fc] 26)) B_109.out.size
      have L_118 : Hid (Knr.RIs (w108.alloc (.cells #[.int .i64 k, .slice fa fn fc] 26)) (.slice la ln lc) (Rws.plain rs)) := Knr.rIs_below L_110.out (Draw1.below_alloc w108 (.cells #[.int .i64 k, .slice fa fn fc] 26))
      have S_119 : Hid (Rws.IsRows (w108.alloc (.cells #[.int .i64 k, .slice fa fn fc] 26)) la ln lc rs) := Rws.IsRows.below S_111.out (Draw1.below_alloc w108 (.cells #[.int .i64 k, .slice fa fn fc] 26))
      have R_120 : Hid (Knr.WIs (w108.alloc (.cells #[.int .i64 k, .slice fa fn fc] 26)) ra rn rc (k, vs)) := Knr.wIs_below R_112.out (Draw1.below_alloc w108 (.cells #[.int .i64 k, .slice fa fn fc] 26))
      have RB_121 : Hid (Rwl.Box (w108.alloc (.cells #[.int .i64 k, .slice fa fn fc] 26)) (w1.heap.size) k ra rn rc) := Rwl.Box.below RB_113.out (Draw1.below_alloc w108 (.cells #[.int .i64 k, .slice fa fn fc] 26))
      have P_122 : Hid (Knr.RIs (w108.alloc (.cells #[.int .i64 k, .slice fa fn fc] 26)) pv (Tfn.pPutV (k, vs) (Rws.plain rs))) := Knr.rIs_below P_114.out (Draw1.below_alloc w108 (.cells #[.int .i64 k, .slice fa fn fc] 26))
      have Q_123 : Hid (Knr.RIs (w108.alloc (.cells #[.int .i64 k, .slice fa fn fc] 26)) pw (Tfn.pPutV (k, vs) (Rws.plain rs))) := Knr.rIs_below Q_115.out (Draw1.below_alloc w108 (.cells #[.int .i64 k, .slice fa fn fc] 26))
      have F_124 : Hid (Knr.WIs (w108.alloc (.cells #[.int .i64 k, .slice fa fn fc] 26)) fa fn fc (k, vs)) := Knr.wIs_below F_116.out (Draw1.below_alloc w108 (.cells #[.int .i64 k, .slice fa fn fc] 26))
      have FB_125 : Hid (Rwl.Box (w108.alloc (.cells #[.int .i64 k, .slice fa fn fc] 26)) (w108.heap.size) k fa fn fc) := Rwl.Box.new w108 k fa fn fc 26
      clear B_109 L_110 S_111 R_112 RB_113 P_114 Q_115 F_116
      obtain ⟨bx00, bx01⟩ := RB_121.out
      go_wp2_with fail
      refine (Rwl.impl_Drop _ _ k true _ P_122.out HK.out F1.out.2).mono ?_
      rintro e w126 ⟨dv, rfl, hf, hb⟩
      have B_127 : Hid (Below w.heap.size w w126) := Frame.next B_117.out hb B_117.out.size
      have L_128 : Hid (Knr.RIs w126 (.slice la ln lc) (Rws.plain rs)) := Knr.rIs_below L_118.out hb
      have S_129 : Hid (Rws.IsRows w126 la ln lc rs) := Rws.IsRows.below S_119.out hb
      have R_130 : Hid (Knr.WIs w126 ra rn rc (k, vs)) := Knr.wIs_below R_120.out hb
      have RB_131 : Hid (Rwl.Box w126 (w1.heap.size) k ra rn rc) := Rwl.Box.below RB_121.out hb
      have P_132 : Hid (Knr.RIs w126 pv (Tfn.pPutV (k, vs) (Rws.plain rs))) := Knr.rIs_below P_122.out hb
      have Q_133 : Hid (Knr.RIs w126 pw (Tfn.pPutV (k, vs) (Rws.plain rs))) := Knr.rIs_below Q_123.out hb
      have F_134 : Hid (Knr.WIs w126 fa fn fc (k, vs)) := Knr.wIs_below F_124.out hb
      have FB_135 : Hid (Rwl.Box w126 (w108.heap.size) k fa fn fc) := Rwl.Box.below FB_125.out hb
      have D_136 : Hid (Knr.RIs w126 dv (Tfn.pDropV k (Tfn.pPutV (k, vs) (Rws.plain rs)))) := hf
      clear hb B_117 L_118 S_119 R_120 RB_121 P_122 Q_123 F_124 FB_125 hf bx00 bx01
      have F2 : Hid (Tfn.pRowB k (Tfn.pDropV k (Tfn.pPutV (k, vs) (Rws.plain rs))) = false ∧ Tfn.pRowV k (Tfn.pDropV k (Tfn.pPutV (k, vs) (Rws.plain rs))) = (0, [])) := Rwl.gone_row k _ F1.out.2
      obtain ⟨bx00, bx01⟩ := RB_131.out
      go_wp2_with fail
      refine (Rwl.impl_Find _ _ k 0 [] false _ D_136.out HK.out F2.out.2 F2.out.1).mono ?_
      rintro e w137 ⟨ga, gn, gc, rfl, hf, hb⟩
      have B_138 : Hid (Below w.heap.size w w137) := Frame.next B_127.out hb B_127.out.size
      have L_139 : Hid (Knr.RIs w137 (.slice la ln lc) (Rws.plain rs)) := Knr.rIs_below L_128.out hb
      have S_140 : Hid (Rws.IsRows w137 la ln lc rs) := Rws.IsRows.below S_129.out hb
      have R_141 : Hid (Knr.WIs w137 ra rn rc (k, vs)) := Knr.wIs_below R_130.out hb
      have RB_142 : Hid (Rwl.Box w137 (w1.heap.size) k ra rn rc) := Rwl.Box.below RB_131.out hb
      have P_143 : Hid (Knr.RIs w137 pv (Tfn.pPutV (k, vs) (Rws.plain rs))) := Knr.rIs_below P_132.out hb
      have Q_144 : Hid (Knr.RIs w137 pw (Tfn.pPutV (k, vs) (Rws.plain rs))) := Knr.rIs_below Q_133.out hb
      have F_145 : Hid (Knr.WIs w137 fa fn fc (k, vs)) := Knr.wIs_below F_134.out hb
      have FB_146 : Hid (Rwl.Box w137 (w108.heap.size) k fa fn fc) := Rwl.Box.below FB_135.out hb
      have D_147 : Hid (Knr.RIs w137 dv (Tfn.pDropV k (Tfn.pPutV (k, vs) (Rws.plain rs)))) := Knr.rIs_below D_136.out hb
      clear hb B_127 L_128 S_129 R_130 RB_131 P_132 Q_133 F_134 FB_135 D_136 hf bx00 bx01
      have B_148 : Hid (Below w.heap.size w (w137.alloc (.cells #[.int .i64 0, .slice ga gn gc] 26))) := Frame.next B_138.out (Draw1.below_alloc w137 (.cells #[.int .i64 0, .slice ga gn gc] 26)) B_138.out.size
      have L_149 : Hid (Knr.RIs (w137.alloc (.cells #[.int .i64 0, .slice ga gn gc] 26)) (.slice la ln lc) (Rws.plain rs)) := Knr.rIs_below L_139.out (Draw1.below_alloc w137 (.cells #[.int .i64 0, .slice ga gn gc] 26))
      have S_150 : Hid (Rws.IsRows (w137.alloc (.cells #[.int .i64 0, .slice ga gn gc] 26)) la ln lc rs) := Rws.IsRows.below S_140.out (Draw1.below_alloc w137 (.cells #[.int .i64 0, .slice ga gn gc] 26))
      have R_151 : Hid (Knr.WIs (w137.alloc (.cells #[.int .i64 0, .slice ga gn gc] 26)) ra rn rc (k, vs)) := Knr.wIs_below R_141.out (Draw1.below_alloc w137 (.cells #[.int .i64 0, .slice ga gn gc] 26))
      have RB_152 : Hid (Rwl.Box (w137.alloc (.cells #[.int .i64 0, .slice ga gn gc] 26)) (w1.heap.size) k ra rn rc) := Rwl.Box.below RB_142.out (Draw1.below_alloc w137 (.cells #[.int .i64 0, .slice ga gn gc] 26))
      have P_153 : Hid (Knr.RIs (w137.alloc (.cells #[.int .i64 0, .slice ga gn gc] 26)) pv (Tfn.pPutV (k, vs) (Rws.plain rs))) := Knr.rIs_below P_143.out (Draw1.below_alloc w137 (.cells #[.int .i64 0, .slice ga gn gc] 26))
      have Q_154 : Hid (Knr.RIs (w137.alloc (.cells #[.int .i64 0, .slice ga gn gc] 26)) pw (Tfn.pPutV (k, vs) (Rws.plain rs))) := Knr.rIs_below Q_144.out (Draw1.below_alloc w137 (.cells #[.int .i64 0, .slice ga gn gc] 26))
      have F_155 : Hid (Knr.WIs (w137.alloc (.cells #[.int .i64 0, .slice ga gn gc] 26)) fa fn fc (k, vs)) := Knr.wIs_below F_145.out (Draw1.below_alloc w137 (.cells #[.int .i64 0, .slice ga gn gc] 26))
      have FB_156 : Hid (Rwl.Box (w137.alloc (.cells #[.int .i64 0, .slice ga gn gc] 26)) (w108.heap.size) k fa fn fc) := Rwl.Box.below FB_146.out (Draw1.below_alloc w137 (.cells #[.int .i64 0, .slice ga gn gc] 26))
      have D_157 : Hid (Knr.RIs (w137.alloc (.cells #[.int .i64 0, .slice ga gn gc] 26)) dv (Tfn.pDropV k (Tfn.pPutV (k, vs) (Rws.plain rs)))) := Knr.rIs_below D_147.out (Draw1.below_alloc w137 (.cells #[.int .i64 0, .slice ga gn gc] 26))
      have GB_158 : Hid (Rwl.Box (w137.alloc (.cells #[.int .i64 0, .slice ga gn gc] 26)) (w137.heap.size) 0 ga gn gc) := Rwl.Box.new w137 0 ga gn gc 26
      clear B_138 L_139 S_140 R_141 RB_142 P_143 Q_144 F_145 FB_146 D_147
      have F3 : Hid (Tfn.pGood (Tfn.pPutV (k, vs) (Rws.plain rs)) = true) := Pus.good_put HB.out
      go_wp2_with fail
      refine (Rwl.impl_Good _ _ true _ P_153.out F3.out).mono ?_
      rintro e w159 ⟨rfl, hb⟩
      have B_160 : Hid (Below w.heap.size w w159) := Frame.next B_148.out hb B_148.out.size
      have L_161 : Hid (Knr.RIs w159 (.slice la ln lc) (Rws.plain rs)) := Knr.rIs_below L_149.out hb
      have S_162 : Hid (Rws.IsRows w159 la ln lc rs) := Rws.IsRows.below S_150.out hb
      have R_163 : Hid (Knr.WIs w159 ra rn rc (k, vs)) := Knr.wIs_below R_151.out hb
      have RB_164 : Hid (Rwl.Box w159 (w1.heap.size) k ra rn rc) := Rwl.Box.below RB_152.out hb
      have P_165 : Hid (Knr.RIs w159 pv (Tfn.pPutV (k, vs) (Rws.plain rs))) := Knr.rIs_below P_153.out hb
      have Q_166 : Hid (Knr.RIs w159 pw (Tfn.pPutV (k, vs) (Rws.plain rs))) := Knr.rIs_below Q_154.out hb
      have F_167 : Hid (Knr.WIs w159 fa fn fc (k, vs)) := Knr.wIs_below F_155.out hb
      have FB_168 : Hid (Rwl.Box w159 (w108.heap.size) k fa fn fc) := Rwl.Box.below FB_156.out hb
      have D_169 : Hid (Knr.RIs w159 dv (Tfn.pDropV k (Tfn.pPutV (k, vs) (Rws.plain rs)))) := Knr.rIs_below D_157.out hb
      have GB_170 : Hid (Rwl.Box w159 (w137.heap.size) 0 ga gn gc) := Rwl.Box.below GB_158.out hb
      clear hb B_148 L_149 S_150 R_151 RB_152 P_153 Q_154 F_155 FB_156 D_157 GB_158
      obtain ⟨bx00, bx01⟩ := FB_168.out
      obtain ⟨bx10, bx11⟩ := RB_164.out
      go_wp2_with fail
      refine (Rwl.same_row _ _ _ _ _ _ k k vs vs _ F_167.out R_163.out rfl).mono ?_
      rintro e w171 ⟨rfl, hb⟩
      have B_172 : Hid (Below w.heap.size w w171) := Frame.next B_160.out hb B_160.out.size
      have L_173 : Hid (Knr.RIs w171 (.slice la ln lc) (Rws.plain rs)) := Knr.rIs_below L_161.out hb
      have S_174 : Hid (Rws.IsRows w171 la ln lc rs) := Rws.IsRows.below S_162.out hb
      have R_175 : Hid (Knr.WIs w171 ra rn rc (k, vs)) := Knr.wIs_below R_163.out hb
      have RB_176 : Hid (Rwl.Box w171 (w1.heap.size) k ra rn rc) := Rwl.Box.below RB_164.out hb
      have P_177 : Hid (Knr.RIs w171 pv (Tfn.pPutV (k, vs) (Rws.plain rs))) := Knr.rIs_below P_165.out hb
      have Q_178 : Hid (Knr.RIs w171 pw (Tfn.pPutV (k, vs) (Rws.plain rs))) := Knr.rIs_below Q_166.out hb
      have F_179 : Hid (Knr.WIs w171 fa fn fc (k, vs)) := Knr.wIs_below F_167.out hb
      have FB_180 : Hid (Rwl.Box w171 (w108.heap.size) k fa fn fc) := Rwl.Box.below FB_168.out hb
      have D_181 : Hid (Knr.RIs w171 dv (Tfn.pDropV k (Tfn.pPutV (k, vs) (Rws.plain rs)))) := Knr.rIs_below D_169.out hb
      have GB_182 : Hid (Rwl.Box w171 (w137.heap.size) 0 ga gn gc) := Rwl.Box.below GB_170.out hb
      clear hb B_160 L_161 S_162 R_163 RB_164 P_165 Q_166 F_167 FB_168 D_169 GB_170 bx00 bx01 bx10 bx11
      go_wp2
      go_loopw [114] (fun i wr => ∃ j : Nat, j ≤ ln ∧ i = .int .i64 j ∧ Below w171.heap.size w171 wr) (fun i _ => ln - (intOf i).toNat)
      case atStart => exact ⟨0, Nat.zero_le _, rfl, Below.refl _ _⟩
      case round =>
        obtain ⟨j, hj, rfl, hbr⟩ := hrel
        have HW : Hid (Below w171.heap.size w171 wr) := hbr
        clear hbr
        have B_183 : Hid (Below w.heap.size w wr) := Frame.next B_172.out HW.out B_172.out.size
        have S_184 : Hid (Rws.IsRows wr la ln lc rs) := Rws.IsRows.below S_174.out HW.out
        have RB_185 : Hid (Rwl.Box wr (w1.heap.size) k ra rn rc) := Rwl.Box.below RB_176.out HW.out
        have P_186 : Hid (Knr.RIs wr pv (Tfn.pPutV (k, vs) (Rws.plain rs))) := Knr.rIs_below P_177.out HW.out
        have C_187 : Hid (Below w171.heap.size w171 wr) := HW.out
        clear HW
        by_cases hlt : j < ln
        · have hS := S_184.out
          have hlen := hS.len
          obtain ⟨b1, o1, rfl, hb1, hc1⟩ := hS.cells (by omega)
          have kx : j < rs.length := by rw [hlen]; exact hlt
          have p0 : wr.cell? ⟨b1, o1 + j * 2, none⟩ = some (.int .i64 (rs.getD j Rws.rd).key) := (hc1 j hlt).1
          have p1 : wr.cell? ⟨b1, o1 + j * 2 + 1, none⟩ = some (.slice (rs.getD j Rws.rd).a (rs.getD j Rws.rd).n (rs.getD j Rws.rd).c) := (hc1 j hlt).2
          have vx := hS.rows _ (Rws.getD_mem_rd kx)
          have nx := HS.out _ (Rws.getD_mem_rd kx)
          have HM : Hid (((rs.getD j Rws.rd).key, (rs.getD j Rws.rd).vs) ∈ Rws.plain rs) := List.mem_map.2 ⟨_, Rws.getD_mem_rd kx, rfl⟩
          generalize rs.getD j Rws.rd = x at p0 p1 vx nx HM
          obtain ⟨xk, xa, xn, xc, xv⟩ := x
          simp only at p0 p1 vx nx
          have XK : Hid ((Lit.int .i64 xk).wf = true) := vx.1
          have V_188 : Hid (Knr.WIs wr xa xn xc (xk, xv)) := ⟨vx.2, nx⟩
          have HP : Hid (Tfn.pRowB xk (Tfn.pPutV (k, vs) (Rws.plain rs)) = true ∧ (xk ≠ k → Tfn.pRowV xk (Tfn.pPutV (k, vs) (Rws.plain rs)) = (xk, xv))) := Pus.kept_put (y := (xk, xv)) HB.out HM.out
          have hjI : (j : Int) < (ln : Int) := by omega
          have hj0 : (0 : Int) ≤ (j : Int) := by omega
          clear hS hlen hc1 vx nx HM kx
          have B_189 : Hid (Below w.heap.size w (wr.alloc (.cells #[.int .i64 xk, .slice xa xn xc] 26))) := Frame.next B_183.out (Draw1.below_alloc wr (.cells #[.int .i64 xk, .slice xa xn xc] 26)) B_183.out.size
          have RB_190 : Hid (Rwl.Box (wr.alloc (.cells #[.int .i64 xk, .slice xa xn xc] 26)) (w1.heap.size) k ra rn rc) := Rwl.Box.below RB_185.out (Draw1.below_alloc wr (.cells #[.int .i64 xk, .slice xa xn xc] 26))
          have P_191 : Hid (Knr.RIs (wr.alloc (.cells #[.int .i64 xk, .slice xa xn xc] 26)) pv (Tfn.pPutV (k, vs) (Rws.plain rs))) := Knr.rIs_below P_186.out (Draw1.below_alloc wr (.cells #[.int .i64 xk, .slice xa xn xc] 26))
          have C_192 : Hid (Below w171.heap.size w171 (wr.alloc (.cells #[.int .i64 xk, .slice xa xn xc] 26))) := Frame.next C_187.out (Draw1.below_alloc wr (.cells #[.int .i64 xk, .slice xa xn xc] 26)) C_187.out.size
          have V_193 : Hid (Knr.WIs (wr.alloc (.cells #[.int .i64 xk, .slice xa xn xc] 26)) xa xn xc (xk, xv)) := Knr.wIs_below V_188.out (Draw1.below_alloc wr (.cells #[.int .i64 xk, .slice xa xn xc] 26))
          have XB_194 : Hid (Rwl.Box (wr.alloc (.cells #[.int .i64 xk, .slice xa xn xc] 26)) (wr.heap.size) xk xa xn xc) := Rwl.Box.new wr xk xa xn xc 26
          clear B_183 RB_185 P_186 C_187 V_188
          obtain ⟨⟨yk, yv⟩, hy⟩ : ∃ y, Tfn.pRowV xk (Tfn.pPutV (k, vs) (Rws.plain rs)) = y := ⟨_, rfl⟩
          have HY : Hid (Tfn.pRowV xk (Tfn.pPutV (k, vs) (Rws.plain rs)) = (yk, yv)) := hy
          clear hy
          go_wp2_with fail
          refine (Rwl.impl_Find _ _ xk yk yv true _ P_191.out XK.out HY.out HP.out.1).mono ?_
          rintro e w195 ⟨ya, yn, yc, rfl, hf, hb⟩
          have B_196 : Hid (Below w.heap.size w w195) := Frame.next B_189.out hb B_189.out.size
          have RB_197 : Hid (Rwl.Box w195 (w1.heap.size) k ra rn rc) := Rwl.Box.below RB_190.out hb
          have P_198 : Hid (Knr.RIs w195 pv (Tfn.pPutV (k, vs) (Rws.plain rs))) := Knr.rIs_below P_191.out hb
          have C_199 : Hid (Below w171.heap.size w171 w195) := Frame.next C_192.out hb C_192.out.size
          have V_200 : Hid (Knr.WIs w195 xa xn xc (xk, xv)) := Knr.wIs_below V_193.out hb
          have XB_201 : Hid (Rwl.Box w195 (wr.heap.size) xk xa xn xc) := Rwl.Box.below XB_194.out hb
          have Y_202 : Hid (Knr.WIs w195 ya yn yc (yk, yv)) := hf
          clear hb B_189 RB_190 P_191 C_192 V_193 XB_194 hf p0 p1
          have B_203 : Hid (Below w.heap.size w (w195.alloc (.cells #[.int .i64 yk, .slice ya yn yc] 26))) := Frame.next B_196.out (Draw1.below_alloc w195 (.cells #[.int .i64 yk, .slice ya yn yc] 26)) B_196.out.size
          have RB_204 : Hid (Rwl.Box (w195.alloc (.cells #[.int .i64 yk, .slice ya yn yc] 26)) (w1.heap.size) k ra rn rc) := Rwl.Box.below RB_197.out (Draw1.below_alloc w195 (.cells #[.int .i64 yk, .slice ya yn yc] 26))
          have P_205 : Hid (Knr.RIs (w195.alloc (.cells #[.int .i64 yk, .slice ya yn yc] 26)) pv (Tfn.pPutV (k, vs) (Rws.plain rs))) := Knr.rIs_below P_198.out (Draw1.below_alloc w195 (.cells #[.int .i64 yk, .slice ya yn yc] 26))
          have C_206 : Hid (Below w171.heap.size w171 (w195.alloc (.cells #[.int .i64 yk, .slice ya yn yc] 26))) := Frame.next C_199.out (Draw1.below_alloc w195 (.cells #[.int .i64 yk, .slice ya yn yc] 26)) C_199.out.size
          have V_207 : Hid (Knr.WIs (w195.alloc (.cells #[.int .i64 yk, .slice ya yn yc] 26)) xa xn xc (xk, xv)) := Knr.wIs_below V_200.out (Draw1.below_alloc w195 (.cells #[.int .i64 yk, .slice ya yn yc] 26))
          have XB_208 : Hid (Rwl.Box (w195.alloc (.cells #[.int .i64 yk, .slice ya yn yc] 26)) (wr.heap.size) xk xa xn xc) := Rwl.Box.below XB_201.out (Draw1.below_alloc w195 (.cells #[.int .i64 yk, .slice ya yn yc] 26))
          have Y_209 : Hid (Knr.WIs (w195.alloc (.cells #[.int .i64 yk, .slice ya yn yc] 26)) ya yn yc (yk, yv)) := Knr.wIs_below Y_202.out (Draw1.below_alloc w195 (.cells #[.int .i64 yk, .slice ya yn yc] 26))
          have YB_210 : Hid (Rwl.Box (w195.alloc (.cells #[.int .i64 yk, .slice ya yn yc] 26)) (w195.heap.size) yk ya yn yc) := Rwl.Box.new w195 yk ya yn yc 26
          clear B_196 RB_197 P_198 C_199 V_200 XB_201 Y_202
          by_cases hxk : xk = k
          · have hne : (xk != k) = false := by simp [hxk]
            clear hxk
            obtain ⟨bx00, bx01⟩ := XB_208.out
            obtain ⟨bx10, bx11⟩ := RB_204.out
            go_wp2
            go_roundw
            case rel => exact ⟨j + 1, by omega, by go_num, C_206.out⟩
            case measure => simp [intOf]; omega
          · have hne : (xk != k) = true := by simp [hxk]
            have HQ : Hid ((xk, xv) = (yk, yv)) := by have := HP.out.2 hxk; rw [HY.out] at this; exact this.symm
            clear hxk
            obtain ⟨bx00, bx01⟩ := XB_208.out
            obtain ⟨bx10, bx11⟩ := RB_204.out
            obtain ⟨bx20, bx21⟩ := YB_210.out
            go_wp2_with fail
            refine (Rwl.same_row _ _ _ _ _ _ xk yk xv yv _ V_207.out Y_209.out HQ.out).mono ?_
            rintro e w211 ⟨rfl, hb⟩
            have B_212 : Hid (Below w.heap.size w w211) := Frame.next B_203.out hb B_203.out.size
            have RB_213 : Hid (Rwl.Box w211 (w1.heap.size) k ra rn rc) := Rwl.Box.below RB_204.out hb
            have P_214 : Hid (Knr.RIs w211 pv (Tfn.pPutV (k, vs) (Rws.plain rs))) := Knr.rIs_below P_205.out hb
            have C_215 : Hid (Below w171.heap.size w171 w211) := Frame.next C_206.out hb C_206.out.size
            have V_216 : Hid (Knr.WIs w211 xa xn xc (xk, xv)) := Knr.wIs_below V_207.out hb
            have XB_217 : Hid (Rwl.Box w211 (wr.heap.size) xk xa xn xc) := Rwl.Box.below XB_208.out hb
            have Y_218 : Hid (Knr.WIs w211 ya yn yc (yk, yv)) := Knr.wIs_below Y_209.out hb
            have YB_219 : Hid (Rwl.Box w211 (w195.heap.size) yk ya yn yc) := Rwl.Box.below YB_210.out hb
            clear hb B_203 RB_204 P_205 C_206 V_207 XB_208 Y_209 YB_210 bx00 bx01 bx10 bx11 bx20 bx21
            go_wp2
            go_roundw
            case rel => exact ⟨j + 1, by omega, by go_num, C_215.out⟩
            case measure => simp [intOf]; omega
        · have hjn : ¬ (j : Int) < (ln : Int) := by omega
          go_wp2_with fail
          refine (Dr2c.draw_DropRow _ _ _ _ _ (Mem.IsRow.below HD.out B_183.out)).mono ?_
          rintro e w220 ⟨u, us, key, rfl, hu, hkey, hb⟩
          have B_221 : Hid (Below w.heap.size w w220) := Frame.next B_183.out hb B_183.out.size
          have U_222 : Hid (Knr.RIs w220 u us) := hu
          have KW : Hid ((Lit.int .i64 key).wf = true) := hkey
          clear hb B_183 hu hkey
          obtain ⟨g, hg⟩ : ∃ g, Tfn.pRowB key us = g := ⟨_, rfl⟩
          obtain ⟨⟨fk, fv⟩, hf⟩ : ∃ x, Tfn.pRowV key us = x := ⟨_, rfl⟩
          have HG : Hid (Tfn.pRowB key us = g) := hg
          have HF : Hid (Tfn.pRowV key us = (fk, fv)) := hf
          clear hg hf
          have e1 : (g == g) = true := by simp
          go_wp2_with fail
          refine (Rwl.impl_Drop u us key g _ U_222.out KW.out HG.out).mono ?_
          rintro e w223 ⟨d1, rfl, hd1, hb⟩
          have B_224 : Hid (Below w.heap.size w w223) := Frame.next B_221.out hb B_221.out.size
          have U_225 : Hid (Knr.RIs w223 u us) := Knr.rIs_below U_222.out hb
          have D1_226 : Hid (Knr.RIs w223 d1 (Tfn.pDropV key us)) := hd1
          clear hb B_221 U_222 hd1
          go_wp2_with fail
          refine (Rwl.spec_Drop u us key g _ U_225.out KW.out HG.out).mono ?_
          rintro e w227 ⟨d2, rfl, hd2, hb⟩
          have B_228 : Hid (Below w.heap.size w w227) := Frame.next B_224.out hb B_224.out.size
          have U_229 : Hid (Knr.RIs w227 u us) := Knr.rIs_below U_225.out hb
          have D1_230 : Hid (Knr.RIs w227 d1 (Tfn.pDropV key us)) := Knr.rIs_below D1_226.out hb
          have D2_231 : Hid (Knr.RIs w227 d2 (Tfn.pDropV key us)) := hd2
          clear hb B_224 U_225 D1_226 hd2
          go_wp2_with fail
          refine (Rwl.impl_Find u us key fk fv g _ U_229.out KW.out HF.out HG.out).mono ?_
          rintro e w232 ⟨ya, yn, yc, rfl, hy, hb⟩
          have B_233 : Hid (Below w.heap.size w w232) := Frame.next B_228.out hb B_228.out.size
          have U_234 : Hid (Knr.RIs w232 u us) := Knr.rIs_below U_229.out hb
          have D1_235 : Hid (Knr.RIs w232 d1 (Tfn.pDropV key us)) := Knr.rIs_below D1_230.out hb
          have D2_236 : Hid (Knr.RIs w232 d2 (Tfn.pDropV key us)) := Knr.rIs_below D2_231.out hb
          have Y_237 : Hid (Knr.WIs w232 ya yn yc (fk, fv)) := hy
          clear hb B_228 U_229 D1_230 D2_231 hy
          have B_238 : Hid (Below w.heap.size w (w232.alloc (.cells #[.int .i64 fk, .slice ya yn yc] 26))) := Frame.next B_233.out (Draw1.below_alloc w232 (.cells #[.int .i64 fk, .slice ya yn yc] 26)) B_233.out.size
          have U_239 : Hid (Knr.RIs (w232.alloc (.cells #[.int .i64 fk, .slice ya yn yc] 26)) u us) := Knr.rIs_below U_234.out (Draw1.below_alloc w232 (.cells #[.int .i64 fk, .slice ya yn yc] 26))
          have D1_240 : Hid (Knr.RIs (w232.alloc (.cells #[.int .i64 fk, .slice ya yn yc] 26)) d1 (Tfn.pDropV key us)) := Knr.rIs_below D1_235.out (Draw1.below_alloc w232 (.cells #[.int .i64 fk, .slice ya yn yc] 26))
          have D2_241 : Hid (Knr.RIs (w232.alloc (.cells #[.int .i64 fk, .slice ya yn yc] 26)) d2 (Tfn.pDropV key us)) := Knr.rIs_below D2_236.out (Draw1.below_alloc w232 (.cells #[.int .i64 fk, .slice ya yn yc] 26))
          have Y_242 : Hid (Knr.WIs (w232.alloc (.cells #[.int .i64 fk, .slice ya yn yc] 26)) ya yn yc (fk, fv)) := Knr.wIs_below Y_237.out (Draw1.below_alloc w232 (.cells #[.int .i64 fk, .slice ya yn yc] 26))
          have YB_243 : Hid (Rwl.Box (w232.alloc (.cells #[.int .i64 fk, .slice ya yn yc] 26)) (w232.heap.size) fk ya yn yc) := Rwl.Box.new w232 fk ya yn yc 26
          clear B_233 U_234 D1_235 D2_236 Y_237
          go_wp2_with fail
          refine (Rwl.spec_Find u us key fk fv g _ U_239.out KW.out HF.out HG.out).mono ?_
          rintro e w244 ⟨za, zn, zc, rfl, hz, hb⟩
          have B_245 : Hid (Below w.heap.size w w244) := Frame.next B_238.out hb B_238.out.size
          have U_246 : Hid (Knr.RIs w244 u us) := Knr.rIs_below U_239.out hb
          have D1_247 : Hid (Knr.RIs w244 d1 (Tfn.pDropV key us)) := Knr.rIs_below D1_240.out hb
          have D2_248 : Hid (Knr.RIs w244 d2 (Tfn.pDropV key us)) := Knr.rIs_below D2_241.out hb
          have Y_249 : Hid (Knr.WIs w244 ya yn yc (fk, fv)) := Knr.wIs_below Y_242.out hb
          have YB_250 : Hid (Rwl.Box w244 (w232.heap.size) fk ya yn yc) := Rwl.Box.below YB_243.out hb
          have Z_251 : Hid (Knr.WIs w244 za zn zc (fk, fv)) := hz
          clear hb B_238 U_239 D1_240 D2_241 Y_242 YB_243 hz
          have B_252 : Hid (Below w.heap.size w (w244.alloc (.cells #[.int .i64 fk, .slice za zn zc] 26))) := Frame.next B_245.out (Draw1.below_alloc w244 (.cells #[.int .i64 fk, .slice za zn zc] 26)) B_245.out.size
          have U_253 : Hid (Knr.RIs (w244.alloc (.cells #[.int .i64 fk, .slice za zn zc] 26)) u us) := Knr.rIs_below U_246.out (Draw1.below_alloc w244 (.cells #[.int .i64 fk, .slice za zn zc] 26))
          have D1_254 : Hid (Knr.RIs (w244.alloc (.cells #[.int .i64 fk, .slice za zn zc] 26)) d1 (Tfn.pDropV key us)) := Knr.rIs_below D1_247.out (Draw1.below_alloc w244 (.cells #[.int .i64 fk, .slice za zn zc] 26))
          have D2_255 : Hid (Knr.RIs (w244.alloc (.cells #[.int .i64 fk, .slice za zn zc] 26)) d2 (Tfn.pDropV key us)) := Knr.rIs_below D2_248.out (Draw1.below_alloc w244 (.cells #[.int .i64 fk, .slice za zn zc] 26))
          have Y_256 : Hid (Knr.WIs (w244.alloc (.cells #[.int .i64 fk, .slice za zn zc] 26)) ya yn yc (fk, fv)) := Knr.wIs_below Y_249.out (Draw1.below_alloc w244 (.cells #[.int .i64 fk, .slice za zn zc] 26))
          have YB_257 : Hid (Rwl.Box (w244.alloc (.cells #[.int .i64 fk, .slice za zn zc] 26)) (w232.heap.size) fk ya yn yc) := Rwl.Box.below YB_250.out (Draw1.below_alloc w244 (.cells #[.int .i64 fk, .slice za zn zc] 26))
          have Z_258 : Hid (Knr.WIs (w244.alloc (.cells #[.int .i64 fk, .slice za zn zc] 26)) za zn zc (fk, fv)) := Knr.wIs_below Z_251.out (Draw1.below_alloc w244 (.cells #[.int .i64 fk, .slice za zn zc] 26))
          have ZB_259 : Hid (Rwl.Box (w244.alloc (.cells #[.int .i64 fk, .slice za zn zc] 26)) (w244.heap.size) fk za zn zc) := Rwl.Box.new w244 fk za zn zc 26
          clear B_245 U_246 D1_247 D2_248 Y_249 YB_250 Z_251
          go_wp2_with fail
          refine (Rwl.same_table d1 d2 _ _ _ D1_254.out D2_255.out rfl).mono ?_
          rintro e w260 ⟨rfl, hb⟩
          have B_261 : Hid (Below w.heap.size w w260) := Frame.next B_252.out hb B_252.out.size
          have U_262 : Hid (Knr.RIs w260 u us) := Knr.rIs_below U_253.out hb
          have D1_263 : Hid (Knr.RIs w260 d1 (Tfn.pDropV key us)) := Knr.rIs_below D1_254.out hb
          have D2_264 : Hid (Knr.RIs w260 d2 (Tfn.pDropV key us)) := Knr.rIs_below D2_255.out hb
          have Y_265 : Hid (Knr.WIs w260 ya yn yc (fk, fv)) := Knr.wIs_below Y_256.out hb
          have YB_266 : Hid (Rwl.Box w260 (w232.heap.size) fk ya yn yc) := Rwl.Box.below YB_257.out hb
          have Z_267 : Hid (Knr.WIs w260 za zn zc (fk, fv)) := Knr.wIs_below Z_258.out hb
          have ZB_268 : Hid (Rwl.Box w260 (w244.heap.size) fk za zn zc) := Rwl.Box.below ZB_259.out hb
          clear hb B_252 U_253 D1_254 D2_255 Y_256 YB_257 Z_258 ZB_259
          obtain ⟨bx00, bx01⟩ := YB_266.out
          obtain ⟨bx10, bx11⟩ := ZB_268.out
          go_wp2_with fail
          refine (Rwl.same_row _ _ _ _ _ _ fk fk fv fv _ Y_265.out Z_267.out rfl).mono ?_
          rintro e w269 ⟨rfl, hb⟩
          have B_270 : Hid (Below w.heap.size w w269) := Frame.next B_261.out hb B_261.out.size
          have U_271 : Hid (Knr.RIs w269 u us) := Knr.rIs_below U_262.out hb
          have D1_272 : Hid (Knr.RIs w269 d1 (Tfn.pDropV key us)) := Knr.rIs_below D1_263.out hb
          have D2_273 : Hid (Knr.RIs w269 d2 (Tfn.pDropV key us)) := Knr.rIs_below D2_264.out hb
          have Y_274 : Hid (Knr.WIs w269 ya yn yc (fk, fv)) := Knr.wIs_below Y_265.out hb
          have YB_275 : Hid (Rwl.Box w269 (w232.heap.size) fk ya yn yc) := Rwl.Box.below YB_266.out hb
          have Z_276 : Hid (Knr.WIs w269 za zn zc (fk, fv)) := Knr.wIs_below Z_267.out hb
          have ZB_277 : Hid (Rwl.Box w269 (w244.heap.size) fk za zn zc) := Rwl.Box.below ZB_268.out hb
          clear hb B_261 U_262 D1_263 D2_264 Y_265 YB_266 Z_267 ZB_268 bx00 bx01 bx10 bx11
          go_wp2
          go_ret
          exact ⟨rfl, B_270.out⟩

set_option maxRecDepth 100000 in
theorem contract (H : Type) (enc : TypeId × Value → H) (W : World) (base : Nat) (args : Array Value) (ds gs : List (DataW H)) (before : List MemPlace)
    (hval0 : ∀ (j : Nat) t v, Try.f3.params[j]? = some t → args[j]? = some v → Value.okWide Try.prog W .any base t v)
    (hW : DataW.Whole enc Try.prog Try.f3.params.toList Rows.fnRowsSpec.vars false W args.toList ds gs before) :
    Calls Try.prog 3 args W fun e W' => ∃ v, e = .returned v ∧ Rows.fnRowsSpec.post enc Try.prog Try.f3 false true false false W args v W' := by
  refine Frame.law_calls (tb := 4) laidOut (by kernel_rfl) (by kernel_rfl) (by kernel_rfl) Try.underlying4 hW (fun ds gs h1 h2 => ?_) ?_
  · rw [Try.params3] at h1
    match ds, gs, h1, h2 with
    | [_, _], [], _, _ => rfl
  · obtain ⟨p, q, hA0, _, _, _, _⟩ := hW
    have hval : ∀ (j : Nat) t v, Try.f3.params[j]? = some t → args[j]? = some v → Value.okWide Try.prog W .any base t v := hval0
    have hA : DataW.TrodAll enc Try.prog W 0 (fun _ => true) true Try.f3.params.toList args.toList ds p := hA0
    rw [Try.params3] at hA hval
    obtain ⟨v0, vs0, d0, ds0, p0, q0, hargs, rfl, rfl, h0, r0⟩ := trodAll_cons hA
    obtain ⟨v1, vs1, d1, ds1, p1, q1, rfl, rfl, rfl, h1, r1⟩ := trodAll_cons r0
    obtain ⟨rfl, rfl, rfl⟩ := trodAll_nil r1
    obtain rfl : args = #[v0, v1] := by cases args; simp_all
    obtain ⟨a0, len0, cap0, rfl⟩ := okWide_slice Try.underlying22 (hval 0 22 v0 rfl rfl)
    obtain ⟨z0, w0⟩ := Frame.isRow_of Try.underlying22 Try.underlying5 (by kernel_rfl) h0
    obtain ⟨a1, len1, cap1, rfl⟩ := okWide_slice Try.underlying22 (hval 1 22 v1 rfl rfl)
    obtain ⟨z1, w1⟩ := Frame.isRow_of Try.underlying22 Try.underlying5 (by kernel_rfl) h1
    exact walk a0 len0 cap0 z0 a1 len1 cap1 z1 W w0 w1

set_option maxRecDepth 100000 in
theorem lifted (os : Os) (started : os.Started) (H : Type) (enc : TypeId × Value → H) :
    ReturnsInHanded {} Try.checked os 3 .any (Rows.fnRowsSpec.pre6 enc Try.prog Try.f3 Rows.fnRowsRow.domain false) (Rows.fnRowsSpec.post enc Try.prog Try.f3 false true false false) := by
  refine returnsInHanded_of_change (C := Try.checked) own started (by kernel_rfl) Try.func3
    (ChangeSpec.witness6 (enc := enc) (C := Try.checked) false ⟨#[], #[.slice none 0 0, .slice none 0 0], []⟩ 8 (by kernel_rfl) (by kernel_rfl) (by kernel_rfl) (by kernel_rfl)) ?_
  intro W base args ds gs before hval hW _ _
  exact contract H enc W base args ds gs before hval hW

/-- The statement. -/
theorem proved : Rows.FnRowsSaid :=
  OpenClaim.holds_of_wide 3 Try.f3 rfl rfl rfl rfl rfl rfl rfl ⟨rfl, rfl, rfl, rfl, rfl⟩ rfl rfl rfl rfl rfl (by kernel_rfl) Try.func3 (by kernel_rfl)
    (of_decide_eq_true (by kernel_rfl)) (by unfold Func.isWrapper; first | (rw [if_pos (by decide +kernel)]; kernel_rfl) | (rw [if_neg (by decide +kernel)]; exact ⟨rfl, rfl⟩))
    (fun os started H enc _ => lifted os started H enc)
#print axioms proved

end Go.Proofs.Ytciaegdgoabipaa.fnRows
