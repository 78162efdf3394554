/-
  Contract of the program's Choose.
-/
import Derived.Test.YtdlcjcobfckncaaDoorKpl
import Derived.Test.YtdlcjcobfckncaaDoorSk
namespace Go.Proofs.YtdlcjcobfckncaaDoor.Om
open Go.RowKit
open Go.Proofs.YtdlcjcobfckncaaDoor.Frame Go.Proofs.YtdlcjcobfckncaaDoor.Mem Go.Proofs.YtdlcjcobfckncaaDoor.Ints Go.Proofs.YtdlcjcobfckncaaDoor.Kep Go.Proofs.YtdlcjcobfckncaaDoor.Lls Go.Proofs.YtdlcjcobfckncaaDoor.Rpu Go.Proofs.YtdlcjcobfckncaaDoor.Krl Go.Proofs.YtdlcjcobfckncaaDoor.Oa Go.Proofs.YtdlcjcobfckncaaDoor.Ob Go.Proofs.YtdlcjcobfckncaaDoor.Oe Go.Proofs.YtdlcjcobfckncaaDoor.Og Go.Proofs.YtdlcjcobfckncaaDoor.Mis Go.Proofs.YtdlcjcobfckncaaDoor.Told Go.Proofs.YtdlcjcobfckncaaDoor.Rel Go.Proofs.YtdlcjcobfckncaaDoor.Kpl Go.Proofs.YtdlcjcobfckncaaDoor.Sk Go.Proofs.YtdlcjcobfckncaaDoor.Of Go.Proofs.YtdlcjcobfckncaaDoor.Oc

theorem cmpV_is {kind v n : Int} (hk : Val.inB kind 0 2 = true) (hv : Val.inB v (-1000) 1000 = true) (hn : Val.inB n (-1000) 1000 = true) : (Cmp.cmpV kind false v false n == 2) = cmpK kind v n := by
  have hb : Cmp.cmpB kind false v false n = true := by unfold Cmp.cmpB Val.goodV; rw [hk, hv, hn]; rfl
  unfold Cmp.cmpV
  rw [if_pos hb]
  exact cmp_is hk v n

set_option maxRecDepth 4000 in
set_option maxHeartbeats 1600000 in
theorem choose_closure (xa : Option Addr) (xn xc : Nat) (x : List Int) (kb pb nb : Nat) (kind n : Int) (ix : Nat) (w : World) (hk : w.cell? ⟨kb, 0, none⟩ = some (.int .i64 kind)) (hp : w.cell? ⟨pb, 0, none⟩ = some (.int .i64 (ix : Int))) (hn : w.cell? ⟨nb, 0, none⟩ = some (.int .i64 n))
    (hx : IsRow .i64 w xa xn xc x) (hix : ix < xn) (hT : Cmp.CmpTab w) (hK : Val.inB kind 0 2 = true) (hV : Val.inB (x.getD ix 0) (-1000) 1000 = true) (hN : Val.inB n (-1000) 1000 = true) :
    Calls Tryd.prog 98 #[.slice xa xn xc, .pointer (some ⟨kb, 0, none⟩), .pointer (some ⟨pb, 0, none⟩), .pointer (some ⟨nb, 0, none⟩)] w fun e w' => e = .returned (.bool (cmpK kind (x.getD ix 0) n)) ∧ Below w.heap.size w w' := by
  have E : Hid ((Cmp.cmpV kind false (x.getD ix 0) false n == 2) = cmpK kind (x.getD ix 0) n) := cmpV_is hK hV hN
  obtain ⟨xb, xo, rfl, hxb, hxc⟩ := hx.cells (by omega)
  have x0 : w.cell? ⟨xb, xo + ix, none⟩ = some (.int .i64 (x.getD ix 0)) := hxc ix hix
  clear hxc hK hV hN hx hxb
  generalize x.getD ix 0 = v at x0 E ⊢
  have hix0 : (0 : Int) ≤ (ix : Int) := by omega
  have hix1 : (ix : Int) < (xn : Int) := by omega
  have HT : Hid (Cmp.CmpTab w.drew) := hT.below ((Below.refl _ _).drew)
  have H0 : Hid (w.drew.cell? ⟨kb, 0, none⟩ = some (.int .i64 kind) ∧ w.drew.cell? ⟨pb, 0, none⟩ = some (.int .i64 (ix : Int)) ∧ w.drew.cell? ⟨nb, 0, none⟩ = some (.int .i64 n) ∧ w.drew.cell? ⟨xb, xo + ix, none⟩ = some (.int .i64 v)) := ⟨hk, hp, hn, x0⟩
  clear hT
  go_enter Tryd.func98, Tryd.ntmps98
  go_wp2_with fail
  go_region_held3 (fun w' => w'.cell? ⟨kb, 0, none⟩ = some (.int .i64 kind) ∧ w'.cell? ⟨pb, 0, none⟩ = some (.int .i64 (ix : Int)) ∧ w'.cell? ⟨nb, 0, none⟩ = some (.int .i64 n) ∧ w'.cell? ⟨xb, xo + ix, none⟩ = some (.int .i64 v)) (first | exact H0.out | exact K1.out) (first | (go_at_call 83; refine (Cmp.impl_Compare kind false false v n _ HT.out).mono ?_; rintro e w1 ⟨rfl, hb1⟩; have K1 : Hid (w1.cell? ⟨kb, 0, none⟩ = some (.int .i64 kind) ∧ w1.cell? ⟨pb, 0, none⟩ = some (.int .i64 (ix : Int)) ∧ w1.cell? ⟨nb, 0, none⟩ = some (.int .i64 n) ∧ w1.cell? ⟨xb, xo + ix, none⟩ = some (.int .i64 v)) := ⟨Frame.held_cell hb1 H0.out.1, Frame.held_cell hb1 H0.out.2.1, Frame.held_cell hb1 H0.out.2.2.1, Frame.held_cell hb1 H0.out.2.2.2⟩; have B1 : Hid (Below w.heap.size w w1) := Frame.next ((Below.refl _ _).drew) hb1 (Nat.le_refl _); clear hb1))
  go_wp2
  go_ret
  rw [E.out]
  exact ⟨rfl, B1.out⟩

theorem start4 {w w1 : World} {ua ta : Option Addr} {un uc tn tc : Nat} {kind n : Int} (hb : Below ((((w.alloc (.cells #[.slice ua un uc, .slice ta tn tc] 60)).alloc (.cells #[.int .i64 kind] 3)).alloc (.cells #[.int .i64 n] 3)).alloc (.cells #[.slice none 0 0, .slice none 0 0] 60)).heap.size ((((w.alloc (.cells #[.slice ua un uc, .slice ta tn tc] 60)).alloc (.cells #[.int .i64 kind] 3)).alloc (.cells #[.int .i64 n] 3)).alloc (.cells #[.slice none 0 0, .slice none 0 0] 60)) w1) : (w1.cell? ⟨w.heap.size, 0, none⟩ = some (.slice ua un uc) ∧ w1.cell? ⟨w.heap.size, 1, none⟩ = some (.slice ta tn tc) ∧ w1.cell? ⟨w.heap.size + 1, 0, none⟩ = some (.int .i64 kind) ∧ w1.cell? ⟨w.heap.size + 1 + 1, 0, none⟩ = some (.int .i64 n)) ∧ (w1.cell? ⟨w.heap.size + 1 + 1 + 1, 0, none⟩ = some (.slice none 0 0) ∧ w1.cell? ⟨w.heap.size + 1 + 1 + 1, 1, none⟩ = some (.slice none 0 0) ∧ w1.frozen? ⟨w.heap.size + 1 + 1 + 1, 0, none⟩ = false ∧ w1.frozen? ⟨w.heap.size + 1 + 1 + 1, 1, none⟩ = false ∧ w.heap.size + 1 + 1 + 1 + 1 ≤ w1.heap.size) ∧ Below w.heap.size w w1 := by
  have hs : ((((w.alloc (.cells #[.slice ua un uc, .slice ta tn tc] 60)).alloc (.cells #[.int .i64 kind] 3)).alloc (.cells #[.int .i64 n] 3)).alloc (.cells #[.slice none 0 0, .slice none 0 0] 60)).heap.size = w.heap.size + 4 := by simp
  have B : Below w.heap.size w ((((w.alloc (.cells #[.slice ua un uc, .slice ta tn tc] 60)).alloc (.cells #[.int .i64 kind] 3)).alloc (.cells #[.int .i64 n] 3)).alloc (.cells #[.slice none 0 0, .slice none 0 0] 60)) := ((((Below.refl _ _).alloc (Nat.le_refl _) _).alloc (by simp) _).alloc (by simp; omega) _).alloc (by simp; omega) _
  have bc := Frame.bcell hb
  rw [hs] at bc
  refine ⟨⟨?_, ?_, ?_, ?_⟩, ⟨?_, ?_, ?_, ?_, bc.2.2⟩, Frame.next B hb B.size⟩
  · rw [bc.1 _ _ (by omega)]; go_simp
  · rw [bc.1 _ _ (by omega)]; go_simp
  · rw [bc.1 _ _ (by omega)]; go_simp
  · rw [bc.1 _ _ (by omega)]; go_simp
  · rw [bc.1 _ _ (by omega)]; go_simp
  · rw [bc.1 _ _ (by omega)]; go_simp
  · rw [bc.2.1 _ _ (by omega)]; go_simp
  · rw [bc.2.1 _ _ (by omega)]; go_simp

set_option maxRecDepth 4000 in
set_option maxHeartbeats 6400000 in
theorem impl_Choose (u t : Value) (r : Rl) (x kind n : Int) (w : World) (h : QIs w u t r) (hT : Cmp.CmpTab w) : Calls Tryd.prog 36 #[.agg #[u, t], .int .i64 x, .int .i64 kind, .int .i64 n] w (RTold (chooseV r x kind n) (chooseG r x kind n) w) := by
  have HQ : Hid (QIs w u t r) := h
  have HT : Hid (Cmp.CmpTab w) := hT
  obtain ⟨⟨ua, un, uc, rfl, hu, hun⟩, ta, tn, tc, rs, rfl, ht, hrs, htt⟩ := h
  have HU : Hid (IsRow .i64 w ua un uc r.1) := hu
  have HTT : Hid (IsLs w ta tn tc rs) := ht
  have HRS : Hid (lplain rs = r.2) := hrs
  have HTL : Hid (rs.length = tn) := ht.len
  have HUL : Hid (r.1.length = un) := hu.len
  have B4 : Hid (Below w.heap.size w ((((w.alloc (.cells #[.slice ua un uc, .slice ta tn tc] 60)).alloc (.cells #[.int .i64 kind] 3)).alloc (.cells #[.int .i64 n] 3)).alloc (.cells #[.slice none 0 0, .slice none 0 0] 60))) := ((((Below.refl _ _).alloc (Nat.le_refl _) _).alloc (by simp) _).alloc (by simp; omega) _).alloc (by simp; omega) _
  clear hu ht hrs htt hT
  cases hg : goodR r.1 r.2
  · have HG : Hid (goodR r.1 r.2 = false) := hg
    have F : Hid (chooseV r x kind n = ([], []) ∧ chooseG r x kind n = false) := choose_no (by unfold chooseB; rw [hg]; simp)
    clear hg
    go_enter Tryd.func36, Tryd.ntmps36
    go_wp2_with fail
    refine (impl_GoodRelation _ _ r _ (qIs_below HQ.out B4.out)).mono ?_
    rintro e w1 ⟨rfl, hb1⟩
    rw [HG.out]
    obtain ⟨⟨d0, d1, d2, d3⟩, ⟨c0, c1, f0, f1, hs1⟩, b1⟩ := start4 hb1
    have B1 : Hid (Below w.heap.size w w1) := b1
    clear hb1 b1
    go_wp2
    refine bodyPost_ret (v := .tuple #[.agg #[.slice none 0 0, .slice none 0 0], .bool false]) (by simp [results, Tryd.results36, go_sem, c0, c1]) rfl ?_
    rw [F.out.1, F.out.2]
    exact Og.told_none (by omega) B1.out
  have HG : Hid (goodR r.1 r.2 = true) := hg
  have G : Hid (Rel.Good r.1 r.2) := good_iff.1 hg
  have HUP : Hid (UpN r.1) := G.out.upN
  cases hin : decide (x ∈ r.1)
  · have HIN : Hid (decide (x ∈ r.1) = false) := hin
    have hj : decide (0 ≤ Lib.idxOf r.1 x) = false := decide_eq_false fun hh => of_decide_eq_false hin ((idx_nonneg _ _).1 hh)
    have F : Hid (chooseV r x kind n = ([], []) ∧ chooseG r x kind n = false) := choose_no (by unfold chooseB; rw [hj]; simp)
    clear hg hin hj
    go_enter Tryd.func36, Tryd.ntmps36
    go_wp2_with fail
    refine (impl_GoodRelation _ _ r _ (qIs_below HQ.out B4.out)).mono ?_
    rintro e w1 ⟨rfl, hb1⟩
    rw [HG.out]
    obtain ⟨⟨d0, d1, d2, d3⟩, ⟨c0, c1, f0, f1, hs1⟩, b1⟩ := start4 hb1
    have B1 : Hid (Below w.heap.size w w1) := b1
    clear hb1 b1
    go_wp2_with fail
    refine (has_int _ _ _ r.1 x _ (IsRow.below HU.out B1.out) hun HUP.out).mono ?_
    rintro e w' ⟨rfl, hw'⟩; have hw'' := hw'.symm; clear hw'; subst hw''
    rw [HIN.out]
    go_wp2
    refine bodyPost_ret (v := .tuple #[.agg #[.slice none 0 0, .slice none 0 0], .bool false]) (by simp [results, Tryd.results36, go_sem, c0, c1]) rfl ?_
    rw [F.out.1, F.out.2]
    exact Og.told_none (by omega) B1.out
  have HIN : Hid (decide (x ∈ r.1) = true) := hin
  have HJ : Hid (0 ≤ Lib.idxOf r.1 x) := (idx_nonneg _ _).2 (of_decide_eq_true hin)
  cases hk : Val.inB kind 0 2
  · have HK : Hid (Val.inB kind 0 2 = false) := hk
    have F : Hid (chooseV r x kind n = ([], []) ∧ chooseG r x kind n = false) := choose_no (by unfold chooseB; rw [hk]; simp)
    clear hg hin hk
    go_enter Tryd.func36, Tryd.ntmps36
    go_wp2_with fail
    refine (impl_GoodRelation _ _ r _ (qIs_below HQ.out B4.out)).mono ?_
    rintro e w1 ⟨rfl, hb1⟩
    rw [HG.out]
    obtain ⟨⟨d0, d1, d2, d3⟩, ⟨c0, c1, f0, f1, hs1⟩, b1⟩ := start4 hb1
    have B1 : Hid (Below w.heap.size w w1) := b1
    clear hb1 b1
    go_wp2_with fail
    refine (has_int _ _ _ r.1 x _ (IsRow.below HU.out B1.out) hun HUP.out).mono ?_
    rintro e w' ⟨rfl, hw'⟩; have hw'' := hw'.symm; clear hw'; subst hw''
    rw [HIN.out]
    go_wp2_with fail
    refine (Cmp.impl_isKind kind _).mono ?_
    rintro e w' ⟨rfl, hw'⟩; have hw'' := hw'.symm; clear hw'; subst hw''
    rw [HK.out]
    go_wp2
    refine bodyPost_ret (v := .tuple #[.agg #[.slice none 0 0, .slice none 0 0], .bool false]) (by simp [results, Tryd.results36, go_sem, c0, c1]) rfl ?_
    rw [F.out.1, F.out.2]
    exact Og.told_none (by omega) B1.out
  have HK : Hid (Val.inB kind 0 2 = true) := hk
  cases hn : Val.inB n (-1000) 1000
  · have HN : Hid (Val.inB n (-1000) 1000 = false) := hn
    have F : Hid (chooseV r x kind n = ([], []) ∧ chooseG r x kind n = false) := choose_no (by unfold chooseB; rw [hn]; simp)
    clear hg hin hk hn
    go_enter Tryd.func36, Tryd.ntmps36
    go_wp2_with fail
    refine (impl_GoodRelation _ _ r _ (qIs_below HQ.out B4.out)).mono ?_
    rintro e w1 ⟨rfl, hb1⟩
    rw [HG.out]
    obtain ⟨⟨d0, d1, d2, d3⟩, ⟨c0, c1, f0, f1, hs1⟩, b1⟩ := start4 hb1
    have B1 : Hid (Below w.heap.size w w1) := b1
    clear hb1 b1
    go_wp2_with fail
    refine (has_int _ _ _ r.1 x _ (IsRow.below HU.out B1.out) hun HUP.out).mono ?_
    rintro e w' ⟨rfl, hw'⟩; have hw'' := hw'.symm; clear hw'; subst hw''
    rw [HIN.out]
    go_wp2_with fail
    refine (Cmp.impl_isKind kind _).mono ?_
    rintro e w' ⟨rfl, hw'⟩; have hw'' := hw'.symm; clear hw'; subst hw''
    rw [HK.out]
    go_wp2_with fail
    refine (Val.impl_isInBound n _).mono ?_
    rintro e w' ⟨rfl, hw'⟩; have hw'' := hw'.symm; clear hw'; subst hw''
    rw [HN.out]
    go_wp2
    refine bodyPost_ret (v := .tuple #[.agg #[.slice none 0 0, .slice none 0 0], .bool false]) (by simp [results, Tryd.results36, go_sem, c0, c1]) rfl ?_
    rw [F.out.1, F.out.2]
    exact Og.told_none (by omega) B1.out
  have HN : Hid (Val.inB n (-1000) 1000 = true) := hn
  have F : Hid (chooseV r x kind n = tellV r.1 (chooseL r x kind n) ∧ chooseG r x kind n = tellG r.1 (chooseL r x kind n)) := choose_yes (by unfold chooseB; rw [hg, hk, hn, decide_eq_true HJ.out]; rfl)
  have hmost : tn ≤ 60 := by
    have h1 := G.out.most
    rw [← HRS.out, Oa.lplain_length, HTL.out] at h1
    exact h1
  have hfew : un ≤ 6 := by have := G.out.few; rw [HUL.out] at this; exact this
  have hlt : (Lib.idxOf r.1 x).toNat < un := by have := (idx_at (of_decide_eq_true hin)).1; rw [HUL.out] at this; exact this
  have HIE : Hid (Lib.idxOf r.1 x = (((Lib.idxOf r.1 x).toNat : Nat) : Int)) := (Int.toNat_of_nonneg HJ.out).symm
  have HRN : Hid (∀ z ∈ rs, z.zs.length = un) := fun z hz => by
    have h1 := G.out.wide z.zs (by rw [← HRS.out]; exact List.mem_map_of_mem hz)
    rw [h1, HUL.out]
  have HPL : Hid ((lplain (pickC kind n (Lib.idxOf r.1 x).toNat rs)).map (fun y => pick r.1 y r.1) = chooseL r x kind n) := by
    show _ = _
    have e : lplain (pickC kind n (Lib.idxOf r.1 x).toNat rs) = chooseL r x kind n := by rw [lplain_pick, HRS.out]; rfl
    rw [e]
    exact map_pick_all G.out.upN (fun t ht => G.out.wide t (List.mem_filter.1 ht).1)
  have HVS : Hid (∀ z ∈ rs, Val.inB (z.zs.getD (Lib.idxOf r.1 x).toNat 0) (-1000) 1000 = true) := fun z hz => by
    have h1 := G.out.inT z.zs (by rw [← HRS.out]; exact List.mem_map_of_mem hz)
    exact decide_eq_true (h1 _ (getD_mem (by rw [HRN.out z hz]; exact hlt)))
  generalize (Lib.idxOf r.1 x).toNat = ix at hlt HIE HPL HVS
  have HRP : Hid (∀ z ∈ pickC kind n ix rs, z.zs.length = un) := fun z hz => HRN.out z (List.mem_filter.1 hz).1
  clear hg hin hk hn
  go_enter Tryd.func36, Tryd.ntmps36
  go_wp2_with fail
  refine (impl_GoodRelation _ _ r _ (qIs_below HQ.out B4.out)).mono ?_
  rintro e w1 ⟨rfl, hb1⟩
  rw [HG.out]
  obtain ⟨⟨d0, d1, d2, d3⟩, ⟨c0, c1, f0, f1, hs1⟩, b1⟩ := start4 hb1
  have B1 : Hid (Below w.heap.size w w1) := b1
  clear hb1 b1
  go_wp2_with fail
  refine (has_int _ _ _ r.1 x _ (IsRow.below HU.out B1.out) hun HUP.out).mono ?_
  rintro e w' ⟨rfl, hw'⟩; have hw'' := hw'.symm; clear hw'; subst hw''
  rw [HIN.out]
  go_wp2_with fail
  refine (Cmp.impl_isKind kind _).mono ?_
  rintro e w' ⟨rfl, hw'⟩; have hw'' := hw'.symm; clear hw'; subst hw''
  rw [HK.out]
  go_wp2_with fail
  refine (Val.impl_isInBound n _).mono ?_
  rintro e w' ⟨rfl, hw'⟩; have hw'' := hw'.symm; clear hw'; subst hw''
  rw [HN.out]
  have C1 : Hid (w1.cell? ⟨w.heap.size + 1 + 1 + 1, 0, none⟩ = some (.slice none 0 0) ∧ w1.cell? ⟨w.heap.size + 1 + 1 + 1, 1, none⟩ = some (.slice none 0 0) ∧ w1.frozen? ⟨w.heap.size + 1 + 1 + 1, 0, none⟩ = false ∧ w1.frozen? ⟨w.heap.size + 1 + 1 + 1, 1, none⟩ = false ∧ w.heap.size + 1 + 1 + 1 + 1 ≤ w1.heap.size) := ⟨c0, c1, f0, f1, hs1⟩
  have D1 : Hid (w1.cell? ⟨w.heap.size, 0, none⟩ = some (.slice ua un uc) ∧ w1.cell? ⟨w.heap.size, 1, none⟩ = some (.slice ta tn tc) ∧ w1.cell? ⟨w.heap.size + 1, 0, none⟩ = some (.int .i64 kind) ∧ w1.cell? ⟨w.heap.size + 1 + 1, 0, none⟩ = some (.int .i64 n)) := ⟨d0, d1, d2, d3⟩
  clear c0 c1 f0 f1
  go_wp2_with fail
  refine (slices_Index _ _ _ r.1 x _ (IsRow.below HU.out B1.out)).mono ?_
  rintro e w' ⟨rfl, hw'⟩; have hw'' := hw'.symm; clear hw'; subst hw''
  rw [HIE.out]
  have B5 : Hid (Below w.heap.size w (w1.alloc (.cells #[.int .i64 (ix : Int)] 3))) := B1.out.alloc B1.out.size _
  have bw : Below w1.heap.size w1 (w1.alloc (.cells #[.int .i64 (ix : Int)] 3)) := (Below.refl _ _).alloc (Nat.le_refl _) _
  have C5 : Hid ((w1.alloc (.cells #[.int .i64 (ix : Int)] 3)).cell? ⟨w.heap.size + 1 + 1 + 1, 0, none⟩ = some (.slice none 0 0) ∧ (w1.alloc (.cells #[.int .i64 (ix : Int)] 3)).cell? ⟨w.heap.size + 1 + 1 + 1, 1, none⟩ = some (.slice none 0 0) ∧ (w1.alloc (.cells #[.int .i64 (ix : Int)] 3)).frozen? ⟨w.heap.size + 1 + 1 + 1, 0, none⟩ = false ∧ (w1.alloc (.cells #[.int .i64 (ix : Int)] 3)).frozen? ⟨w.heap.size + 1 + 1 + 1, 1, none⟩ = false ∧ w.heap.size + 1 + 1 + 1 + 1 ≤ (w1.alloc (.cells #[.int .i64 (ix : Int)] 3)).heap.size) := by
    obtain ⟨q0, q1, q2, q3, q4⟩ := C1.out
    obtain ⟨s0, s1, s2, s3, s4⟩ := told_cells ⟨q0, q1, q2, q3, q4⟩ bw
    exact ⟨s0, s1, s2, s3, s4⟩
  have D5 : Hid ((w1.alloc (.cells #[.int .i64 (ix : Int)] 3)).cell? ⟨w.heap.size, 0, none⟩ = some (.slice ua un uc) ∧ (w1.alloc (.cells #[.int .i64 (ix : Int)] 3)).cell? ⟨w.heap.size, 1, none⟩ = some (.slice ta tn tc) ∧ (w1.alloc (.cells #[.int .i64 (ix : Int)] 3)).cell? ⟨w.heap.size + 1, 0, none⟩ = some (.int .i64 kind) ∧ (w1.alloc (.cells #[.int .i64 (ix : Int)] 3)).cell? ⟨w.heap.size + 1 + 1, 0, none⟩ = some (.int .i64 n)) := ⟨Frame.held_cell bw D1.out.1, Frame.held_cell bw D1.out.2.1, Frame.held_cell bw D1.out.2.2.1, Frame.held_cell bw D1.out.2.2.2⟩
  have P5 : Hid ((w1.alloc (.cells #[.int .i64 (ix : Int)] 3)).cell? ⟨w1.heap.size, 0, none⟩ = some (.int .i64 (ix : Int))) := by show _ = _; go_simp
  have HCL : Hid (∀ z ∈ rs, ∀ w2, Below (w1.alloc (.cells #[.int .i64 (ix : Int)] 3)).heap.size (w1.alloc (.cells #[.int .i64 (ix : Int)] 3)) w2 → Calls Tryd.prog 98 (#[.slice z.a z.n z.c] ++ #[.pointer (some ⟨w.heap.size + 1, 0, none⟩), .pointer (some ⟨w1.heap.size, 0, none⟩), .pointer (some ⟨w.heap.size + 1 + 1, 0, none⟩)]) w2 fun e w3 => e = .returned (.bool (cmpK kind (z.zs.getD ix 0) n)) ∧ Below w2.heap.size w2 w3) := fun z hz w2 hb2 => by
    have bz : Below w.heap.size w w2 := Frame.next B5.out hb2 B5.out.size
    have rz := IsRow.below (HTT.out.rows z hz) bz
    exact choose_closure z.a z.n z.c z.zs (w.heap.size + 1) w1.heap.size (w.heap.size + 1 + 1) kind n ix w2 (Frame.held_cell hb2 D5.out.2.2.1) (Frame.held_cell hb2 P5.out) (Frame.held_cell hb2 D5.out.2.2.2) rz (by rw [← rz.len, HRN.out z hz]; exact hlt) (HT.out.below bz) HK.out (HVS.out z hz) HN.out
  clear bw d0 d1 d2 d3
  have e1 : (w1.alloc (.cells #[.int .i64 (ix : Int)] 3)).cell? ⟨w.heap.size, 0, none⟩ = some (.slice ua un uc) := D5.out.1
  have e2 : (w1.alloc (.cells #[.int .i64 (ix : Int)] 3)).cell? ⟨w.heap.size, 1, none⟩ = some (.slice ta tn tc) := D5.out.2.1
  go_wp2_with fail
  refine (kept_ls _ _ _ rs 98 _ (fun z => cmpK kind (z.zs.getD ix 0) n) _ (HTT.out.below B5.out) (by omega) (enters Tryd.func98 (by kernel_rfl) rfl) HCL.out).mono ?_
  rintro e w3 ⟨a3, m3, c3, rfl, hm3, ho3, hb3⟩
  have B3 : Hid (Below w.heap.size w w3) := Frame.next B5.out hb3 B5.out.size
  have HL3 : Hid (IsLs w3 a3 m3 c3 (pickC kind n ix rs)) := isLs_outer ho3 (fun z hz => IsRow.below (HTT.out.rows z (List.mem_filter.1 hz).1) B3.out)
  clear e1 e2
  have d0 : w3.cell? ⟨w.heap.size, 0, none⟩ = some (.slice ua un uc) := Frame.held_cell hb3 D5.out.1
  have C3 : Hid (w3.cell? ⟨w.heap.size + 1 + 1 + 1, 0, none⟩ = some (.slice none 0 0) ∧ w3.cell? ⟨w.heap.size + 1 + 1 + 1, 1, none⟩ = some (.slice none 0 0) ∧ w3.frozen? ⟨w.heap.size + 1 + 1 + 1, 0, none⟩ = false ∧ w3.frozen? ⟨w.heap.size + 1 + 1 + 1, 1, none⟩ = false ∧ w.heap.size + 1 + 1 + 1 + 1 ≤ w3.heap.size) := told_cells C5.out hb3
  have hs3 : w.heap.size + 1 + 1 + 1 + 1 ≤ w3.heap.size := C3.out.2.2.2.2
  have hsm : m3 * (un + 1) ≤ 1048576 := by
    have h1 : m3 * (un + 1) ≤ 60 * 7 := Nat.mul_le_mul (by omega) (by omega)
    omega
  clear ho3 hb3 C5 D5 P5 HCL
  go_wp2_with fail
  refine (impl_underNames _ _ _ _ _ _ _ _ _ r.1 r.1 (pickC kind n ix rs) _ (IsRow.below HU.out B3.out) HL3.out (IsRow.below HU.out B3.out) (by omega) (by omega) hsm HRP.out (fun z hz => hz)).mono ?_
  rintro e w8 ⟨pa, pn, pc, ya, yn, yc, rfl, hq8, hb8⟩
  rw [HPL.out] at hq8 ⊢
  obtain ⟨c0, c1, f0, f1, hs8⟩ := told_cells C3.out hb8
  have Q8 : Hid (QOwn w8 w3.heap.size w8.heap.size (.slice pa pn pc) (.slice ya yn yc) (tellV r.1 (chooseL r x kind n))) := hq8
  have B8 : Hid (Below w.heap.size w w8) := Frame.next B3.out hb8 B3.out.size
  clear hq8 hb8 d0
  go_wp2
  refine bodyPost_ret (v := .tuple #[.agg #[.slice pa pn pc, .slice ya yn yc], .bool (tellG r.1 (chooseL r x kind n))]) (by simp [results, Tryd.results36, go_sem, c0, c1]) rfl ?_
  rw [F.out.1, F.out.2]
  exact told_end (by omega) (by omega) hs3 Q8.out B8.out


end Go.Proofs.YtdlcjcobfckncaaDoor.Om
