/-
  Contract of the model's Choose.
-/
import Derived.Test.YtdlcjcobfckncaaDoorSd
import Derived.Test.YtdlcjcobfckncaaDoorCmp
namespace Go.Proofs.YtdlcjcobfckncaaDoor.Sk
open Go.RowKit
open Go.Proofs.YtdlcjcobfckncaaDoor.Frame Go.Proofs.YtdlcjcobfckncaaDoor.Mem Go.Proofs.YtdlcjcobfckncaaDoor.Ints Go.Proofs.YtdlcjcobfckncaaDoor.Kep Go.Proofs.YtdlcjcobfckncaaDoor.Lls Go.Proofs.YtdlcjcobfckncaaDoor.Rpu Go.Proofs.YtdlcjcobfckncaaDoor.Krl Go.Proofs.YtdlcjcobfckncaaDoor.Sa Go.Proofs.YtdlcjcobfckncaaDoor.Sb Go.Proofs.YtdlcjcobfckncaaDoor.Sc Go.Proofs.YtdlcjcobfckncaaDoor.Sd Go.Proofs.YtdlcjcobfckncaaDoor.Mis Go.Proofs.YtdlcjcobfckncaaDoor.Told Go.Proofs.YtdlcjcobfckncaaDoor.Rel

theorem start2 {w : World} {ua ta : Option Addr} {un uc tn tc : Nat} {w7 : World} (hb7 : Below ((w.alloc (.cells #[.slice ua un uc, .slice ta tn tc] 60)).alloc (.cells #[.slice none 0 0, .slice none 0 0] 60)).heap.size ((w.alloc (.cells #[.slice ua un uc, .slice ta tn tc] 60)).alloc (.cells #[.slice none 0 0, .slice none 0 0] 60)) w7) :
    (w7.cell? ⟨w.heap.size, 0, none⟩ = some (.slice ua un uc) ∧ w7.cell? ⟨w.heap.size, 1, none⟩ = some (.slice ta tn tc)) ∧ (w7.cell? ⟨w.heap.size + 1, 0, none⟩ = some (.slice none 0 0) ∧ w7.cell? ⟨w.heap.size + 1, 1, none⟩ = some (.slice none 0 0) ∧ w7.frozen? ⟨w.heap.size + 1, 0, none⟩ = false ∧ w7.frozen? ⟨w.heap.size + 1, 1, none⟩ = false ∧ w.heap.size + 1 + 1 ≤ w7.heap.size) ∧ Below w.heap.size w w7 := by
  have hs2 : ((w.alloc (.cells #[.slice ua un uc, .slice ta tn tc] 60)).alloc (.cells #[.slice none 0 0, .slice none 0 0] 60)).heap.size = w.heap.size + 2 := by simp
  have B2 : Below w.heap.size w ((w.alloc (.cells #[.slice ua un uc, .slice ta tn tc] 60)).alloc (.cells #[.slice none 0 0, .slice none 0 0] 60)) := ((Below.refl _ _).alloc (Nat.le_refl _) _).alloc (by simp) _
  have bc := Frame.bcell hb7
  rw [hs2] at bc
  refine ⟨⟨?_, ?_⟩, ⟨?_, ?_, ?_, ?_, bc.2.2⟩, Frame.next B2 hb7 B2.size⟩
  · rw [bc.1 _ _ (by omega)]; go_simp
  · rw [bc.1 _ _ (by omega)]; go_simp
  · rw [bc.1 _ _ (by omega)]; go_simp
  · rw [bc.1 _ _ (by omega)]; go_simp
  · rw [bc.2.1 _ _ (by omega)]; go_simp
  · rw [bc.2.1 _ _ (by omega)]; go_simp
theorem told_none {w w1 : World} {b : Nat} {v0 v1 : Value} (hb : w.heap.size ≤ b) (hB : Below w.heap.size w w1) : RTold ([], []) false w (.returned (.tuple #[.agg #[.slice none 0 0, .slice none 0 0], .bool false])) ((w1.setCell ⟨b, 0, none⟩ v0).setCell ⟨b, 1, none⟩ v1) :=
  ⟨_, _, _, _, _, _, rfl, own_none _ _ _, (hB.setCell hb _).setCell hb _⟩
theorem choose_no {r : Rl} {x k n : Int} (h : chooseB r x k n = false) : chooseV r x k n = ([], []) ∧ chooseG r x k n = false := by
  unfold chooseV chooseG
  rw [h]
  exact ⟨rfl, rfl⟩
theorem choose_yes {r : Rl} {x k n : Int} (h : chooseB r x k n = true) : chooseV r x k n = tellV r.1 (chooseL r x k n) ∧ chooseG r x k n = tellG r.1 (chooseL r x k n) := by
  unfold chooseV chooseG
  rw [h]
  exact ⟨rfl, rfl⟩
def pickC (kind n : Int) (ix : Nat) (l : List LV) : List LV := l.filter fun z => cmpK kind (z.zs.getD ix 0) n
theorem pick_in {kind n : Int} {ix : Nat} {rs : List LV} {k : Nat} (h : k < rs.length) (e : cmpK kind ((rs.getD k ld).zs.getD ix 0) n = true) : pickC kind n ix (rs.take (k + 1)) = pickC kind n ix (rs.take k) ++ [rs.getD k ld] := by
  rw [take_succ_ld h]
  unfold pickC
  rw [List.filter_append, List.filter_cons, if_pos e]
  rfl
theorem pick_out {kind n : Int} {ix : Nat} {rs : List LV} {k : Nat} (h : k < rs.length) (e : cmpK kind ((rs.getD k ld).zs.getD ix 0) n = false) : pickC kind n ix (rs.take (k + 1)) = pickC kind n ix (rs.take k) := by
  rw [take_succ_ld h]
  unfold pickC
  rw [List.filter_append, List.filter_cons, if_neg (by rw [e]; exact Bool.false_ne_true)]
  simp
theorem lplain_pick (kind n : Int) (ix : Nat) (rs : List LV) : lplain (pickC kind n ix rs) = (lplain rs).filter fun t => cmpK kind (t.getD ix 0) n := by
  unfold pickC lplain
  rw [List.filter_map]
  rfl
theorem cmp_is {kind : Int} (hk : Val.inB kind 0 2 = true) (a b : Int) : (Cmp.cmpT kind false a false b == 2) = cmpK kind a b := by
  rcases Cmp.kind_cases hk with rfl | rfl | rfl <;> unfold Cmp.cmpT cmpK <;> simp <;> split <;> simp_all

set_option maxRecDepth 4000 in
set_option maxHeartbeats 6400000 in
theorem spec_Choose (u t : Value) (r : Rl) (x kind n : Int) (w : World) (h : QIs w u t r) : Calls Tryd.prog 34 #[.agg #[u, t], .int .i64 x, .int .i64 kind, .int .i64 n] w (RTold (chooseV r x kind n) (chooseG r x kind n) w) := by
  obtain ⟨i0, hi, hz0, hz1, hz2⟩ := info_parts infoL
  have HQ : Hid (QIs w u t r) := h
  obtain ⟨⟨ua, un, uc, rfl, hu, hun⟩, ta, tn, tc, rs, rfl, ht, hrs, htt⟩ := h
  have HU : Hid (IsRow .i64 w ua un uc r.1) := hu
  have HT : Hid (IsLs w ta tn tc rs) := ht
  have HRS : Hid (lplain rs = r.2) := hrs
  have HTL : Hid (rs.length = tn) := ht.len
  have HUL : Hid (r.1.length = un) := hu.len
  have B2 : Hid (Below w.heap.size w ((w.alloc (.cells #[.slice ua un uc, .slice ta tn tc] 60)).alloc (.cells #[.slice none 0 0, .slice none 0 0] 60))) := ((Below.refl _ _).alloc (Nat.le_refl _) _).alloc (by simp) _
  obtain ⟨jx, hjx⟩ : ∃ j, Lib.idxOf r.1 x = j := ⟨_, rfl⟩
  have HJX : Hid (Lib.idxOf r.1 x = jx) := hjx
  have HB : Hid (chooseB r x kind n = (goodR r.1 r.2 && decide (0 ≤ jx) && Val.inB kind 0 2 && Val.inB n (-1000) 1000)) := by show _ = _; unfold chooseB; rw [hjx]
  clear hu ht hrs htt hjx
  cases hg : goodR r.1 r.2
  · have HG : Hid (goodR r.1 r.2 = false) := hg
    have F : Hid (chooseV r x kind n = ([], []) ∧ chooseG r x kind n = false) := choose_no (by rw [HB.out, hg]; rfl)
    clear hg
    go_enter Tryd.func34, Tryd.ntmps34
    go_wp2_with fail
    refine (spec_l3At _ _ _ r.1 x _ (IsRow.below HU.out B2.out)).mono ?_
    rintro e w' ⟨rfl, hw'⟩; subst hw'
    rw [HJX.out]
    go_wp2_with fail
    refine (spec_GoodRelation _ _ r _ (qIs_below HQ.out B2.out)).mono ?_
    rintro e w1 ⟨rfl, hb1⟩
    rw [HG.out]
    obtain ⟨⟨d0, d1⟩, ⟨c0, c1, f0, f1, hs1⟩, b1⟩ := start2 hb1
    have B1 : Hid (Below w.heap.size w w1) := b1
    have C1 : Hid (w1.cell? ⟨w.heap.size + 1, 0, none⟩ = some (.slice none 0 0) ∧ w1.cell? ⟨w.heap.size + 1, 1, none⟩ = some (.slice none 0 0) ∧ w1.frozen? ⟨w.heap.size + 1, 0, none⟩ = false ∧ w1.frozen? ⟨w.heap.size + 1, 1, none⟩ = false ∧ w.heap.size + 1 + 1 ≤ w1.heap.size) := ⟨c0, c1, f0, f1, hs1⟩
    have D1 : Hid (w1.cell? ⟨w.heap.size, 0, none⟩ = some (.slice ua un uc) ∧ w1.cell? ⟨w.heap.size, 1, none⟩ = some (.slice ta tn tc)) := ⟨d0, d1⟩
    clear hb1 b1
    go_wp2
    refine bodyPost_ret (v := .tuple #[.agg #[.slice none 0 0, .slice none 0 0], .bool false]) (by simp [results, Tryd.results34, go_sem, c0, c1]) rfl ?_
    rw [F.out.1, F.out.2]
    exact told_none (by omega) B1.out
  · have HG : Hid (goodR r.1 r.2 = true) := hg
    have GG : Hid (Rel.Good r.1 r.2) := good_iff.1 hg
    have hfew : un ≤ 6 := by have := GG.out.few; rw [HUL.out] at this; exact this
    clear hg
    by_cases hjx0 : jx < 0
    · have F : Hid (chooseV r x kind n = ([], []) ∧ chooseG r x kind n = false) := choose_no (by rw [HB.out, decide_eq_false (show ¬ 0 ≤ jx by omega)]; simp)
      go_enter Tryd.func34, Tryd.ntmps34
      go_wp2_with fail
      refine (spec_l3At _ _ _ r.1 x _ (IsRow.below HU.out B2.out)).mono ?_
      rintro e w' ⟨rfl, hw'⟩; subst hw'
      rw [HJX.out]
      go_wp2_with fail
      refine (spec_GoodRelation _ _ r _ (qIs_below HQ.out B2.out)).mono ?_
      rintro e w1 ⟨rfl, hb1⟩
      rw [HG.out]
      obtain ⟨⟨d0, d1⟩, ⟨c0, c1, f0, f1, hs1⟩, b1⟩ := start2 hb1
      have B1 : Hid (Below w.heap.size w w1) := b1
      have C1 : Hid (w1.cell? ⟨w.heap.size + 1, 0, none⟩ = some (.slice none 0 0) ∧ w1.cell? ⟨w.heap.size + 1, 1, none⟩ = some (.slice none 0 0) ∧ w1.frozen? ⟨w.heap.size + 1, 0, none⟩ = false ∧ w1.frozen? ⟨w.heap.size + 1, 1, none⟩ = false ∧ w.heap.size + 1 + 1 ≤ w1.heap.size) := ⟨c0, c1, f0, f1, hs1⟩
      have D1 : Hid (w1.cell? ⟨w.heap.size, 0, none⟩ = some (.slice ua un uc) ∧ w1.cell? ⟨w.heap.size, 1, none⟩ = some (.slice ta tn tc)) := ⟨d0, d1⟩
      clear hb1 b1
      go_wp2
      refine bodyPost_ret (v := .tuple #[.agg #[.slice none 0 0, .slice none 0 0], .bool false]) (by simp [results, Tryd.results34, go_sem, c0, c1]) rfl ?_
      rw [F.out.1, F.out.2]
      exact told_none (by omega) B1.out
    · have hjx1 : 0 ≤ jx := by omega
      have HXM : Hid (x ∈ r.1) := (idx_nonneg _ _).1 (by rw [HJX.out]; exact hjx1)
      cases hdk : Val.inB kind 0 2
      · have HK : Hid (Val.inB kind 0 2 = false) := hdk
        have F : Hid (chooseV r x kind n = ([], []) ∧ chooseG r x kind n = false) := choose_no (by rw [HB.out, hdk]; simp)
        clear hdk
        go_enter Tryd.func34, Tryd.ntmps34
        go_wp2_with fail
        refine (spec_l3At _ _ _ r.1 x _ (IsRow.below HU.out B2.out)).mono ?_
        rintro e w' ⟨rfl, hw'⟩; subst hw'
        rw [HJX.out]
        go_wp2_with fail
        refine (spec_GoodRelation _ _ r _ (qIs_below HQ.out B2.out)).mono ?_
        rintro e w1 ⟨rfl, hb1⟩
        rw [HG.out]
        obtain ⟨⟨d0, d1⟩, ⟨c0, c1, f0, f1, hs1⟩, b1⟩ := start2 hb1
        have B1 : Hid (Below w.heap.size w w1) := b1
        have C1 : Hid (w1.cell? ⟨w.heap.size + 1, 0, none⟩ = some (.slice none 0 0) ∧ w1.cell? ⟨w.heap.size + 1, 1, none⟩ = some (.slice none 0 0) ∧ w1.frozen? ⟨w.heap.size + 1, 0, none⟩ = false ∧ w1.frozen? ⟨w.heap.size + 1, 1, none⟩ = false ∧ w.heap.size + 1 + 1 ≤ w1.heap.size) := ⟨c0, c1, f0, f1, hs1⟩
        have D1 : Hid (w1.cell? ⟨w.heap.size, 0, none⟩ = some (.slice ua un uc) ∧ w1.cell? ⟨w.heap.size, 1, none⟩ = some (.slice ta tn tc)) := ⟨d0, d1⟩
        clear hb1 b1
        go_wp2_with fail
        refine (Val.spec_In kind 0 2 _).mono ?_
        rintro e w' ⟨rfl, hw'⟩; have hw'' := hw'.symm; clear hw'; subst hw''
        rw [HK.out]
        go_wp2
        refine bodyPost_ret (v := .tuple #[.agg #[.slice none 0 0, .slice none 0 0], .bool false]) (by simp [results, Tryd.results34, go_sem, c0, c1]) rfl ?_
        rw [F.out.1, F.out.2]
        exact told_none (by omega) B1.out
      · have HK : Hid (Val.inB kind 0 2 = true) := hdk
        cases hdn : Val.inB n (-1000) 1000
        · have HN : Hid (Val.inB n (-1000) 1000 = false) := hdn
          have F : Hid (chooseV r x kind n = ([], []) ∧ chooseG r x kind n = false) := choose_no (by rw [HB.out, hdn]; simp)
          clear hdk hdn
          go_enter Tryd.func34, Tryd.ntmps34
          go_wp2_with fail
          refine (spec_l3At _ _ _ r.1 x _ (IsRow.below HU.out B2.out)).mono ?_
          rintro e w' ⟨rfl, hw'⟩; subst hw'
          rw [HJX.out]
          go_wp2_with fail
          refine (spec_GoodRelation _ _ r _ (qIs_below HQ.out B2.out)).mono ?_
          rintro e w1 ⟨rfl, hb1⟩
          rw [HG.out]
          obtain ⟨⟨d0, d1⟩, ⟨c0, c1, f0, f1, hs1⟩, b1⟩ := start2 hb1
          have B1 : Hid (Below w.heap.size w w1) := b1
          have C1 : Hid (w1.cell? ⟨w.heap.size + 1, 0, none⟩ = some (.slice none 0 0) ∧ w1.cell? ⟨w.heap.size + 1, 1, none⟩ = some (.slice none 0 0) ∧ w1.frozen? ⟨w.heap.size + 1, 0, none⟩ = false ∧ w1.frozen? ⟨w.heap.size + 1, 1, none⟩ = false ∧ w.heap.size + 1 + 1 ≤ w1.heap.size) := ⟨c0, c1, f0, f1, hs1⟩
          have D1 : Hid (w1.cell? ⟨w.heap.size, 0, none⟩ = some (.slice ua un uc) ∧ w1.cell? ⟨w.heap.size, 1, none⟩ = some (.slice ta tn tc)) := ⟨d0, d1⟩
          clear hb1 b1
          go_wp2_with fail
          refine (Val.spec_In kind 0 2 _).mono ?_
          rintro e w' ⟨rfl, hw'⟩; have hw'' := hw'.symm; clear hw'; subst hw''
          rw [HK.out]
          go_wp2_with fail
          refine (Val.spec_In n (-1000) 1000 _).mono ?_
          rintro e w' ⟨rfl, hw'⟩; have hw'' := hw'.symm; clear hw'; subst hw''
          rw [HN.out]
          go_wp2
          refine bodyPost_ret (v := .tuple #[.agg #[.slice none 0 0, .slice none 0 0], .bool false]) (by simp [results, Tryd.results34, go_sem, c0, c1]) rfl ?_
          rw [F.out.1, F.out.2]
          exact told_none (by omega) B1.out
        · have HN : Hid (Val.inB n (-1000) 1000 = true) := hdn
          have F : Hid (chooseV r x kind n = tellV r.1 (chooseL r x kind n) ∧ chooseG r x kind n = tellG r.1 (chooseL r x kind n)) := choose_yes (by rw [HB.out, hdn, hdk, HG.out, decide_eq_true hjx1]; rfl)
          have hmost : tn ≤ 60 := by
            have h1 := GG.out.most
            rw [← HRS.out, Sb.lplain_length, HTL.out] at h1
            exact h1
          have HRN : Hid (∀ x ∈ rs, x.zs.length = un) := fun x hx => by
            have h1 := GG.out.wide x.zs (by rw [← HRS.out]; exact List.mem_map_of_mem hx)
            rw [h1, HUL.out]
          obtain ⟨hil, hie, hig⟩ := idx_at HXM.out
          have hil' : (Lib.idxOf r.1 x).toNat < un := by rw [← HUL.out]; exact hil
          have HPL : Hid (lplain (pickC kind n (Lib.idxOf r.1 x).toNat rs) = chooseL r x kind n) := by show _ = _; rw [lplain_pick, HRS.out]; rfl
          have HIE : Hid (Lib.idxOf r.1 x = (((Lib.idxOf r.1 x).toNat : Nat) : Int)) := hie
          generalize (Lib.idxOf r.1 x).toNat = ix at HIE hil' HPL
          have HRP : Hid (∀ z ∈ pickC kind n ix rs, z.zs.length = un) := fun z hz => HRN.out z (List.mem_filter.1 hz).1
          clear hdk hdn hil hie hig HJX HB
          go_enter Tryd.func34, Tryd.ntmps34
          go_wp2_with fail
          refine (spec_l3At _ _ _ r.1 x _ (IsRow.below HU.out B2.out)).mono ?_
          rintro e w' ⟨rfl, hw'⟩; subst hw'
          rw [HIE.out]
          go_wp2_with fail
          refine (spec_GoodRelation _ _ r _ (qIs_below HQ.out B2.out)).mono ?_
          rintro e w1 ⟨rfl, hb1⟩
          rw [HG.out]
          obtain ⟨⟨d0, d1⟩, ⟨c0, c1, f0, f1, hs1⟩, b1⟩ := start2 hb1
          have B1 : Hid (Below w.heap.size w w1) := b1
          have C1 : Hid (w1.cell? ⟨w.heap.size + 1, 0, none⟩ = some (.slice none 0 0) ∧ w1.cell? ⟨w.heap.size + 1, 1, none⟩ = some (.slice none 0 0) ∧ w1.frozen? ⟨w.heap.size + 1, 0, none⟩ = false ∧ w1.frozen? ⟨w.heap.size + 1, 1, none⟩ = false ∧ w.heap.size + 1 + 1 ≤ w1.heap.size) := ⟨c0, c1, f0, f1, hs1⟩
          have D1 : Hid (w1.cell? ⟨w.heap.size, 0, none⟩ = some (.slice ua un uc) ∧ w1.cell? ⟨w.heap.size, 1, none⟩ = some (.slice ta tn tc)) := ⟨d0, d1⟩
          clear hb1 b1
          go_wp2_with fail
          refine (Val.spec_In kind 0 2 _).mono ?_
          rintro e w' ⟨rfl, hw'⟩; have hw'' := hw'.symm; clear hw'; subst hw''
          rw [HK.out]
          go_wp2_with fail
          refine (Val.spec_In n (-1000) 1000 _).mono ?_
          rintro e w' ⟨rfl, hw'⟩; have hw'' := hw'.symm; clear hw'; subst hw''
          rw [HN.out]
          clear c0 c1 f0 f1
          go_wp2_with fail
          clear d0 d1
          go_loopw [11, 39] (fun o i wr => ∃ (k m : Nat) (a' : Option Addr) (c' : Nat), k ≤ tn ∧ m ≤ k ∧ i = .int .i64 k ∧ o = .slice a' m c' ∧ wr.ownsRow w1.heap.size 55 1 (.slice a' m c') m (lcells (pickC kind n ix (rs.take k))) ∧ Below w1.heap.size w1 wr) (fun _ i _ => tn - (intOf i).toNat)
          case atStart => exact ⟨0, 0, none, 0, Nat.zero_le _, Nat.le_refl _, rfl, rfl, World.ownsRow_nil _ _ _ _, Below.refl _ _⟩
          case round =>
            obtain ⟨k, m, a', c', hk, hmk, rfl, rfl, ho, hnx⟩ := hrel
            have HO : Hid (wr.ownsRow w1.heap.size 55 1 (.slice a' m c') m (lcells (pickC kind n ix (rs.take k)))) := ho
            have HNX : Hid (Below w1.heap.size w1 wr) := hnx
            have HBW : Hid (Below w.heap.size w wr) := Frame.next B1.out hnx B1.out.size
            have hsr := hnx.size
            clear ho
            by_cases hlt : k < tn
            · obtain ⟨b', off, rfl, hbl, hc⟩ := HT.out.cells (by omega)
              have hkl : k < rs.length := by rw [HTL.out]; exact hlt
              have p0 : wr.cell? ⟨b', off + k, none⟩ = some (.slice (rs.getD k ld).a (rs.getD k ld).n (rs.getD k ld).c) := by rw [HBW.out.cell (p := ⟨b', off + k, none⟩) hbl]; exact hc k hlt
              have r1 := IsRow.below (HT.out.rows _ (getD_mem_ld hkl)) HBW.out
              have hln := HRN.out _ (getD_mem_ld hkl)
              have HIN : Hid (cmpK kind ((rs.getD k ld).zs.getD ix 0) n = true → pickC kind n ix (rs.take (k + 1)) = pickC kind n ix (rs.take k) ++ [rs.getD k ld]) := fun e => pick_in hkl e
              have HOUT : Hid (cmpK kind ((rs.getD k ld).zs.getD ix 0) n = false → pickC kind n ix (rs.take (k + 1)) = pickC kind n ix (rs.take k)) := fun e => pick_out hkl e
              generalize rs.getD k ld = z at p0 r1 hln HIN HOUT
              obtain ⟨xa, xn, xc, xs⟩ := z
              simp only at p0 r1 hln
              have hxn : xn = un := by rw [← r1.len]; exact hln
              subst hxn
              obtain ⟨xb, xo, rfl, hxb, hxc⟩ := r1.cells (by omega)
              have x0 : wr.cell? ⟨xb, xo + ix, none⟩ = some (.int .i64 (xs.getD ix 0)) := hxc ix hil'
              have HIN' : Hid (cmpK kind (xs.getD ix 0) n = true → pickC kind n ix (rs.take (k + 1)) = pickC kind n ix (rs.take k) ++ [⟨some ⟨xb, xo, none⟩, xn, xc, xs⟩]) := HIN.out
              have HOUT' : Hid (cmpK kind (xs.getD ix 0) n = false → pickC kind n ix (rs.take (k + 1)) = pickC kind n ix (rs.take k)) := HOUT.out
              generalize xs.getD ix 0 = v at x0 HIN' HOUT'
              have HC2 : Hid ((Cmp.cmpT kind false v false n == 2) = cmpK kind v n) := cmp_is HK.out v n
              have XA : Hid (0 < 1 → ∃ ad, (some ⟨wr.heap.size, 0, none⟩ : Option Addr) = some ad ∧ True) := fun _ => ⟨_, rfl, trivial⟩
              have R1 : Hid (IsRow .i64 wr (some ⟨xb, xo, none⟩) xn xc xs) := r1
              have hix0 : (0 : Int) ≤ (ix : Int) := by omega
              have hix1 : (ix : Int) < (xn : Int) := by omega
              clear hc hkl r1 HIN HOUT hnx hbl hln hxb hxc XA
              go_wp2_with fail
              refine (Cmp.spec_l1Compare kind false false v n _ HK.out).mono ?_
              rintro e w3 ⟨rfl, hb3⟩
              have B3 : Hid (Below w1.heap.size w1 w3) := Frame.next HNX.out hb3 hsr
              have O3' : Hid (w3.ownsRow w1.heap.size 55 1 (.slice a' m c') m (lcells (pickC kind n ix (rs.take k)))) := own_below HO.out hb3
              clear hb3 p0 x0
              generalize Cmp.cmpT kind false v false n = q at HC2 ⊢
              cases hv : cmpK kind v n
              · have FX : Hid (pickC kind n ix (rs.take (k + 1)) = pickC kind n ix (rs.take k)) := HOUT'.out hv
                have hq2 : (q == 2) = false := by rw [HC2.out, hv]
                clear hv HIN' HOUT' HC2
                go_wp2
                go_roundw
                case rel => exact ⟨k + 1, m, a', c', by omega, by omega, by go_num, rfl, by rw [FX.out]; exact O3'.out, B3.out⟩
                case measure => simp [intOf]; omega
              · have FX : Hid (pickC kind n ix (rs.take (k + 1)) = pickC kind n ix (rs.take k) ++ [⟨some ⟨xb, xo, none⟩, xn, xc, xs⟩]) := HIN'.out hv
                have hq2 : (q == 2) = true := by rw [HC2.out, hv]
                have O3 : Hid ((w3.alloc (.cells #[.slice (some ⟨xb, xo, none⟩) xn xc] 55)).ownsRow w1.heap.size 55 1 (.slice a' m c') m (lcells (pickC kind n ix (rs.take k)))) := own_below O3'.out ((Below.refl _ _).alloc (Nat.le_refl _) _)
                have N3 : Hid (Below w1.heap.size w1 (w3.alloc (.cells #[.slice (some ⟨xb, xo, none⟩) xn xc] 55))) := B3.out.alloc B3.out.size _
                have S3 : Hid (0 < 1 → ∃ ad, (some ⟨w3.heap.size, 0, none⟩ : Option Addr) = some ad ∧ ∀ j u, ([.slice (some ⟨xb, xo, none⟩) xn xc] : List Value)[j]? = some u → (w3.alloc (.cells #[.slice (some ⟨xb, xo, none⟩) xn xc] 55)).cell? (ad.add j) = some u) := news_one w3 _ _
                clear hv HIN' HOUT' HC2
                go_wp2_with (at_builtin; refine App.wpList_append_all _ rfl _ _ 56 rfl w1.heap.size 55 i0 (.slice none 0 0) 1 24 Tryd.underlying56 hi hz0 hz1 hz2 rfl (by decide) _ _ _ rfl O3.out _ 1 _ [.slice (some ⟨xb, xo, none⟩) xn xc] rfl rfl S3.out (by simp [Value.oneCell']) (by unfold maxLen; omega) (by omega) N3.out.size ?_)
                intro a4 c4 w4 hown4 hgrow4
                have O4 : Hid (w4.ownsRow w1.heap.size 55 1 (.slice a4 (m + 1) c4) (m + 1) (lcells (pickC kind n ix (rs.take (k + 1))))) := by show World.ownsRow _ _ _ _ _ _ _; rw [FX.out]; simpa [lcells, lcell] using hown4
                have N4 : Hid (Below w1.heap.size w1 w4) := below_app N3.out O3.out hgrow4 N3.out.size (Nat.le_refl _)
                clear hown4 hgrow4
                go_wp2
                go_roundw
                case rel => exact ⟨k + 1, m + 1, a4, c4, by omega, by omega, by go_num, rfl, O4.out, N4.out⟩
                case measure => simp [intOf]; omega
            · obtain rfl : k = tn := by omega
              have HO' : Hid (wr.ownsRow w1.heap.size 55 1 (.slice a' m c') m (lcells (pickC kind n ix rs))) := by have := HO.out; rwa [List.take_of_length_le (by rw [HTL.out]; omega)] at this
              have HL8 : Hid (IsLs wr a' m c' (pickC kind n ix rs)) := isLs_outer HO'.out (fun z hz => IsRow.below (HT.out.rows z (List.mem_filter.1 hz).1) HBW.out)
              have CW : Hid (wr.cell? ⟨w.heap.size + 1, 0, none⟩ = some (.slice none 0 0) ∧ wr.cell? ⟨w.heap.size + 1, 1, none⟩ = some (.slice none 0 0) ∧ wr.frozen? ⟨w.heap.size + 1, 0, none⟩ = false ∧ wr.frozen? ⟨w.heap.size + 1, 1, none⟩ = false ∧ w.heap.size + 1 + 1 ≤ wr.heap.size) := told_cells C1.out hnx
              have q0 : wr.cell? ⟨w.heap.size, 0, none⟩ = some (.slice ua un uc) := Frame.held_cell hnx D1.out.1
              have hsm : m * (un + 1) ≤ 1048576 := by
                have h1 : m * (un + 1) ≤ 60 * 7 := Nat.mul_le_mul (by omega) (by omega)
                omega
              clear hnx
              go_wp2_with fail
              refine (spec_l3Tell _ _ _ _ _ _ un r.1 (pickC kind n ix rs) _ (IsRow.below HU.out HBW.out) HL8.out (by omega) (by omega) (by omega) HRP.out hsm).mono ?_
              rintro e w8 ⟨pa, pn, pc, ya, yn, yc, rfl, hq8, hb8⟩
              rw [HPL.out] at hq8 ⊢
              obtain ⟨c0, c1, f0, f1, hs8⟩ := told_cells CW.out hb8
              have Q8 : Hid (QOwn w8 wr.heap.size w8.heap.size (.slice pa pn pc) (.slice ya yn yc) (tellV r.1 (chooseL r x kind n))) := hq8
              have B8 : Hid (Below w.heap.size w w8) := Frame.next HBW.out hb8 HBW.out.size
              clear hq8 hb8 q0
              go_wp2
              refine bodyPost_ret (v := .tuple #[.agg #[.slice pa pn pc, .slice ya yn yc], .bool (tellG r.1 (chooseL r x kind n))]) (by simp [results, Tryd.results34, go_sem, c0, c1]) rfl ?_
              rw [F.out.1, F.out.2]
              exact told_end (by omega) (by omega) CW.out.2.2.2.2 Q8.out B8.out


end Go.Proofs.YtdlcjcobfckncaaDoor.Sk
