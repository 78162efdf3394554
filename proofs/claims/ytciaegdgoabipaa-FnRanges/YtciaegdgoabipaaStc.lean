/-
  Contract of the model's SetColumn.
-/
import Derived.Test.YtciaegdgoabipaaStb
namespace Go.Proofs.Ytciaegdgoabipaa.Stc
open Go.RowKit
open Go.Proofs.Ytciaegdgoabipaa.Frame Go.Proofs.Ytciaegdgoabipaa.Mem Go.Proofs.Ytciaegdgoabipaa.Vals Go.Proofs.Ytciaegdgoabipaa.Rws Go.Proofs.Ytciaegdgoabipaa.Val Go.Proofs.Ytciaegdgoabipaa.Tab Go.Proofs.Ytciaegdgoabipaa.Reg Go.Proofs.Ytciaegdgoabipaa.Gtab Go.Proofs.Ytciaegdgoabipaa.Cpy Go.Proofs.Ytciaegdgoabipaa.Own Go.Proofs.Ytciaegdgoabipaa.Drp Go.Proofs.Ytciaegdgoabipaa.Tel Go.Proofs.Ytciaegdgoabipaa.Find Go.Proofs.Ytciaegdgoabipaa.Shf Go.Proofs.Ytciaegdgoabipaa.Icp Go.Proofs.Ytciaegdgoabipaa.Shl Go.Proofs.Ytciaegdgoabipaa.Pur Go.Proofs.Ytciaegdgoabipaa.Itb Go.Proofs.Ytciaegdgoabipaa.Itc Go.Proofs.Ytciaegdgoabipaa.Itd Go.Proofs.Ytciaegdgoabipaa.Spt

theorem set_at {rs : List RowV} (hR : Rising rs) {k : Nat} (hk : k < rs.length) (c : Nat) (x : Bool × Int) (q : RowV) (hq : q.key = (rs.getD k rd).key) (hv : q.vs = (rs.getD k rd).vs.set c x) :
    plain (rs.take k ++ q :: rs.drop (k + 1)) = plain (setK (rs.getD k rd).key c x rs) := by
  have e : rs = rs.take k ++ rs.getD k rd :: rs.drop (k + 1) := by rw [← drop_succ_rd hk, List.take_append_drop]
  have h1 := hR
  rw [e] at h1
  obtain ⟨_, p2, p3⟩ := List.pairwise_append.1 h1
  obtain ⟨p4, _⟩ := List.pairwise_cons.1 p2
  have ex : setK (rs.getD k rd).key c x rs = setK (rs.getD k rd).key c x (rs.take k ++ rs.getD k rd :: rs.drop (k + 1)) := by rw [← e]
  rw [ex]
  generalize rs.getD k rd = r at *
  unfold setK
  rw [List.map_append, List.map_cons]
  have e1 : (rs.take k).map (setR r.key c x) = rs.take k := by
    rw [List.map_congr_left (g := id), List.map_id]
    intro s hs
    have := p3 s hs r (by simp)
    unfold setR
    rw [if_neg (by omega)]
    rfl
  have e2 : (rs.drop (k + 1)).map (setR r.key c x) = rs.drop (k + 1) := by
    rw [List.map_congr_left (g := id), List.map_id]
    intro s hs
    have := p4 s hs
    unfold setR
    rw [if_neg (by omega)]
    rfl
  rw [e1, e2]
  simp [plain, setR, hq, hv]

set_option maxRecDepth 100000 in
set_option maxHeartbeats 1000000 in
theorem spec_SetColumn (a : Option Addr) (n cap : Nat) (rs : List RowV) (key col : Int) (vb : Bool) (vn : Int) (w : World) (h : IsRows w a n cap rs) (hn : n ≤ 1048576) (hv : ∀ r ∈ rs, r.n ≤ 1048576) (hx : (Lit.int .i64 vn).wf = true) :
    Calls Try.prog 27 #[.slice a n cap, .int .i64 key, .int .i64 col, .agg #[.bool vb, .int .i64 vn]] w (Tel.Told (setV key col (vb, vn) rs) (setB key col (vb, vn) rs) w) := by
  have HI : Hid (IsRows w a n cap rs) := h
  have HL : Hid (rs.length = n) := h.len
  have HV : Hid (∀ r ∈ rs, r.n ≤ 1048576) := hv
  have HWX : Hid ((Lit.int .i64 vn).wf = true) := hx
  have B0 : Hid (Below w.heap.size w (w.alloc (.cells #[.bool vb, .int .i64 vn] 45))) := (Below.refl _ _).alloc (Nat.le_refl _) _
  clear h hv hx
  go_enter Try.func27, Try.ntmps27
  go_wp2_with fail
  refine (spec_l2Find a n cap rs key _ (HI.out.below B0.out) hn).mono ?_
  rintro e w1 ⟨rfl, hb1⟩
  have HB1 : Hid (Below w.heap.size w w1) := Frame.next B0.out hb1 B0.out.size
  have hs1 : w.heap.size + 1 ≤ w1.heap.size := by simpa using hb1.size
  have C1 : Hid (w1.cell? ⟨w.heap.size, 0, none⟩ = some (.bool vb) ∧ w1.cell? ⟨w.heap.size, 1, none⟩ = some (.int .i64 vn)) := ⟨by rw [hb1.cell (p := ⟨w.heap.size, 0, none⟩) (by simp), World.cell?_alloc_at _ _ _ _ rfl]; rfl, by rw [hb1.cell (p := ⟨w.heap.size, 1, none⟩) (by simp), World.cell?_alloc_at _ _ _ _ rfl]; rfl⟩
  clear hb1
  go_wp2_with fail
  refine (spec_GoodTable a n cap rs _ (HI.out.below HB1.out) hn HV.out).mono ?_
  rintro e w2 ⟨rfl, hb2⟩
  have HB2 : Hid (Below w.heap.size w w2) := Frame.next HB1.out hb2 HB1.out.size
  have hs2 : w.heap.size + 1 ≤ w2.heap.size := Nat.le_trans hs1 hb2.size
  have c0 : w2.cell? ⟨w.heap.size, 0, none⟩ = some (.bool vb) := ((Frame.bcell hb2).1 _ _ (by omega)).trans C1.out.1
  have c1 : w2.cell? ⟨w.heap.size, 1, none⟩ = some (.int .i64 vn) := ((Frame.bcell hb2).1 _ _ (by omega)).trans C1.out.2
  clear hb2
  cases hg : goodT rs
  · have F : Hid (setV key col (vb, vn) rs = [] ∧ setB key col (vb, vn) rs = false) := by show _ ∧ _; unfold setV setB hasB; rw [hg]; exact ⟨rfl, rfl⟩
    clear hg
    go_wp2
    go_ret2
    rw [F.out.1, F.out.2]
    exact told_no HB2.out
  · have HG : Hid (goodT rs = true) := hg
    clear hg
    rcases find_is key rs with ⟨hf, _⟩ | ⟨k, hk, hf, hkk⟩
    · have F : Hid (setV key col (vb, vn) rs = [] ∧ setB key col (vb, vn) rs = false) := by show _ ∧ _; unfold setV setB hasB; rw [HG.out, hf]; exact ⟨rfl, rfl⟩
      rw [hf]
      clear hf
      go_wp2
      go_ret2
      rw [F.out.1, F.out.2]
      exact told_no HB2.out
    · have HAR : Hid (hasB key rs = true) := by show _ = _; unfold hasB; rw [HG.out, hf, decide_eq_true (by omega)]; rfl
      have HKK : Hid ((rs.getD k rd).key = key) := hkk
      rw [hf]
      have hkn : k < n := by rw [← HL.out]; exact hk
      have hk0 : ¬ ((k : Int) < 0) := by omega
      clear hf hkk
      cases hc : inB col 0 2
      · have F : Hid (setV key col (vb, vn) rs = [] ∧ setB key col (vb, vn) rs = false) := by show _ ∧ _; unfold setV setB; rw [HAR.out, hc]; exact ⟨rfl, rfl⟩
        have Hc : Hid (inB col 0 2 = false) := hc
        clear hc
        go_wp2_with fail
        refine (spec_In _ _ _ _).mono ?_
        rintro e w' ⟨rfl, rfl⟩
        rw [Hc.out]
        go_wp2
        go_ret2
        rw [F.out.1, F.out.2]
        exact told_no HB2.out
      · have hc2 : 0 ≤ col ∧ col ≤ 2 := of_decide_eq_true hc
        obtain ⟨cn, hcn⟩ : ∃ cn : Nat, col = (cn : Int) := ⟨col.toNat, by omega⟩
        subst hcn
        have HC : Hid (inB (cn : Int) 0 2 = true) := hc
        have hcn3 : cn < 3 := by omega
        clear hc hc2
        go_wp2_with fail
        refine (spec_In _ _ _ _).mono ?_
        rintro e w' ⟨rfl, rfl⟩
        rw [HC.out]
        go_wp2_with fail
        refine (spec_GoodValue vb vn _).mono ?_
        rintro e w3 ⟨rfl, hb3⟩
        have HB3 : Hid (Below w.heap.size w w3) := Frame.next HB2.out hb3 HB2.out.size
        have C3 : Hid (w3.cell? ⟨w.heap.size, 0, none⟩ = some (.bool vb) ∧ w3.cell? ⟨w.heap.size, 1, none⟩ = some (.int .i64 vn)) := ⟨((Frame.bcell hb3).1 _ _ (by omega)).trans c0, ((Frame.bcell hb3).1 _ _ (by omega)).trans c1⟩
        have hs3 : w.heap.size + 1 ≤ w3.heap.size := Nat.le_trans hs2 hb3.size
        clear hb3 c0 c1
        cases hv : goodV vb vn
        · have F : Hid (setV key cn (vb, vn) rs = [] ∧ setB key cn (vb, vn) rs = false) := by show _ ∧ _; unfold setV setB gv; rw [HAR.out, HC.out, hv]; exact ⟨rfl, rfl⟩
          clear hv
          go_wp2
          go_ret2
          rw [F.out.1, F.out.2]
          exact told_no HB3.out
        · have HSB : Hid (setB key cn (vb, vn) rs = true) := by show _ = _; unfold setB gv; rw [HAR.out, HC.out, hv]; rfl
          clear hv
          go_wp2_with fail
          refine (spec_l2Own a n cap rs _ (HI.out.below HB3.out) hn HV.out).mono ?_
          rintro e w4 ⟨a4, c4, qs, rfl, hp, ho4, hb4⟩
          have HB4 : Hid (Below w.heap.size w w4) := Frame.next HB3.out hb4 HB3.out.size
          have d0 : w4.cell? ⟨w.heap.size, 0, none⟩ = some (.bool vb) := ((Frame.bcell hb4).1 _ _ (by omega)).trans C3.out.1
          have d1 : w4.cell? ⟨w.heap.size, 1, none⟩ = some (.int .i64 vn) := ((Frame.bcell hb4).1 _ _ (by omega)).trans C3.out.2
          have hql : k < qs.length := by rw [length_plain hp]; exact hk
          have hgq : goodT qs = true := by rw [goodT_plain hp]; exact HG.out
          have hR := (goodT_rising hgq).1
          have hrB := (goodT_rising hgq).2.1 _ (getD_mem_rd hql)
          have hvl : (qs.getD k rd).vs.length = 3 := by unfold rB rowB at hrB; simp only [Bool.and_eq_true, decide_eq_true_eq] at hrB; exact hrB.2.2
          have hin := ho4.inner _ (getD_mem_rd hql)
          have hqn : (qs.getD k rd).n = 3 := by have := hin.1; rw [vcells_length, hvl] at this; omega
          have hkey : (qs.getD k rd).key = key := by rw [(getD_plain hp k).1]; exact HKK.out
          obtain ⟨g0, rfl⟩ : ∃ g, a4 = some ⟨g, 0, none⟩ := by
            rcases ho4.outer.2 with ⟨h2, h3⟩ | ⟨g, cap', cur, hv', _⟩
            · omega
            · simp only [Value.slice.injEq] at hv'
              exact ⟨g, hv'.1⟩
          obtain ⟨g, hg⟩ : ∃ g, (qs.getD k rd).a = some ⟨g, 0, none⟩ := by
            rcases hin.2 with ⟨h2, h3⟩ | ⟨g, cap', cur, hv', _⟩
            · omega
            · simp only [Value.slice.injEq] at hv'
              exact ⟨g, hv'.1⟩
          have hlen : qs.length = n := by rw [length_plain hp]; exact HL.out
          have p1 : w4.cell? ⟨g0, k * 2 + 1, none⟩ = some (.slice (some ⟨g, 0, none⟩) 3 (qs.getD k rd).c) := by
            have h1 := (rcells_get qs k hql).2
            rw [hg, hqn] at h1
            rw [ho4.outer.cellAt _ (by omega)]
            exact h1
          have hfar : g0 ≠ g := ho4.apart0 _ (getD_mem_rd hql) _ _ rfl hg
          have hb0 : w3.heap.size ≤ g0 := (own_block ho4.outer _ rfl).1
          have hin2 := hin
          rw [hg, hqn] at hin2
          have hbg : w3.heap.size ≤ g := (own_block hin2 _ rfl).1
          have k0 := hin2.frozenAt (cn * 2)
          have k1 := hin2.frozenAt (cn * 2 + 1)
          have hvc : (vcells (qs.getD k rd).vs).length = 6 := by rw [vcells_length, hvl]
          obtain ⟨o0, ho0⟩ : ∃ o, w4.cell? ⟨g, cn * 2, none⟩ = some o := by rw [hin2.cellAt _ (by omega)]; exact ⟨_, List.getElem?_eq_getElem (by omega)⟩
          obtain ⟨o1, ho1⟩ : ∃ o, w4.cell? ⟨g, cn * 2 + 1, none⟩ = some o := by rw [hin2.cellAt _ (by omega)]; exact ⟨_, List.getElem?_eq_getElem (by omega)⟩
          have hst := ((hin2.stored (cn * 2) (.bool vb)).1.stored (cn * 2 + 1) (.int .i64 vn)).1
          rw [vcells_set _ _ (vb, vn) (by omega)] at hst
          have hot : OnlyAt (some ⟨g, 0, none⟩) w4 ((w4.setCell ⟨g, cn * 2, none⟩ (.bool vb)).setCell ⟨g, cn * 2 + 1, none⟩ (.int .i64 vn)) := ((OnlyAt.refl _ w4).setCell (fun y hy => by cases hy; rfl) (by simp) _).setCell (fun y hy => by cases hy; rfl) (by simp) _
          have HOT : Hid (OnlyAt (some ⟨g, 0, none⟩) w4 ((w4.setCell ⟨g, cn * 2, none⟩ (.bool vb)).setCell ⟨g, cn * 2 + 1, none⟩ (.int .i64 vn))) := hot
          have eq : qs = qs.take k ++ qs.getD k rd :: qs.drop (k + 1) := by rw [← drop_succ_rd hql, List.take_append_drop]
          have HT : Hid (Tel.Told (setV key cn (vb, vn) rs) (setB key cn (vb, vn) rs) w (.returned (.tuple #[.slice (some ⟨g0, 0, none⟩) n c4, .bool true])) ((w4.setCell ⟨g, cn * 2, none⟩ (.bool vb)).setCell ⟨g, cn * 2 + 1, none⟩ (.int .i64 vn))) := by
            show Tel.Told _ _ _ _ _
            have hO : OwnRows w4 w3.heap.size (some ⟨g0, 0, none⟩) n c4 (qs.take k ++ qs.getD k rd :: qs.drop (k + 1)) := by rw [← eq]; exact ho4
            have hO2 := OwnRows.setVals (w' := (w4.setCell ⟨g, cn * 2, none⟩ (.bool vb)).setCell ⟨g, cn * 2 + 1, none⟩ (.int .i64 vn)) (vs := (qs.getD k rd).vs.set cn (vb, vn)) hO (by rw [hg]; exact hot) (by rw [hg, hqn]; exact hst) (mem_set_wf (ho4.wf _ (getD_mem_rd hql)).2 HWX.out)
            rw [HSB.out]
            refine ⟨_, _, _, _, rfl, ?_, OwnRows.mono hO2 (by omega), (HB4.out.setCell (by show w.heap.size ≤ g; omega) _).setCell (by show w.heap.size ≤ g; omega) _⟩
            rw [set_at hR hql cn (vb, vn) ⟨(qs.getD k rd).key, (qs.getD k rd).a, (qs.getD k rd).n, (qs.getD k rd).c, (qs.getD k rd).vs.set cn (vb, vn)⟩ rfl rfl, hkey]
            unfold setV
            rw [if_pos HSB.out, setK_plain key _ _ hp]
            rfl
          have hcI : (cn : Int) < 3 := by omega
          have hcJ : (0 : Int) ≤ (cn : Int) := by omega
          have hkI : (k : Int) < (n : Int) := by omega
          have hkJ : (0 : Int) ≤ (k : Int) := by omega
          have hgw : g ≠ w.heap.size := by omega
          generalize (qs.getD k rd).c = qc at p1
          clear hst hot eq hin hin2 hvl hrB hR hgq hqn hkey hg hp ho4 hb4 hvc hlen hql
          have K3 : Hid (((w4.setCell ⟨g, cn * 2, none⟩ (.bool vb)).setCell ⟨g, cn * 2 + 1, none⟩ (.int .i64 vn)).drew.cell? ⟨g0, k * 2 + 1, none⟩ = some (.slice (some ⟨g, 0, none⟩) 3 qc) ∧ ((w4.setCell ⟨g, cn * 2, none⟩ (.bool vb)).setCell ⟨g, cn * 2 + 1, none⟩ (.int .i64 vn)).drew.cell? ⟨w.heap.size, 0, none⟩ = some (.bool vb) ∧ ((w4.setCell ⟨g, cn * 2, none⟩ (.bool vb)).setCell ⟨g, cn * 2 + 1, none⟩ (.int .i64 vn)).drew.cell? ⟨w.heap.size, 1, none⟩ = some (.int .i64 vn)) := by
            show _ ∧ _ ∧ _
            simp only [World.cell?_drew]
            exact ⟨(HOT.out.cell (Frame.cell_lt p1) (fun x hx => by cases hx; exact hfar)).trans p1, (HOT.out.cell (Frame.cell_lt d0) (fun x hx => by cases hx; exact hgw.symm)).trans d0, (HOT.out.cell (Frame.cell_lt d1) (fun x hx => by cases hx; exact hgw.symm)).trans d1⟩
          go_wp2_with fail
          go_region_held3 (fun w' => w'.cell? ⟨g0, k * 2 + 1, none⟩ = some (.slice (some ⟨g, 0, none⟩) 3 qc) ∧ w'.cell? ⟨w.heap.size, 0, none⟩ = some (.bool vb) ∧ w'.cell? ⟨w.heap.size, 1, none⟩ = some (.int .i64 vn)) (first | exact K3.out | go_keep) (fail)
          go_wp2
          go_ret2
          obtain ⟨a5, m5, c5, ps, he, hp, ho, hb5⟩ := HT.out
          exact ⟨a5, m5, c5, ps, he, hp, OwnRows.below ho (Below.refl _ _).drew, hb5.drew⟩


end Go.Proofs.Ytciaegdgoabipaa.Stc
