/-
  Contract of the program's Project.
-/
import Derived.Test.YthhldnlbneamiaaOe
import Derived.Test.YthhldnlbneamiaaOf
namespace Go.Proofs.Ythhldnlbneamiaa.Og
open Go.RowKit
open Go.Proofs.Ythhldnlbneamiaa.Frame Go.Proofs.Ythhldnlbneamiaa.Mem Go.Proofs.Ythhldnlbneamiaa.Ints Go.Proofs.Ythhldnlbneamiaa.Kep Go.Proofs.Ythhldnlbneamiaa.Lls Go.Proofs.Ythhldnlbneamiaa.Rpu Go.Proofs.Ythhldnlbneamiaa.Krl Go.Proofs.Ythhldnlbneamiaa.Oa Go.Proofs.Ythhldnlbneamiaa.Ob Go.Proofs.Ythhldnlbneamiaa.Oe Go.Proofs.Ythhldnlbneamiaa.Of Go.Proofs.Ythhldnlbneamiaa.Told Go.Proofs.Ythhldnlbneamiaa.Rel

theorem project_no {r : Rl} {names : List Int} (h : projectB r names = false) : projectV r names = ([], []) ∧ projectG r names = false := by
  unfold projectV projectG
  rw [h]
  exact ⟨rfl, rfl⟩
theorem project_yes {r : Rl} {names : List Int} (h : projectB r names = true) : projectV r names = tellV names (projectL r names) ∧ projectG r names = tellG names (projectL r names) := by
  unfold projectV projectG
  rw [h]
  exact ⟨rfl, rfl⟩
theorem sub_is {r : Rl} {ws : List Int} (h : Rel.Good r.1 r.2) : subB r.1 ws = true ↔ UpN ws ∧ ∀ z ∈ ws, z ∈ r.1 := by
  unfold subB riseB
  rw [Bool.and_eq_true, Bool.and_eq_true, List.all_eq_true, allI_iff, decide_eq_true_eq]
  constructor
  · rintro ⟨h1, _, h3⟩
    exact ⟨h3, fun z hz => (idx_nonneg r.1 z).1 (of_decide_eq_true (h1 z hz))⟩
  · rintro ⟨h1, h2⟩
    exact ⟨fun z hz => decide_eq_true ((idx_nonneg r.1 z).2 (h2 z hz)), fun z hz => h.inN z (h2 z hz), h1⟩
theorem project_not {r : Rl} {ws : List Int} (h : Rel.Good r.1 r.2) (hn : ¬ (UpN ws ∧ ∀ z ∈ ws, z ∈ r.1)) : projectB r ws = false := by
  unfold projectB
  have : subB r.1 ws = false := by rw [Bool.eq_false_iff]; exact fun hh => hn ((sub_is h).1 hh)
  rw [this, Bool.and_false]
theorem project_is {r : Rl} {ws : List Int} (h : Rel.Good r.1 r.2) (hn : UpN ws ∧ ∀ z ∈ ws, z ∈ r.1) : projectB r ws = true := by
  unfold projectB
  rw [good_iff.2 h, (sub_is h).2 hn]
  rfl
theorem up_few {ws ns : List Int} (hw : UpN ws) (hn : UpN ns) (h : ∀ z ∈ ws, z ∈ ns) : ws.length ≤ ns.length := by
  induction ns generalizing ws with
  | nil =>
    cases ws with
    | nil => exact Nat.le_refl _
    | cons x ws => exact absurd (h x (by simp)) (by simp)
  | cons n ns ih =>
    unfold UpN at hn
    rw [List.pairwise_cons] at hn
    cases ws with
    | nil => simp
    | cons x ws =>
      unfold UpN at hw
      have hw' := hw
      rw [List.pairwise_cons] at hw
      rcases List.mem_cons.1 (h x (by simp)) with rfl | hx
      · have := ih (ws := ws) hw.2 hn.2 (fun z hz => by
          rcases List.mem_cons.1 (h z (by simp [hz])) with rfl | h'
          · have := hw.1 _ hz; omega
          · exact h')
        simp only [List.length_cons]
        omega
      · have := ih (ws := x :: ws) hw' hn.2 (fun z hz => by
          rcases List.mem_cons.1 (h z hz) with rfl | h'
          · have h1 := hn.1 x hx
            rcases List.mem_cons.1 hz with rfl | h2
            · omega
            · have := hw.1 _ h2; omega
          · exact h')
        simp only [List.length_cons] at *
        omega

/-- What the functions that begin with a relation in a box and an answer in one are told at the start. -/
theorem start2 {w : World} {ua ta : Option Addr} {un uc tn tc : Nat} {w7 : World} (hb7 : Below ((w.alloc (.cells #[.slice ua un uc, .slice ta tn tc] 33)).alloc (.cells #[.slice none 0 0, .slice none 0 0] 33)).heap.size ((w.alloc (.cells #[.slice ua un uc, .slice ta tn tc] 33)).alloc (.cells #[.slice none 0 0, .slice none 0 0] 33)) w7) :
    (w7.cell? ⟨w.heap.size, 0, none⟩ = some (.slice ua un uc) ∧ w7.cell? ⟨w.heap.size, 1, none⟩ = some (.slice ta tn tc)) ∧ (w7.cell? ⟨w.heap.size + 1, 0, none⟩ = some (.slice none 0 0) ∧ w7.cell? ⟨w.heap.size + 1, 1, none⟩ = some (.slice none 0 0) ∧ w7.frozen? ⟨w.heap.size + 1, 0, none⟩ = false ∧ w7.frozen? ⟨w.heap.size + 1, 1, none⟩ = false ∧ w.heap.size + 1 + 1 ≤ w7.heap.size) ∧ Below w.heap.size w w7 := by
  have hs2 : ((w.alloc (.cells #[.slice ua un uc, .slice ta tn tc] 33)).alloc (.cells #[.slice none 0 0, .slice none 0 0] 33)).heap.size = w.heap.size + 2 := by simp
  have B2 : Below w.heap.size w ((w.alloc (.cells #[.slice ua un uc, .slice ta tn tc] 33)).alloc (.cells #[.slice none 0 0, .slice none 0 0] 33)) := ((Below.refl _ _).alloc (Nat.le_refl _) _).alloc (by simp) _
  have bc := Frame.bcell hb7
  rw [hs2] at bc
  refine ⟨⟨?_, ?_⟩, ⟨?_, ?_, ?_, ?_, bc.2.2⟩, Frame.next B2 hb7 B2.size⟩
  · rw [bc.1 _ _ (by omega)]; go_simp
  · rw [bc.1 _ _ (by omega)]; go_simp
  · rw [bc.1 _ _ (by omega)]; go_simp
  · rw [bc.1 _ _ (by omega)]; go_simp
  · rw [bc.2.1 _ _ (by omega)]; go_simp
  · rw [bc.2.1 _ _ (by omega)]; go_simp
theorem told_none {w w1 : World} {b : Nat} {v0 v1 : Value} (hb : w.heap.size ≤ b) (hB : Below w.heap.size w w1) : RTold ([], []) false w (.returned (.tuple #[.agg #[.slice none 0 0, .slice none 0 0], .bool false])) ((w1.setCell ⟨b, 0, none⟩ v0).setCell ⟨b, 1, none⟩ v1) :=
  ⟨_, _, _, _, _, _, rfl, own_none _ _ _, (hB.setCell hb _).setCell hb _⟩

set_option maxRecDepth 4000 in
set_option maxHeartbeats 3200000 in
theorem impl_Project (u t v : Value) (r : Rl) (ws : List Int) (w : World) (h : QIs w u t r) (hv : IIs w v ws) : Calls Try.prog 135 #[.agg #[u, t], v] w (RTold (projectV r ws) (projectG r ws) w) := by
  have HQ : Hid (QIs w u t r) := h
  obtain ⟨⟨ua, un, uc, rfl, hu, hun⟩, ta, tn, tc, rs, rfl, ht, hrs, htt⟩ := h
  obtain ⟨va, vn, vc, rfl, hw, hvn⟩ := hv
  have HU : Hid (IsRow .i64 w ua un uc r.1) := hu
  have HT : Hid (IsLs w ta tn tc rs) := ht
  have HW : Hid (IsRow .i64 w va vn vc ws) := hw
  have HRS : Hid (lplain rs = r.2) := hrs
  have HTL : Hid (rs.length = tn) := ht.len
  have HUL : Hid (r.1.length = un) := hu.len
  have HWL : Hid (ws.length = vn) := hw.len
  have B2 : Hid (Below w.heap.size w ((w.alloc (.cells #[.slice ua un uc, .slice ta tn tc] 33)).alloc (.cells #[.slice none 0 0, .slice none 0 0] 33))) := ((Below.refl _ _).alloc (Nat.le_refl _) _).alloc (by simp) _
  clear hu ht hw hrs htt
  cases hg : goodR r.1 r.2
  · have HG : Hid (goodR r.1 r.2 = false) := hg
    have F : Hid (projectV r ws = ([], []) ∧ projectG r ws = false) := project_no (by unfold projectB; rw [hg]; rfl)
    clear hg
    go_enter Try.func135, Try.ntmps135
    go_wp2_with fail
    refine (impl_GoodRelation _ _ r _ (qIs_below HQ.out B2.out)).mono ?_
    rintro e w1 ⟨rfl, hb1⟩
    rw [HG.out]
    obtain ⟨⟨d0, d1⟩, ⟨c0, c1, f0, f1, hs1⟩, b1⟩ := start2 hb1
    have B1 : Hid (Below w.heap.size w w1) := b1
    clear hb1 b1
    go_wp2
    refine bodyPost_ret (v := .tuple #[.agg #[.slice none 0 0, .slice none 0 0], .bool false]) (by simp [results, Try.results135, go_sem, c0, c1]) rfl ?_
    rw [F.out.1, F.out.2]
    exact told_none (by omega) B1.out
  · have HG : Hid (goodR r.1 r.2 = true) := hg
    have GG : Hid (Rel.Good r.1 r.2) := good_iff.1 hg
    clear hg
    cases hd : decide (UpN ws)
    · have HD : Hid (decide (UpN ws) = false) := hd
      have F : Hid (projectV r ws = ([], []) ∧ projectG r ws = false) := project_no (project_not GG.out (fun hh => of_decide_eq_false hd hh.1))
      clear hd
      go_enter Try.func135, Try.ntmps135
      go_wp2_with fail
      refine (impl_GoodRelation _ _ r _ (qIs_below HQ.out B2.out)).mono ?_
      rintro e w1 ⟨rfl, hb1⟩
      rw [HG.out]
      obtain ⟨⟨d0, d1⟩, ⟨c0, c1, f0, f1, hs1⟩, b1⟩ := start2 hb1
      have C1 : Hid (w1.cell? ⟨w.heap.size + 1, 0, none⟩ = some (.slice none 0 0) ∧ w1.cell? ⟨w.heap.size + 1, 1, none⟩ = some (.slice none 0 0) ∧ w1.frozen? ⟨w.heap.size + 1, 0, none⟩ = false ∧ w1.frozen? ⟨w.heap.size + 1, 1, none⟩ = false ∧ w.heap.size + 1 + 1 ≤ w1.heap.size) := ⟨c0, c1, f0, f1, hs1⟩
      have B1 : Hid (Below w.heap.size w w1) := b1
      clear hb1 b1 c0 c1 f0 f1 d0 d1
      go_wp2_with fail
      refine (rises_int _ _ _ ws _ (IsRow.below HW.out B1.out)).mono ?_
      rintro e w3 ⟨rfl, hb3⟩
      rw [HD.out]
      obtain ⟨c0, c1, f0, f1, hs3⟩ := told_cells C1.out hb3
      have B3 : Hid (Below w.heap.size w w3) := Frame.next B1.out hb3 B1.out.size
      clear hb3
      go_wp2
      refine bodyPost_ret (v := .tuple #[.agg #[.slice none 0 0, .slice none 0 0], .bool false]) (by simp [results, Try.results135, go_sem, c0, c1]) rfl ?_
      rw [F.out.1, F.out.2]
      exact told_none (by omega) B3.out
    · have HD : Hid (decide (UpN ws) = true) := hd
      have HUP : Hid (UpN ws) := (of_decide_eq_true hd : UpN ws)
      have hmost : tn ≤ 60 := by
        have h1 := GG.out.most
        rw [← HRS.out, Oa.lplain_length, HTL.out] at h1
        exact h1
      have HRN : Hid (∀ x ∈ rs, x.zs.length = un) := fun x hx => by
        have h1 := GG.out.wide x.zs (by rw [← HRS.out]; exact List.mem_map_of_mem hx)
        rw [h1, HUL.out]
      clear hd
      go_enter Try.func135, Try.ntmps135
      go_wp2_with fail
      refine (impl_GoodRelation _ _ r _ (qIs_below HQ.out B2.out)).mono ?_
      rintro e w1 ⟨rfl, hb1⟩
      rw [HG.out]
      obtain ⟨⟨d0, d1⟩, ⟨c0, c1, f0, f1, hs1⟩, b1⟩ := start2 hb1
      have C1 : Hid (w1.cell? ⟨w.heap.size + 1, 0, none⟩ = some (.slice none 0 0) ∧ w1.cell? ⟨w.heap.size + 1, 1, none⟩ = some (.slice none 0 0) ∧ w1.frozen? ⟨w.heap.size + 1, 0, none⟩ = false ∧ w1.frozen? ⟨w.heap.size + 1, 1, none⟩ = false ∧ w.heap.size + 1 + 1 ≤ w1.heap.size) := ⟨c0, c1, f0, f1, hs1⟩
      have D1 : Hid (w1.cell? ⟨w.heap.size, 0, none⟩ = some (.slice ua un uc) ∧ w1.cell? ⟨w.heap.size, 1, none⟩ = some (.slice ta tn tc)) := ⟨d0, d1⟩
      have B1 : Hid (Below w.heap.size w w1) := b1
      clear hb1 b1 c0 c1 f0 f1 d0 d1
      go_wp2_with fail
      refine (rises_int _ _ _ ws _ (IsRow.below HW.out B1.out)).mono ?_
      rintro e w3 ⟨rfl, hb3⟩
      rw [HD.out]
      obtain ⟨c0, c1, f0, f1, hs3⟩ := told_cells C1.out hb3
      have d0 : w3.cell? ⟨w.heap.size, 0, none⟩ = some (.slice ua un uc) := Frame.held_cell hb3 D1.out.1
      have d1 : w3.cell? ⟨w.heap.size, 1, none⟩ = some (.slice ta tn tc) := Frame.held_cell hb3 D1.out.2
      have C3 : Hid (w3.cell? ⟨w.heap.size + 1, 0, none⟩ = some (.slice none 0 0) ∧ w3.cell? ⟨w.heap.size + 1, 1, none⟩ = some (.slice none 0 0) ∧ w3.frozen? ⟨w.heap.size + 1, 0, none⟩ = false ∧ w3.frozen? ⟨w.heap.size + 1, 1, none⟩ = false ∧ w.heap.size + 1 + 1 ≤ w3.heap.size) := ⟨c0, c1, f0, f1, hs3⟩
      have B3 : Hid (Below w.heap.size w w3) := Frame.next B1.out hb3 B1.out.size
      have HCs : Hid (0 < vn → ∃ b off, va = some ⟨b, off, none⟩ ∧ b < w3.heap.size ∧ ∀ i, i < vn → w3.cell? ⟨b, off + i, none⟩ = some (.int .i64 (ws.getD i 0))) := (IsRow.below HW.out B3.out).cells
      clear hb3
      go_wp2_with fail
      go_loop [19] (fun i => ∃ k : Nat, k ≤ vn ∧ i = .int .i64 k ∧ ∀ z ∈ ws.take k, z ∈ r.1) (fun i => vn - (intOf i).toNat)
      case atStart => exact ⟨0, Nat.zero_le _, rfl, by simp⟩
      case round =>
        obtain ⟨k, hk, rfl, hall⟩ := hrel
        have Hall : Hid (∀ z ∈ ws.take k, z ∈ r.1) := hall
        clear hall
        by_cases hlt : k < vn
        · obtain ⟨b, off, rfl, hbl, hc⟩ := HCs.out (by omega)
          have hck := hc k hlt
          have hkl : k < ws.length := by rw [HWL.out]; exact hlt
          have HX : Hid ((ws.getD k 0 ∈ r.1 → ∀ z ∈ ws.take (k + 1), z ∈ r.1) ∧ (ws.getD k 0 ∉ r.1 → ¬ (UpN ws ∧ ∀ z ∈ ws, z ∈ r.1))) := by
            refine ⟨fun h z hz => ?_, fun h hh => h (hh.2 _ (getD_mem hkl))⟩
            rw [take_succ_getD hkl] at hz
            rcases List.mem_append.1 hz with hz | hz
            · exact Hall.out z hz
            · rw [List.mem_singleton.1 hz]; exact h
          generalize ws.getD k 0 = x at hck HX
          clear hc hkl
          cases hv : decide (x ∈ r.1)
          · have HV : Hid (decide (x ∈ r.1) = false) := hv
            have F : Hid (projectV r ws = ([], []) ∧ projectG r ws = false) := project_no (project_not GG.out (HX.out.2 (of_decide_eq_false hv)))
            clear hv HX
            go_wp2_with fail
            refine (has_int _ _ _ r.1 x _ (IsRow.below HU.out B3.out) hun GG.out.upN).mono ?_
            rintro e w' ⟨rfl, rfl⟩
            rw [HV.out]
            go_wp2
            refine bodyPost_ret (v := .tuple #[.agg #[.slice none 0 0, .slice none 0 0], .bool false]) (by simp [results, Try.results135, go_sem, c0, c1]) rfl ?_
            rw [F.out.1, F.out.2]
            exact told_none (by omega) B3.out
          · have HV : Hid (decide (x ∈ r.1) = true) := hv
            have FX : Hid (∀ z ∈ ws.take (k + 1), z ∈ r.1) := HX.out.1 (of_decide_eq_true hv)
            clear hv HX
            go_wp2_with fail
            refine (has_int _ _ _ r.1 x _ (IsRow.below HU.out B3.out) hun GG.out.upN).mono ?_
            rintro e w' ⟨rfl, rfl⟩
            rw [HV.out]
            go_wp2_with fail
            go_round
            case rel => exact ⟨k + 1, by omega, by go_num, FX.out⟩
            case measure => simp [intOf]; omega
        · have HSM : Hid (∀ z ∈ ws, z ∈ r.1) := by
            have hh := Hall.out
            rwa [List.take_of_length_le (by rw [HWL.out]; omega)] at hh
          have F : Hid (projectV r ws = tellV ws (projectL r ws) ∧ projectG r ws = tellG ws (projectL r ws)) := project_yes (project_is GG.out ⟨HUP.out, HSM.out⟩)
          have hfew : vn ≤ 6 := by
            have h1 := up_few HUP.out GG.out.upN HSM.out
            have h2 := GG.out.few
            rw [HWL.out] at h1
            omega
          have hsm : tn * (vn + 1) ≤ 1048576 := by
            have h1 : tn * (vn + 1) ≤ 60 * 7 := Nat.mul_le_mul hmost (by omega)
            omega
          have HPL : Hid ((lplain rs).map (fun x => pick r.1 x ws) = projectL r ws) := by show _ = _; rw [HRS.out]; rfl
          clear Hall
          go_wp2_with fail
          refine (impl_underNames _ _ _ _ _ _ _ _ _ r.1 ws rs _ (IsRow.below HU.out B3.out) (HT.out.below B3.out) (IsRow.below HW.out B3.out) (by omega) (by omega) hsm HRN.out HSM.out).mono ?_
          rintro e w8 ⟨pa, pn, pc, sa, sn, sc, rfl, hq8, hb8⟩
          rw [HPL.out] at hq8 ⊢
          clear c0 c1 f0 f1 d0 d1
          obtain ⟨c0, c1, f0, f1, hs8⟩ := told_cells C3.out hb8
          have Q8 : Hid (QOwn w8 w3.heap.size w8.heap.size (.slice pa pn pc) (.slice sa sn sc) (tellV ws (projectL r ws))) := hq8
          have B8 : Hid (Below w.heap.size w w8) := Frame.next B3.out hb8 B3.out.size
          clear hq8 hb8
          go_wp2
          refine bodyPost_ret (v := .tuple #[.agg #[.slice pa pn pc, .slice sa sn sc], .bool (tellG ws (projectL r ws))]) (by simp [results, Try.results135, go_sem, c0, c1]) rfl ?_
          rw [F.out.1, F.out.2]
          exact told_end (by omega) (by omega) hs3 Q8.out B8.out


end Go.Proofs.Ythhldnlbneamiaa.Og
