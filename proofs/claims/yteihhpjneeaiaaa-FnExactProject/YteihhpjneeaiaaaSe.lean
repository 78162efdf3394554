/-
  Contract of the model's Project.
-/
import Derived.Test.YteihhpjneeaiaaaSd
namespace Go.Proofs.Yteihhpjneeaiaaa.Se
open Go.RowKit
open Go.Proofs.Yteihhpjneeaiaaa.Frame Go.Proofs.Yteihhpjneeaiaaa.Mem Go.Proofs.Yteihhpjneeaiaaa.Ints Go.Proofs.Yteihhpjneeaiaaa.Kep Go.Proofs.Yteihhpjneeaiaaa.Lls Go.Proofs.Yteihhpjneeaiaaa.Rpu Go.Proofs.Yteihhpjneeaiaaa.Krl Go.Proofs.Yteihhpjneeaiaaa.Sa Go.Proofs.Yteihhpjneeaiaaa.Sb Go.Proofs.Yteihhpjneeaiaaa.Sc Go.Proofs.Yteihhpjneeaiaaa.Sd Go.Proofs.Yteihhpjneeaiaaa.Mis Go.Proofs.Yteihhpjneeaiaaa.Told Go.Proofs.Yteihhpjneeaiaaa.Rel

theorem project_no {r : Rl} {names : List Int} (h : projectB r names = false) : projectV r names = ([], []) ∧ projectG r names = false := by
  unfold projectV projectG
  rw [h]
  exact ⟨rfl, rfl⟩
theorem project_yes {r : Rl} {names : List Int} (h : projectB r names = true) : projectV r names = tellV names (projectL r names) ∧ projectG r names = tellG names (projectL r names) := by
  unfold projectV projectG
  rw [h]
  exact ⟨rfl, rfl⟩
theorem sub_mem {ns ws : List Int} (h : subB ns ws = true) : ∀ z ∈ ws, z ∈ ns := by
  unfold subB at h
  rw [Bool.and_eq_true, List.all_eq_true] at h
  intro z hz
  exact (idx_nonneg ns z).1 (of_decide_eq_true (h.1 z hz))
theorem sub_up {ns ws : List Int} (h : subB ns ws = true) : UpN ws := by
  unfold subB riseB at h
  rw [Bool.and_eq_true, Bool.and_eq_true, decide_eq_true_eq] at h
  exact h.2.2
/-- Names that rise within other names that rise are as many at most. -/
theorem up_few {ws ns : List Int} (hw : UpN ws) (hn : UpN ns) (h : ∀ z ∈ ws, z ∈ ns) : ws.length ≤ ns.length := by
  induction ns generalizing ws with
  | nil =>
    cases ws with
    | nil => exact Nat.le_refl _
    | cons x ws => exact absurd (h x (by simp)) (by simp)
  | cons n ns ih =>
    unfold UpN at hn
    rw [List.pairwise_cons] at hn
    cases ws with
    | nil => simp
    | cons x ws =>
      unfold UpN at hw
      have hw' := hw
      rw [List.pairwise_cons] at hw
      rcases List.mem_cons.1 (h x (by simp)) with rfl | hx
      · have := ih (ws := ws) hw.2 hn.2 (fun z hz => by
          rcases List.mem_cons.1 (h z (by simp [hz])) with rfl | h'
          · have := hw.1 _ hz; omega
          · exact h')
        simp only [List.length_cons]
        omega
      · have := ih (ws := x :: ws) hw' hn.2 (fun z hz => by
          rcases List.mem_cons.1 (h z hz) with rfl | h'
          · have h1 := hn.1 x hx
            rcases List.mem_cons.1 hz with rfl | h2
            · omega
            · have := hw.1 _ h2; omega
          · exact h')
        simp only [List.length_cons] at *
        omega
theorem lplain_len {rs : List LV} : (lplain rs).length = rs.length := by simp [lplain]

set_option maxRecDepth 4000 in
set_option maxHeartbeats 3200000 in
theorem spec_Project (u t v : Value) (r : Rl) (ws : List Int) (w : World) (h : QIs w u t r) (hv : IIs w v ws) : Calls Try.prog 11 #[.agg #[u, t], v] w (RTold (projectV r ws) (projectG r ws) w) := by
  obtain ⟨i0, hi, hz0, hz1, hz2⟩ := info_parts infoL
  have HQ : Hid (QIs w u t r) := h
  obtain ⟨⟨ua, un, uc, rfl, hu, hun⟩, ta, tn, tc, rs, rfl, ht, hrs, htt⟩ := h
  obtain ⟨va, vn, vc, rfl, hw, hvn⟩ := hv
  have HU : Hid (IsRow .i64 w ua un uc r.1) := hu
  have HT : Hid (IsLs w ta tn tc rs) := ht
  have HW : Hid (IsRow .i64 w va vn vc ws) := hw
  have HRS : Hid (lplain rs = r.2) := hrs
  have HTL : Hid (rs.length = tn) := ht.len
  have HUL : Hid (r.1.length = un) := hu.len
  have HWL : Hid (ws.length = vn) := hw.len
  have hs2 : ((w.alloc (.cells #[.slice ua un uc, .slice ta tn tc] 28)).alloc (.cells #[.slice none 0 0, .slice none 0 0] 28)).heap.size = w.heap.size + 2 := by simp
  have B2 : Hid (Below w.heap.size w ((w.alloc (.cells #[.slice ua un uc, .slice ta tn tc] 28)).alloc (.cells #[.slice none 0 0, .slice none 0 0] 28))) := ((Below.refl _ _).alloc (Nat.le_refl _) _).alloc (by simp) _
  have D : Hid (∀ w7, Below ((w.alloc (.cells #[.slice ua un uc, .slice ta tn tc] 28)).alloc (.cells #[.slice none 0 0, .slice none 0 0] 28)).heap.size ((w.alloc (.cells #[.slice ua un uc, .slice ta tn tc] 28)).alloc (.cells #[.slice none 0 0, .slice none 0 0] 28)) w7 → w7.cell? ⟨w.heap.size, 0, none⟩ = some (.slice ua un uc) ∧ w7.cell? ⟨w.heap.size, 1, none⟩ = some (.slice ta tn tc) ∧ w7.cell? ⟨w.heap.size + 1, 0, none⟩ = some (.slice none 0 0) ∧ w7.cell? ⟨w.heap.size + 1, 1, none⟩ = some (.slice none 0 0) ∧ w7.frozen? ⟨w.heap.size + 1, 0, none⟩ = false ∧ w7.frozen? ⟨w.heap.size + 1, 1, none⟩ = false ∧ w.heap.size + 2 ≤ w7.heap.size) := fun w7 hb7 => by
    have bc := Frame.bcell hb7
    rw [hs2] at bc
    refine ⟨?_, ?_, ?_, ?_, ?_, ?_, bc.2.2⟩
    · rw [bc.1 _ _ (by omega)]; go_simp
    · rw [bc.1 _ _ (by omega)]; go_simp
    · rw [bc.1 _ _ (by omega)]; go_simp
    · rw [bc.1 _ _ (by omega)]; go_simp
    · rw [bc.2.1 _ _ (by omega)]; go_simp
    · rw [bc.2.1 _ _ (by omega)]; go_simp
  clear hu ht hw hrs htt
  cases hg : goodR r.1 r.2
  · have HG : Hid (goodR r.1 r.2 = false) := hg
    have F : Hid (projectV r ws = ([], []) ∧ projectG r ws = false) := project_no (by unfold projectB; rw [hg]; rfl)
    clear hg
    go_enter Try.func11, Try.ntmps11
    go_wp2_with fail
    refine (spec_GoodRelation _ _ r _ (qIs_below HQ.out B2.out)).mono ?_
    rintro e w1 ⟨rfl, hb1⟩
    rw [HG.out]
    obtain ⟨d0, d1, c0, c1, f0, f1, hs1⟩ := D.out w1 hb1
    have B1 : Hid (Below w.heap.size w w1) := Frame.next B2.out hb1 B2.out.size
    clear hb1
    go_wp2
    refine bodyPost_ret (v := .tuple #[.agg #[.slice none 0 0, .slice none 0 0], .bool false]) (by simp [results, Try.results11, go_sem, c0, c1]) rfl ?_
    rw [F.out.1, F.out.2]
    exact ⟨_, _, _, _, _, _, rfl, own_none _ _ _, (B1.out.setCell (by show w.heap.size ≤ w.heap.size + 1; omega) _).setCell (by show w.heap.size ≤ w.heap.size + 1; omega) _⟩
  · have HG : Hid (goodR r.1 r.2 = true) := hg
    have GG : Hid (Rel.Good r.1 r.2) := good_iff.1 hg
    cases hs : subB r.1 ws
    · have HS : Hid (subB r.1 ws = false) := hs
      have F : Hid (projectV r ws = ([], []) ∧ projectG r ws = false) := project_no (by unfold projectB; rw [hs, Bool.and_false])
      clear hg hs
      go_enter Try.func11, Try.ntmps11
      go_wp2_with fail
      refine (spec_GoodRelation _ _ r _ (qIs_below HQ.out B2.out)).mono ?_
      rintro e w1 ⟨rfl, hb1⟩
      rw [HG.out]
      obtain ⟨d0, d1, c0, c1, f0, f1, hs1⟩ := D.out w1 hb1
      have B1 : Hid (Below w.heap.size w w1) := Frame.next B2.out hb1 B2.out.size
      clear hb1
      go_wp2_with fail
      refine (spec_l3Sub _ _ _ _ _ _ r.1 ws _ (IsRow.below HU.out B1.out) (IsRow.below HW.out B1.out)).mono ?_
      rintro e w' ⟨rfl, rfl⟩
      rw [HS.out]
      go_wp2
      refine bodyPost_ret (v := .tuple #[.agg #[.slice none 0 0, .slice none 0 0], .bool false]) (by simp [results, Try.results11, go_sem, c0, c1]) rfl ?_
      rw [F.out.1, F.out.2]
      exact ⟨_, _, _, _, _, _, rfl, own_none _ _ _, (B1.out.setCell (by show w.heap.size ≤ w.heap.size + 1; omega) _).setCell (by show w.heap.size ≤ w.heap.size + 1; omega) _⟩
    · have HS : Hid (subB r.1 ws = true) := hs
      have F : Hid (projectV r ws = tellV ws (projectL r ws) ∧ projectG r ws = tellG ws (projectL r ws)) := project_yes (by unfold projectB; rw [hg, hs]; rfl)
      have HSM : Hid (∀ z ∈ ws, z ∈ r.1) := sub_mem hs
      have hfew : vn ≤ 6 := by
        have h1 := up_few (sub_up hs) GG.out.upN (sub_mem hs)
        have h2 := GG.out.few
        rw [HWL.out] at h1
        omega
      have hmost : tn ≤ 60 := by
        have h1 := GG.out.most
        rw [← HRS.out, lplain_len, HTL.out] at h1
        exact h1
      have HRN : Hid (∀ x ∈ rs, x.zs.length = un) := fun x hx => by
        have h1 := GG.out.wide x.zs (by rw [← HRS.out]; exact List.mem_map_of_mem hx)
        rw [h1, HUL.out]
      clear hg hs
      go_enter Try.func11, Try.ntmps11
      go_wp2_with fail
      refine (spec_GoodRelation _ _ r _ (qIs_below HQ.out B2.out)).mono ?_
      rintro e w1 ⟨rfl, hb1⟩
      rw [HG.out]
      obtain ⟨d0, d1, c0, c1, f0, f1, hs1⟩ := D.out w1 hb1
      have C1 : Hid (w1.cell? ⟨w.heap.size, 0, none⟩ = some (.slice ua un uc) ∧ w1.cell? ⟨w.heap.size, 1, none⟩ = some (.slice ta tn tc) ∧ w1.cell? ⟨w.heap.size + 1, 0, none⟩ = some (.slice none 0 0) ∧ w1.cell? ⟨w.heap.size + 1, 1, none⟩ = some (.slice none 0 0) ∧ w1.frozen? ⟨w.heap.size + 1, 0, none⟩ = false ∧ w1.frozen? ⟨w.heap.size + 1, 1, none⟩ = false) := ⟨d0, d1, c0, c1, f0, f1⟩
      have B1 : Hid (Below w.heap.size w w1) := Frame.next B2.out hb1 B2.out.size
      clear hb1
      go_wp2_with fail
      refine (spec_l3Sub _ _ _ _ _ _ r.1 ws _ (IsRow.below HU.out B1.out) (IsRow.below HW.out B1.out)).mono ?_
      rintro e w' ⟨rfl, rfl⟩
      rw [HS.out]
      go_wp2_with fail
      clear c0 c1 f0 f1 d0 d1
      go_loopw [6, 23] (fun o i wr => ∃ (k : Nat) (a' : Option Addr) (c' : Nat) (xs : List LV), k ≤ tn ∧ i = .int .i64 k ∧ o = .slice a' k c' ∧ wr.ownsRow w'.heap.size 22 1 (.slice a' k c') k (lcells xs) ∧ (∀ x ∈ xs, OwnR wr w'.heap.size x) ∧ lplain xs = (lplain (rs.take k)).map (fun x => pick r.1 x ws) ∧ Below w'.heap.size w' wr) (fun _ i _ => tn - (intOf i).toNat)
      case atStart => exact ⟨0, none, 0, [], Nat.zero_le _, rfl, rfl, World.ownsRow_nil _ _ _ _, by simp, rfl, Below.refl _ _⟩
      case round =>
        obtain ⟨k, a', c', xs, hk, rfl, rfl, ho, hrows, hpl, hnx⟩ := hrel
        have HO : Hid (wr.ownsRow w'.heap.size 22 1 (.slice a' k c') k (lcells xs)) := ho
        have HR : Hid (∀ x ∈ xs, OwnR wr w'.heap.size x) := hrows
        have HP : Hid (lplain xs = (lplain (rs.take k)).map (fun x => pick r.1 x ws)) := hpl
        have HNX : Hid (Below w'.heap.size w' wr) := hnx
        have HBW : Hid (Below w.heap.size w wr) := Frame.next B1.out hnx B1.out.size
        have hsr := hnx.size
        have q0 : wr.cell? ⟨w.heap.size, 0, none⟩ = some (.slice ua un uc) := Frame.held_cell hnx C1.out.1
        clear ho hrows hpl
        by_cases hlt : k < tn
        · obtain ⟨b, off, rfl, hbl, hc⟩ := HT.out.cells (by omega)
          have hkl : k < rs.length := by rw [HTL.out]; exact hlt
          have p0 : wr.cell? ⟨b, off + k, none⟩ = some (.slice (rs.getD k ld).a (rs.getD k ld).n (rs.getD k ld).c) := by rw [HBW.out.cell (p := ⟨b, off + k, none⟩) hbl]; exact hc k hlt
          have hrow := IsRow.below (HT.out.rows _ (getD_mem_ld hkl)) HBW.out
          have hln := HRN.out _ (getD_mem_ld hkl)
          have hts := take_succ_ld hkl
          generalize rs.getD k ld = x at p0 hrow hln hts
          obtain ⟨xa, xn, xc, xzs⟩ := x
          simp only at p0 hrow hln
          have HX : Hid (IsRow .i64 wr xa xn xc xzs) := hrow
          have HXN : Hid (xn = un) := by show _ = _; rw [← hrow.len]; exact hln
          have HTS : Hid (rs.take (k + 1) = rs.take k ++ [⟨xa, xn, xc, xzs⟩]) := hts
          clear hc hkl hrow hln hts hnx
          go_wp2_with fail
          refine (spec_l3Pick _ _ _ _ _ _ _ _ _ r.1 xzs ws _ (IsRow.below HU.out HBW.out) HX.out (IsRow.below HW.out HBW.out) (by omega) HXN.out HSM.out).mono ?_
          rintro e w3 ⟨a3, c3, rfl, ho3, hw3, hb3⟩
          have B3 : Hid (Below w'.heap.size w' w3) := Frame.next HNX.out hb3 hsr
          have O3 : Hid ((w3.alloc (.cells #[.slice a3 vn c3] 22)).ownsRow w'.heap.size 22 1 (.slice a' k c') k (lcells xs)) := own_below (own_below HO.out hb3) ((Below.refl _ _).alloc (Nat.le_refl _) _)
          have N3 : Hid (Below w'.heap.size w' (w3.alloc (.cells #[.slice a3 vn c3] 22))) := B3.out.alloc B3.out.size _
          have S3 : Hid (0 < 1 → ∃ ad, (some ⟨w3.heap.size, 0, none⟩ : Option Addr) = some ad ∧ ∀ j u, ([.slice a3 vn c3] : List Value)[j]? = some u → (w3.alloc (.cells #[.slice a3 vn c3] 22)).cell? (ad.add j) = some u) := news_one w3 _ _
          have R3 : Hid (∀ x ∈ xs ++ [⟨a3, vn, c3, pick r.1 xzs ws⟩], OwnR (w3.alloc (.cells #[.slice a3 vn c3] 22)) w'.heap.size x) := fun x hx => by
            rcases List.mem_append.1 hx with hx | hx
            · exact ownR_below (ownR_below (HR.out x hx) hb3) ((Below.refl _ _).alloc (Nat.le_refl _) _)
            · rw [List.mem_singleton.1 hx]
              exact ownR_below ⟨own_base ho3 hsr, hw3⟩ ((Below.refl _ _).alloc (Nat.le_refl _) _)
          clear ho3 hw3 hb3 q0 p0
          go_wp2_with (at_builtin; refine App.wpList_append_all _ rfl _ _ 23 rfl w'.heap.size 22 i0 (.slice none 0 0) 1 24 Try.underlying23 hi hz0 hz1 hz2 rfl (by decide) _ _ _ rfl O3.out _ 1 _ [.slice a3 vn c3] rfl rfl S3.out (by simp [Value.oneCell']) (by unfold maxLen; omega) (by omega) N3.out.size ?_)
          intro a4 c4 w4 hown4 hgrow4
          have O4 : Hid (w4.ownsRow w'.heap.size 22 1 (.slice a4 (k + 1) c4) (k + 1) (lcells (xs ++ [⟨a3, vn, c3, pick r.1 xzs ws⟩]))) := by show World.ownsRow _ _ _ _ _ _ _; simpa [lcells, lcell] using hown4
          have N4 : Hid (Below w'.heap.size w' w4) := below_app N3.out O3.out hgrow4 N3.out.size (Nat.le_refl _)
          have R4 : Hid (∀ x ∈ xs ++ [⟨a3, vn, c3, pick r.1 xzs ws⟩], OwnR w4 w'.heap.size x) := fun x hx => ownR_kept (R3.out x hx) O3.out hgrow4
          clear hown4 hgrow4
          go_wp2
          go_roundw
          case rel =>
            refine ⟨k + 1, a4, c4, xs ++ [⟨a3, vn, c3, pick r.1 xzs ws⟩], by omega, by go_num, rfl, O4.out, R4.out, ?_, N4.out⟩
            rw [HTS.out]
            have hh := HP.out
            simp only [lplain, List.map_append] at *
            rw [hh]
            rfl
          case measure => simp [intOf]; omega
        · obtain rfl : k = tn := by omega
          have HPF : Hid (lplain xs = projectL r ws) := by
            have := HP.out
            rw [List.take_of_length_le (by rw [HTL.out]; omega), HRS.out] at this
            exact this
          have HL8 : Hid (IsLs wr a' k c' xs) := isLs_outer HO.out (fun x hx => ownR_is (HR.out x hx))
          have HXL : Hid (∀ x ∈ xs, x.zs.length = vn) := fun x hx => by
            have h1 : x.zs ∈ lplain xs := List.mem_map_of_mem hx
            rw [HPF.out] at h1
            obtain ⟨y, _, e⟩ := List.mem_map.1 h1
            rw [← e, pick_length, HWL.out]
          have CW : Hid (wr.cell? ⟨w.heap.size + 1, 0, none⟩ = some (.slice none 0 0) ∧ wr.cell? ⟨w.heap.size + 1, 1, none⟩ = some (.slice none 0 0) ∧ wr.frozen? ⟨w.heap.size + 1, 0, none⟩ = false ∧ wr.frozen? ⟨w.heap.size + 1, 1, none⟩ = false ∧ w.heap.size + 2 ≤ wr.heap.size) := by
            have bc := Frame.bcell hnx
            obtain ⟨_, _, c0, c1, f0, f1⟩ := C1.out
            exact ⟨by rw [bc.1 _ _ (by omega)]; exact c0, by rw [bc.1 _ _ (by omega)]; exact c1, by rw [bc.2.1 _ _ (by omega)]; exact f0, by rw [bc.2.1 _ _ (by omega)]; exact f1, by omega⟩
          clear hnx hlt hk q0
          have hsm : k * (vn + 1) ≤ 1048576 := by
            have h1 : k * (vn + 1) ≤ 60 * 7 := Nat.mul_le_mul hmost (by omega)
            omega
          go_wp2_with fail
          refine (spec_l3Tell _ _ _ _ _ _ vn ws xs _ (IsRow.below HW.out HBW.out) HL8.out (by omega) (by omega) (by omega) HXL.out hsm).mono ?_
          rintro e w8 ⟨pa, pn, pc, sa, sn, sc, rfl, hq8, hb8⟩
          rw [HPF.out] at hq8 ⊢
          obtain ⟨c0, c1, f0, f1, hs8⟩ := told_cells CW.out hb8
          have Q8 : Hid (QOwn w8 wr.heap.size w8.heap.size (.slice pa pn pc) (.slice sa sn sc) (tellV ws (projectL r ws))) := hq8
          have B8 : Hid (Below w.heap.size w w8) := Frame.next HBW.out hb8 HBW.out.size
          clear hq8 hb8
          go_wp2
          refine bodyPost_ret (v := .tuple #[.agg #[.slice pa pn pc, .slice sa sn sc], .bool (tellG ws (projectL r ws))]) (by simp [results, Try.results11, go_sem, c0, c1]) rfl ?_
          rw [F.out.1, F.out.2]
          exact told_end (by omega) (by omega) CW.out.2.2.2.2 Q8.out B8.out


end Go.Proofs.Yteihhpjneeaiaaa.Se
