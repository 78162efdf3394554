/-
  The first bad list of columns: contracts of BadIn, of the model and of the program.
-/
import Derived.Test.YthhldnlbneamiaaBsq
import Derived.Test.YthhldnlbneamiaaLsa
import Derived.Deep.LoopGhost
import Derived.Deep.DeepCutAuto
import Derived.Test.YthhldnlbneamiaaIvb
namespace Go.Proofs.Ythhldnlbneamiaa.Bsr
open Go.RowKit
open Go.Proofs.Ythhldnlbneamiaa.Frame Go.Proofs.Ythhldnlbneamiaa.Mem Go.Proofs.Ythhldnlbneamiaa.Ints Go.Proofs.Ythhldnlbneamiaa.Kep Go.Proofs.Ythhldnlbneamiaa.Lls Go.Proofs.Ythhldnlbneamiaa.Mis Go.Proofs.Ythhldnlbneamiaa.Dls Go.Proofs.Ythhldnlbneamiaa.Dlk Go.Proofs.Ythhldnlbneamiaa.Csa Go.Proofs.Ythhldnlbneamiaa.Csb Go.Proofs.Ythhldnlbneamiaa.Csc Go.Proofs.Ythhldnlbneamiaa.Csd Go.Proofs.Ythhldnlbneamiaa.Csf Go.Proofs.Ythhldnlbneamiaa.Csg Go.Proofs.Ythhldnlbneamiaa.Ssc Go.Proofs.Ythhldnlbneamiaa.Spx Go.Proofs.Ythhldnlbneamiaa.Spy Go.Proofs.Ythhldnlbneamiaa.Bpu Go.Proofs.Ythhldnlbneamiaa.Bsp Go.Proofs.Ythhldnlbneamiaa.Bsq
open Go.Proofs.Ythhldnlbneamiaa.Rel hiding Ll
open Go.Proofs.Ythhldnlbneamiaa.Cpu hiding Dp

theorem bad_no {cols : Int} {ds : List Dp} {ps : List Int} (h : closG cols ds ps = false) : badV cols ds ps = ([], []) ∧ badG cols ds ps = false := by
  unfold badV badG
  rw [h]
  exact ⟨rfl, rfl⟩
theorem bad_yes {cols : Int} {ds : List Dp} {ps : List Int} (h : closG cols ds ps = true) : badV cols ds ps = badO ds ps (badF ds ps) ∧ badG cols ds ps = (badF ds ps).isSome := by
  unfold badV badG
  rw [h]
  exact ⟨rfl, rfl⟩
theorem clos_of {cols : Int} {ds : List Dp} {ps : List Int} (h : closG cols ds ps = true) : goodD cols ds = true ∧ Cols ds ∧ UpN ps ∧ InC ps ∧ 1 ≤ cols ∧ cols ≤ 6 ∧ ∀ z ∈ ps, z < cols := by
  unfold closG at h
  rw [Bool.and_eq_true] at h
  obtain ⟨hg, hr⟩ := h
  have hc := cols_of hg
  exact ⟨hg, hc.1, (rise_iff.1 hr).2, rise_cols hr hc.2.2.1, hc.2.1, hc.2.2.1, fun z hz => by have := (rise_iff.1 hr).1 z hz; omega⟩
theorem depR_more {w w1 w2 : World} {d : Dp} {b : Nat} {ok : Bool} {ua ta : Option Addr} {un uc tn tc : Nat} (h : EOwn w2 w1.heap.size w2.heap.size (.slice ua un uc) (.slice ta tn tc) d) (hb : b < w1.heap.size) (hw : w.heap.size ≤ b) (hB : Below w.heap.size w w2) (v0 v1 : Value) : DepR d ok w (.returned (.tuple #[.agg #[.slice ua un uc, .slice ta tn tc], .bool ok])) ((w2.setCell ⟨b, 0, none⟩ v0).setCell ⟨b, 1, none⟩ v1) :=
  ⟨_, _, _, _, _, _, rfl, eOwn_wide (eOwn_set (eOwn_set h _ _ hb) _ _ hb) (by omega) (by simp), (hB.setCell hw _).setCell hw _⟩

set_option maxRecDepth 4000 in
set_option maxHeartbeats 3200000 in
theorem spec_BadIn (cols : Int) (v z : Value) (ds : List Dp) (ps : List Int) (w : World) (h : DIs w v ds) (hz : IIs w z ps) :
    Calls Try.prog 36 #[.int .i64 cols, v, z] w (DepR (badV cols ds ps) (badG cols ds ps) w) := by
  obtain ⟨za, zn, zc, rfl, hzr, hzn⟩ := hz
  have b0 : Below w.heap.size w (w.alloc (.cells #[.slice none 0 0, .slice none 0 0] 26)) := (Below.refl w.heap.size w).alloc (Nat.le_refl _) _
  have hD := dIs_below h b0
  have hR := IsRow.below hzr b0
  have hN := Nob.made w 26
  clear h hzr
  go_enter Try.func36, Try.ntmps36
  go_wp2_with fail
  generalize (w.alloc (.cells #[.slice none 0 0, .slice none 0 0] 26)) = V at b0 hD hR hN ⊢
  have B0 : Hid (Below w.heap.size w V) := b0
  have HD : Hid (DIs V v ds) := hD
  have HR : Hid (IsRow .i64 V za zn zc ps) := hR
  have HN : Hid (Nob V w.heap.size) := hN
  clear b0 hD hR hN
  refine (l6Part cols v za zn zc ds ps _ HD.out HR.out).mono ?_
  rintro e w1 ⟨rfl, hb1⟩
  have B1 : Hid (Below w.heap.size w w1) := Frame.next B0.out hb1 B0.out.size
  have C1 : Hid (Below V.heap.size V w1) := hb1
  obtain ⟨c0, c1, f0, f1⟩ := HN.out.below hb1
  have N1 : Hid (Nob w1 w.heap.size) := ⟨c0, c1, f0, f1⟩
  clear hb1
  cases hG : closG cols ds ps
  · have E : Hid (badV cols ds ps = ([], []) ∧ badG cols ds ps = false) := bad_no hG
    clear hG
    go_wp2
    refine bodyPost_ret (v := .tuple #[.agg #[.slice none 0 0, .slice none 0 0], .bool false]) (by simp [results, Try.results36, go_sem, c0, c1]) rfl ?_
    rw [E.out.1, E.out.2]
    exact depR_no (Nat.le_refl _) B1.out
  · have E : Hid (badV cols ds ps = badO ds ps (badF ds ps) ∧ badG cols ds ps = (badF ds ps).isSome) := bad_yes hG
    obtain ⟨hg, hc, hu, hp, _, _, _⟩ := clos_of hG
    have HC : Hid (Cols ds) := hc
    have HU : Hid (UpN ps) := hu
    have HP : Hid (InC ps) := hp
    have HLT : Hid (w.heap.size < w1.heap.size) := Frame.cell_lt c0
    clear hG hg hc hu hp c0 c1 f0 f1
    go_wp2_with fail
    refine (l6Bad v za zn zc ds ps _ (dIs_below HD.out C1.out) (IsRow.below HR.out C1.out) HC.out HU.out HP.out hzn).mono ?_
    rintro e w2 ⟨ua, un, uc, ta, tn, tc, rfl, ho2, hb2⟩
    have O2 : Hid (EOwn w2 w1.heap.size w2.heap.size (.slice ua un uc) (.slice ta tn tc) (badO ds ps (badF ds ps))) := ho2
    have B2 : Hid (Below w.heap.size w w2) := Frame.next B1.out hb2 B1.out.size
    obtain ⟨c0, c1, f0, f1⟩ := N1.out.below hb2
    clear ho2 hb2
    go_wp2
    refine bodyPost_ret (v := .tuple #[.agg #[.slice ua un uc, .slice ta tn tc], .bool (badF ds ps).isSome]) (by simp [results, Try.results36, go_sem, c0, c1]) rfl ?_
    rw [E.out.1, E.out.2]
    exact depR_more O2.out HLT.out (Nat.le_refl _) B2.out _ _


theorem pow_six {c : Nat} (h : c ≤ 6) : 2 ^ c ≤ 64 := by
  obtain rfl | rfl | rfl | rfl | rfl | rfl | rfl : c = 0 ∨ c = 1 ∨ c = 2 ∨ c = 3 ∨ c = 4 ∨ c = 5 ∨ c = 6 := by omega
  all_goals decide
theorem shl_one {c : Nat} (h : c ≤ 6) : wrap64 ((2 : Int) ^ c) = ((2 ^ c : Nat) : Int) := by
  obtain rfl | rfl | rfl | rfl | rfl | rfl | rfl : c = 0 ∨ c = 1 ∨ c = 2 ∨ c = 3 ∨ c = 4 ∨ c = 5 ∨ c = 6 := by omega
  all_goals kernel_rfl
theorem em_bool (b : Bool) : b = false ∨ b = true := by cases b <;> simp
theorem within_all {f g : Cs} (h : ∀ i, i < 6 → f i = true → g i = true) : withinB f g = true := withinB_iff.2 h
theorem within_not {f g : Cs} {i : Nat} (hi : i < 6) (hf : f i = true) (hg : g i = false) : withinB f g = false := by
  cases h : withinB f g
  · rfl
  · have := withinB_iff.1 h i hi hf
    rw [hg] at this
    cases this

set_option maxRecDepth 8000 in
set_option maxHeartbeats 12800000 in
theorem impl_BadIn (cols : Int) (v z : Value) (ds : List Dp) (ps : List Int) (w : World) (h : DIs w v ds) (hz : IIs w z ps) :
    Calls Try.prog 33 #[.int .i64 cols, v, z] w (DepR (badV cols ds ps) (badG cols ds ps) w) := by
  obtain ⟨za, zn, zc, rfl, hzr, hzn⟩ := hz
  have b0 : Below w.heap.size w (w.alloc (.cells #[.slice none 0 0, .slice none 0 0] 26)) := (Below.refl w.heap.size w).alloc (Nat.le_refl _) _
  have hD := dIs_below h b0
  have hR := IsRow.below hzr b0
  have hN := Nob.made w 26
  clear h hzr
  go_enter Try.func33, Try.ntmps33
  go_wp2_with fail
  go_step3
  go_wp2_with fail
  generalize (w.alloc (.cells #[.slice none 0 0, .slice none 0 0] 26)) = V at b0 hD hR hN ⊢
  have B0 : Hid (Below w.heap.size w V) := b0
  have HD : Hid (DIs V v ds) := hD
  have HR : Hid (IsRow .i64 V za zn zc ps) := hR
  have HN : Hid (Nob V w.heap.size) := hN
  clear b0 hD hR hN
  refine (Dga.impl_GoodDeps cols v ds _ HD.out).mono ?_
  rintro e w1 ⟨rfl, hb1⟩
  have B1 : Hid (Below w.heap.size w w1) := Frame.next B0.out hb1 B0.out.size
  have C1 : Hid (Below V.heap.size V w1) := hb1
  obtain ⟨c0, c1, f0, f1⟩ := HN.out.below hb1
  clear hb1
  cases hG : goodD cols ds
  · have E : Hid (badV cols ds ps = ([], []) ∧ badG cols ds ps = false) := bad_no (by unfold closG; rw [hG]; rfl)
    clear hG
    go_wp2
    try rw [Exit.noGoto_ret]
    refine bodyPost_ret (v := .tuple #[.agg #[.slice none 0 0, .slice none 0 0], .bool false]) (by simp [results, Try.results33, go_sem, c0, c1]) rfl ?_
    rw [E.out.1, E.out.2]
    exact depR_no (Nat.le_refl _) B1.out
  · have HG : Hid (goodD cols ds = true) := hG
    clear hG c0 c1 f0 f1
    go_wp2_with fail
    refine (Dga.areColumns cols za zn zc ps _ (IsRow.below HR.out C1.out)).mono ?_
    rintro e w2 ⟨rfl, hb2⟩
    have B2 : Hid (Below w.heap.size w w2) := Frame.next B1.out hb2 B1.out.size
    have C2 : Hid (Below V.heap.size V w2) := Frame.next C1.out hb2 C1.out.size
    obtain ⟨c0, c1, f0, f1⟩ := HN.out.below C2.out
    clear hb2
    cases hQ : riseB 0 (cols - 1) ps
    · have E : Hid (badV cols ds ps = ([], []) ∧ badG cols ds ps = false) := bad_no (by unfold closG; rw [hQ, Bool.and_false])
      clear hQ
      go_wp2
      try rw [Exit.noGoto_ret]
      refine bodyPost_ret (v := .tuple #[.agg #[.slice none 0 0, .slice none 0 0], .bool false]) (by simp [results, Try.results33, go_sem, c0, c1]) rfl ?_
      rw [E.out.1, E.out.2]
      exact depR_no (Nat.le_refl _) B2.out
    · have hcg : closG cols ds ps = true := by unfold closG; rw [hQ, HG.out]; rfl
      have E : Hid (badV cols ds ps = badO ds ps (badF ds ps) ∧ badG cols ds ps = (badF ds ps).isSome) := bad_yes hcg
      obtain ⟨_, hc, hu, hp, hl1, hl6, hlt⟩ := clos_of hcg
      obtain ⟨c, hcc⟩ : ∃ c : Nat, cols = (c : Int) := ⟨cols.toNat, by omega⟩
      have HC : Hid (Cols ds) := hc
      have HP : Hid (InC ps) := hp
      have HEND : Hid ((∀ m, m < 2 ^ c → badP ds ps m = false) → badF ds ps = none) := bad_all (by omega) (fun z hz => by have := hlt z hz; omega)
      have hsh : wrap64 ((2 : Int) ^ c) = ((2 ^ c : Nat) : Int) := shl_one (by omega)
      have hN64 : 2 ^ c ≤ 64 := pow_six (by omega)
      obtain ⟨N, hNe⟩ : ∃ N : Nat, 2 ^ c = N := ⟨_, rfl⟩
      have hc64 : (c : Int) ≤ 64 := by omega
      rw [hNe] at hsh
      have HEN : Hid ((∀ m, m < N → badP ds ps m = false) → badF ds ps = none) := by rw [← hNe]; exact HEND.out
      rw [hNe] at hN64
      subst hcc
      clear hQ hcg hc hu hp hlt hNe HEND c0 c1 f0 f1
      go_wp2_with fail
      refine (setOf za zn zc ps _ (IsRow.below HR.out C2.out) HP.out).mono ?_
      rintro e w3 ⟨rfl, hb3⟩
      unfold csv
      have b3 : Below w3.heap.size w3 (w3.alloc (.cells #[.bool (inS ps 0), .bool (inS ps 1), .bool (inS ps 2), .bool (inS ps 3), .bool (inS ps 4), .bool (inS ps 5)] 107)) := (Below.refl _ _).alloc (Nat.le_refl _) _
      have hA8 : At6 (w3.alloc (.cells #[.bool (inS ps 0), .bool (inS ps 1), .bool (inS ps 2), .bool (inS ps 3), .bool (inS ps 4), .bool (inS ps 5)] 107)) w3.heap.size (inS ps) := At6.made w3 (inS ps) _
      have hC3 : Below V.heap.size V (w3.alloc (.cells #[.bool (inS ps 0), .bool (inS ps 1), .bool (inS ps 2), .bool (inS ps 3), .bool (inS ps 4), .bool (inS ps 5)] 107)) := Frame.next (Frame.next C2.out hb3 C2.out.size) b3 (Frame.next C2.out hb3 C2.out.size).size
      clear b3 hb3
      go_upto_region 4 with fail
      generalize (w3.alloc (.cells #[.bool (inS ps 0), .bool (inS ps 1), .bool (inS ps 2), .bool (inS ps 3), .bool (inS ps 4), .bool (inS ps 5)] 107)) = Y at hA8 hC3 ⊢
      have CY : Hid (Below V.heap.size V Y) := hC3
      have A8 : Hid (At6 Y w3.heap.size (inS ps)) := hA8
      have BY : Hid (Below w.heap.size w Y) := Frame.next B0.out hC3 B0.out.size
      clear hC3 hA8
      go_wp2_with fail
      go_step3
      go_wp2_with fail
      rw [hsh]
      clear hsh
      go_loopg [29] N (fun g s wx => ∃ k : Nat, k + g = N ∧ s = .int .i64 k ∧ (∀ j, j < k → badP ds ps j = false) ∧ Below Y.heap.size Y wx)
      case atStart => exact ⟨0, by omega, rfl, fun j hj => absurd hj (by omega), Below.refl _ _⟩
      case round =>
        obtain ⟨go, hgo⟩ : ∃ go : Nat, go = gk := ⟨_, rfl⟩
        subst hgo
        obtain ⟨k, hkg, rfl, hall, hnx⟩ := hrel
        have HA : Hid (∀ j, j < k → badP ds ps j = false) := hall
        have HX : Hid (Below Y.heap.size Y wr) := hnx
        have KG : Hid (k + go = N) := hkg
        clear hall hnx
        by_cases hlt : k < N
        · have hltI : (k : Int) < (N : Int) := by omega
          go_wp2_with fail
          refine (setByNumber (k : Int) _ (by omega) (by omega)).mono ?_
          rintro e w4 ⟨rfl, hb4⟩
          unfold csv
          have x4 : Below Y.heap.size Y (w4.alloc (.cells #[.bool ((bitS (k : Int)) 0), .bool ((bitS (k : Int)) 1), .bool ((bitS (k : Int)) 2), .bool ((bitS (k : Int)) 3), .bool ((bitS (k : Int)) 4), .bool ((bitS (k : Int)) 5)] 107)) := Frame.next (Frame.next HX.out hb4 HX.out.size) ((Below.refl _ _).alloc (Nat.le_refl _) _) (Frame.next HX.out hb4 HX.out.size).size
          have X4 : Hid (Y.heap.size ≤ w4.heap.size) := Nat.le_trans HX.out.size hb4.size
          have hA10 : At6 (w4.alloc (.cells #[.bool ((bitS (k : Int)) 0), .bool ((bitS (k : Int)) 1), .bool ((bitS (k : Int)) 2), .bool ((bitS (k : Int)) 3), .bool ((bitS (k : Int)) 4), .bool ((bitS (k : Int)) 5)] 107)) w4.heap.size (bitS (k : Int)) := At6.made w4 (bitS (k : Int)) _
          obtain ⟨p0, p1, p2, p3, p4, p5⟩ := hA10.cells
          clear hb4
          go_wp2_with fail
          clear p0 p1 p2 p3 p4 p5
          generalize (w4.alloc (.cells #[.bool ((bitS (k : Int)) 0), .bool ((bitS (k : Int)) 1), .bool ((bitS (k : Int)) 2), .bool ((bitS (k : Int)) 3), .bool ((bitS (k : Int)) 4), .bool ((bitS (k : Int)) 5)] 107)) = U at x4 hA10 ⊢
          have XU : Hid (Below Y.heap.size Y U) := x4
          have A10 : Hid (At6 U w4.heap.size (bitS (k : Int))) := hA10
          obtain ⟨q0, q1, q2, q3, q4, q5⟩ := (A8.out.below x4).cells
          clear x4 hA10
          go_loopg [35] 6 (fun g2 s wx => ∃ j : Nat, j + g2 = 6 ∧ s = .int .i64 j ∧ (∀ i, i < j → bitS (k : Int) i = true → inS ps i = true) ∧ wx = U)
          case atStart => exact ⟨0, by omega, rfl, fun i hi => absurd hi (by omega), rfl⟩
          case round =>
            obtain ⟨j, hjg, rfl, hin, rfl⟩ := hrel
            have HIN : Hid (∀ i, i < j → bitS (k : Int) i = true → inS ps i = true) := hin
            clear hin
            obtain rfl | rfl | rfl | rfl | rfl | rfl | rfl : j = 0 ∨ j = 1 ∨ j = 2 ∨ j = 3 ∨ j = 4 ∨ j = 5 ∨ j = 6 := by omega
            · have ix := index_cs0 (.bool (bitS (k : Int) 0)) (.bool (bitS (k : Int) 1)) (.bool (bitS (k : Int) 2)) (.bool (bitS (k : Int) 3)) (.bool (bitS (k : Int) 4)) (.bool (bitS (k : Int) 5))
              rcases em_bool (bitS (k : Int) 0) with hv | hv
              · have F : Hid (∀ i, i < 1 → bitS (k : Int) i = true → inS ps i = true) := fun i hi hb => by
                  by_cases e : i = 0
                  · rw [e, hv] at hb; cases hb
                  · exact HIN.out i (by omega) hb
                have iy : ∀ w, (Instr.index 107 (.agg #[.bool ((bitS (k : Int)) 0), .bool ((bitS (k : Int)) 1), .bool ((bitS (k : Int)) 2), .bool ((bitS (k : Int)) 3), .bool ((bitS (k : Int)) 4), .bool ((bitS (k : Int)) 5)]) (.int .i64 0)).run Try.prog w = .ok (.bool false) w := fun w => (ix w).trans (by rw [hv])
                clear ix hv
                go_wp2_with fail
                go_roundg 5
                case measure => omega
                case rel => exact ⟨1, by omega, by go_num, F.out, rfl⟩
              · have iy : ∀ w, (Instr.index 107 (.agg #[.bool ((bitS (k : Int)) 0), .bool ((bitS (k : Int)) 1), .bool ((bitS (k : Int)) 2), .bool ((bitS (k : Int)) 3), .bool ((bitS (k : Int)) 4), .bool ((bitS (k : Int)) 5)]) (.int .i64 0)).run Try.prog w = .ok (.bool true) w := fun w => (ix w).trans (by rw [hv])
                have HV : Hid (bitS (k : Int) 0 = true) := hv
                clear ix hv
                rcases em_bool (inS ps 0) with hx | hx
                · have F : Hid (∀ m, m < k + 1 → badP ds ps m = false) := fun m hm => by
                    by_cases e : m = k
                    · rw [e]; exact bad_out (within_not (by omega) HV.out hx)
                    · exact HA.out m (by omega)
                  have qq : wr.cell? ⟨w3.heap.size, 0, none⟩ = some (.bool false) := q0.trans (by rw [hx])
                  clear q0 hx
                  go_wp2_with fail
                  go_roundg (go - 1)
                  case measure => have := KG.out; omega
                  case rel => exact ⟨k + 1, by have := KG.out; omega, by go_num, F.out, XU.out⟩
                · have F : Hid (∀ i, i < 1 → bitS (k : Int) i = true → inS ps i = true) := fun i hi hb => by
                    by_cases e : i = 0
                    · rw [e]; exact hx
                    · exact HIN.out i (by omega) hb
                  have qq : wr.cell? ⟨w3.heap.size, 0, none⟩ = some (.bool true) := q0.trans (by rw [hx])
                  clear q0 hx
                  go_wp2_with fail
                  go_roundg 5
                  case measure => omega
                  case rel => exact ⟨1, by omega, by go_num, F.out, rfl⟩
            · have ix := index_cs1 (.bool (bitS (k : Int) 0)) (.bool (bitS (k : Int) 1)) (.bool (bitS (k : Int) 2)) (.bool (bitS (k : Int) 3)) (.bool (bitS (k : Int) 4)) (.bool (bitS (k : Int) 5))
              rcases em_bool (bitS (k : Int) 1) with hv | hv
              · have F : Hid (∀ i, i < 2 → bitS (k : Int) i = true → inS ps i = true) := fun i hi hb => by
                  by_cases e : i = 1
                  · rw [e, hv] at hb; cases hb
                  · exact HIN.out i (by omega) hb
                have iy : ∀ w, (Instr.index 107 (.agg #[.bool ((bitS (k : Int)) 0), .bool ((bitS (k : Int)) 1), .bool ((bitS (k : Int)) 2), .bool ((bitS (k : Int)) 3), .bool ((bitS (k : Int)) 4), .bool ((bitS (k : Int)) 5)]) (.int .i64 1)).run Try.prog w = .ok (.bool false) w := fun w => (ix w).trans (by rw [hv])
                clear ix hv
                go_wp2_with fail
                go_roundg 4
                case measure => omega
                case rel => exact ⟨2, by omega, by go_num, F.out, rfl⟩
              · have iy : ∀ w, (Instr.index 107 (.agg #[.bool ((bitS (k : Int)) 0), .bool ((bitS (k : Int)) 1), .bool ((bitS (k : Int)) 2), .bool ((bitS (k : Int)) 3), .bool ((bitS (k : Int)) 4), .bool ((bitS (k : Int)) 5)]) (.int .i64 1)).run Try.prog w = .ok (.bool true) w := fun w => (ix w).trans (by rw [hv])
                have HV : Hid (bitS (k : Int) 1 = true) := hv
                clear ix hv
                rcases em_bool (inS ps 1) with hx | hx
                · have F : Hid (∀ m, m < k + 1 → badP ds ps m = false) := fun m hm => by
                    by_cases e : m = k
                    · rw [e]; exact bad_out (within_not (by omega) HV.out hx)
                    · exact HA.out m (by omega)
                  have qq : wr.cell? ⟨w3.heap.size, 1, none⟩ = some (.bool false) := q1.trans (by rw [hx])
                  clear q1 hx
                  go_wp2_with fail
                  go_roundg (go - 1)
                  case measure => have := KG.out; omega
                  case rel => exact ⟨k + 1, by have := KG.out; omega, by go_num, F.out, XU.out⟩
                · have F : Hid (∀ i, i < 2 → bitS (k : Int) i = true → inS ps i = true) := fun i hi hb => by
                    by_cases e : i = 1
                    · rw [e]; exact hx
                    · exact HIN.out i (by omega) hb
                  have qq : wr.cell? ⟨w3.heap.size, 1, none⟩ = some (.bool true) := q1.trans (by rw [hx])
                  clear q1 hx
                  go_wp2_with fail
                  go_roundg 4
                  case measure => omega
                  case rel => exact ⟨2, by omega, by go_num, F.out, rfl⟩
            · have ix := index_cs2 (.bool (bitS (k : Int) 0)) (.bool (bitS (k : Int) 1)) (.bool (bitS (k : Int) 2)) (.bool (bitS (k : Int) 3)) (.bool (bitS (k : Int) 4)) (.bool (bitS (k : Int) 5))
              rcases em_bool (bitS (k : Int) 2) with hv | hv
              · have F : Hid (∀ i, i < 3 → bitS (k : Int) i = true → inS ps i = true) := fun i hi hb => by
                  by_cases e : i = 2
                  · rw [e, hv] at hb; cases hb
                  · exact HIN.out i (by omega) hb
                have iy : ∀ w, (Instr.index 107 (.agg #[.bool ((bitS (k : Int)) 0), .bool ((bitS (k : Int)) 1), .bool ((bitS (k : Int)) 2), .bool ((bitS (k : Int)) 3), .bool ((bitS (k : Int)) 4), .bool ((bitS (k : Int)) 5)]) (.int .i64 2)).run Try.prog w = .ok (.bool false) w := fun w => (ix w).trans (by rw [hv])
                clear ix hv
                go_wp2_with fail
                go_roundg 3
                case measure => omega
                case rel => exact ⟨3, by omega, by go_num, F.out, rfl⟩
              · have iy : ∀ w, (Instr.index 107 (.agg #[.bool ((bitS (k : Int)) 0), .bool ((bitS (k : Int)) 1), .bool ((bitS (k : Int)) 2), .bool ((bitS (k : Int)) 3), .bool ((bitS (k : Int)) 4), .bool ((bitS (k : Int)) 5)]) (.int .i64 2)).run Try.prog w = .ok (.bool true) w := fun w => (ix w).trans (by rw [hv])
                have HV : Hid (bitS (k : Int) 2 = true) := hv
                clear ix hv
                rcases em_bool (inS ps 2) with hx | hx
                · have F : Hid (∀ m, m < k + 1 → badP ds ps m = false) := fun m hm => by
                    by_cases e : m = k
                    · rw [e]; exact bad_out (within_not (by omega) HV.out hx)
                    · exact HA.out m (by omega)
                  have qq : wr.cell? ⟨w3.heap.size, 2, none⟩ = some (.bool false) := q2.trans (by rw [hx])
                  clear q2 hx
                  go_wp2_with fail
                  go_roundg (go - 1)
                  case measure => have := KG.out; omega
                  case rel => exact ⟨k + 1, by have := KG.out; omega, by go_num, F.out, XU.out⟩
                · have F : Hid (∀ i, i < 3 → bitS (k : Int) i = true → inS ps i = true) := fun i hi hb => by
                    by_cases e : i = 2
                    · rw [e]; exact hx
                    · exact HIN.out i (by omega) hb
                  have qq : wr.cell? ⟨w3.heap.size, 2, none⟩ = some (.bool true) := q2.trans (by rw [hx])
                  clear q2 hx
                  go_wp2_with fail
                  go_roundg 3
                  case measure => omega
                  case rel => exact ⟨3, by omega, by go_num, F.out, rfl⟩
            · have ix := index_cs3 (.bool (bitS (k : Int) 0)) (.bool (bitS (k : Int) 1)) (.bool (bitS (k : Int) 2)) (.bool (bitS (k : Int) 3)) (.bool (bitS (k : Int) 4)) (.bool (bitS (k : Int) 5))
              rcases em_bool (bitS (k : Int) 3) with hv | hv
              · have F : Hid (∀ i, i < 4 → bitS (k : Int) i = true → inS ps i = true) := fun i hi hb => by
                  by_cases e : i = 3
                  · rw [e, hv] at hb; cases hb
                  · exact HIN.out i (by omega) hb
                have iy : ∀ w, (Instr.index 107 (.agg #[.bool ((bitS (k : Int)) 0), .bool ((bitS (k : Int)) 1), .bool ((bitS (k : Int)) 2), .bool ((bitS (k : Int)) 3), .bool ((bitS (k : Int)) 4), .bool ((bitS (k : Int)) 5)]) (.int .i64 3)).run Try.prog w = .ok (.bool false) w := fun w => (ix w).trans (by rw [hv])
                clear ix hv
                go_wp2_with fail
                go_roundg 2
                case measure => omega
                case rel => exact ⟨4, by omega, by go_num, F.out, rfl⟩
              · have iy : ∀ w, (Instr.index 107 (.agg #[.bool ((bitS (k : Int)) 0), .bool ((bitS (k : Int)) 1), .bool ((bitS (k : Int)) 2), .bool ((bitS (k : Int)) 3), .bool ((bitS (k : Int)) 4), .bool ((bitS (k : Int)) 5)]) (.int .i64 3)).run Try.prog w = .ok (.bool true) w := fun w => (ix w).trans (by rw [hv])
                have HV : Hid (bitS (k : Int) 3 = true) := hv
                clear ix hv
                rcases em_bool (inS ps 3) with hx | hx
                · have F : Hid (∀ m, m < k + 1 → badP ds ps m = false) := fun m hm => by
                    by_cases e : m = k
                    · rw [e]; exact bad_out (within_not (by omega) HV.out hx)
                    · exact HA.out m (by omega)
                  have qq : wr.cell? ⟨w3.heap.size, 3, none⟩ = some (.bool false) := q3.trans (by rw [hx])
                  clear q3 hx
                  go_wp2_with fail
                  go_roundg (go - 1)
                  case measure => have := KG.out; omega
                  case rel => exact ⟨k + 1, by have := KG.out; omega, by go_num, F.out, XU.out⟩
                · have F : Hid (∀ i, i < 4 → bitS (k : Int) i = true → inS ps i = true) := fun i hi hb => by
                    by_cases e : i = 3
                    · rw [e]; exact hx
                    · exact HIN.out i (by omega) hb
                  have qq : wr.cell? ⟨w3.heap.size, 3, none⟩ = some (.bool true) := q3.trans (by rw [hx])
                  clear q3 hx
                  go_wp2_with fail
                  go_roundg 2
                  case measure => omega
                  case rel => exact ⟨4, by omega, by go_num, F.out, rfl⟩
            · have ix := index_cs4 (.bool (bitS (k : Int) 0)) (.bool (bitS (k : Int) 1)) (.bool (bitS (k : Int) 2)) (.bool (bitS (k : Int) 3)) (.bool (bitS (k : Int) 4)) (.bool (bitS (k : Int) 5))
              rcases em_bool (bitS (k : Int) 4) with hv | hv
              · have F : Hid (∀ i, i < 5 → bitS (k : Int) i = true → inS ps i = true) := fun i hi hb => by
                  by_cases e : i = 4
                  · rw [e, hv] at hb; cases hb
                  · exact HIN.out i (by omega) hb
                have iy : ∀ w, (Instr.index 107 (.agg #[.bool ((bitS (k : Int)) 0), .bool ((bitS (k : Int)) 1), .bool ((bitS (k : Int)) 2), .bool ((bitS (k : Int)) 3), .bool ((bitS (k : Int)) 4), .bool ((bitS (k : Int)) 5)]) (.int .i64 4)).run Try.prog w = .ok (.bool false) w := fun w => (ix w).trans (by rw [hv])
                clear ix hv
                go_wp2_with fail
                go_roundg 1
                case measure => omega
                case rel => exact ⟨5, by omega, by go_num, F.out, rfl⟩
              · have iy : ∀ w, (Instr.index 107 (.agg #[.bool ((bitS (k : Int)) 0), .bool ((bitS (k : Int)) 1), .bool ((bitS (k : Int)) 2), .bool ((bitS (k : Int)) 3), .bool ((bitS (k : Int)) 4), .bool ((bitS (k : Int)) 5)]) (.int .i64 4)).run Try.prog w = .ok (.bool true) w := fun w => (ix w).trans (by rw [hv])
                have HV : Hid (bitS (k : Int) 4 = true) := hv
                clear ix hv
                rcases em_bool (inS ps 4) with hx | hx
                · have F : Hid (∀ m, m < k + 1 → badP ds ps m = false) := fun m hm => by
                    by_cases e : m = k
                    · rw [e]; exact bad_out (within_not (by omega) HV.out hx)
                    · exact HA.out m (by omega)
                  have qq : wr.cell? ⟨w3.heap.size, 4, none⟩ = some (.bool false) := q4.trans (by rw [hx])
                  clear q4 hx
                  go_wp2_with fail
                  go_roundg (go - 1)
                  case measure => have := KG.out; omega
                  case rel => exact ⟨k + 1, by have := KG.out; omega, by go_num, F.out, XU.out⟩
                · have F : Hid (∀ i, i < 5 → bitS (k : Int) i = true → inS ps i = true) := fun i hi hb => by
                    by_cases e : i = 4
                    · rw [e]; exact hx
                    · exact HIN.out i (by omega) hb
                  have qq : wr.cell? ⟨w3.heap.size, 4, none⟩ = some (.bool true) := q4.trans (by rw [hx])
                  clear q4 hx
                  go_wp2_with fail
                  go_roundg 1
                  case measure => omega
                  case rel => exact ⟨5, by omega, by go_num, F.out, rfl⟩
            · have ix := index_cs5 (.bool (bitS (k : Int) 0)) (.bool (bitS (k : Int) 1)) (.bool (bitS (k : Int) 2)) (.bool (bitS (k : Int) 3)) (.bool (bitS (k : Int) 4)) (.bool (bitS (k : Int) 5))
              rcases em_bool (bitS (k : Int) 5) with hv | hv
              · have F : Hid (∀ i, i < 6 → bitS (k : Int) i = true → inS ps i = true) := fun i hi hb => by
                  by_cases e : i = 5
                  · rw [e, hv] at hb; cases hb
                  · exact HIN.out i (by omega) hb
                have iy : ∀ w, (Instr.index 107 (.agg #[.bool ((bitS (k : Int)) 0), .bool ((bitS (k : Int)) 1), .bool ((bitS (k : Int)) 2), .bool ((bitS (k : Int)) 3), .bool ((bitS (k : Int)) 4), .bool ((bitS (k : Int)) 5)]) (.int .i64 5)).run Try.prog w = .ok (.bool false) w := fun w => (ix w).trans (by rw [hv])
                clear ix hv
                go_wp2_with fail
                go_roundg 0
                case measure => omega
                case rel => exact ⟨6, by omega, by go_num, F.out, rfl⟩
              · have iy : ∀ w, (Instr.index 107 (.agg #[.bool ((bitS (k : Int)) 0), .bool ((bitS (k : Int)) 1), .bool ((bitS (k : Int)) 2), .bool ((bitS (k : Int)) 3), .bool ((bitS (k : Int)) 4), .bool ((bitS (k : Int)) 5)]) (.int .i64 5)).run Try.prog w = .ok (.bool true) w := fun w => (ix w).trans (by rw [hv])
                have HV : Hid (bitS (k : Int) 5 = true) := hv
                clear ix hv
                rcases em_bool (inS ps 5) with hx | hx
                · have F : Hid (∀ m, m < k + 1 → badP ds ps m = false) := fun m hm => by
                    by_cases e : m = k
                    · rw [e]; exact bad_out (within_not (by omega) HV.out hx)
                    · exact HA.out m (by omega)
                  have qq : wr.cell? ⟨w3.heap.size, 5, none⟩ = some (.bool false) := q5.trans (by rw [hx])
                  clear q5 hx
                  go_wp2_with fail
                  go_roundg (go - 1)
                  case measure => have := KG.out; omega
                  case rel => exact ⟨k + 1, by have := KG.out; omega, by go_num, F.out, XU.out⟩
                · have F : Hid (∀ i, i < 6 → bitS (k : Int) i = true → inS ps i = true) := fun i hi hb => by
                    by_cases e : i = 5
                    · rw [e]; exact hx
                    · exact HIN.out i (by omega) hb
                  have qq : wr.cell? ⟨w3.heap.size, 5, none⟩ = some (.bool true) := q5.trans (by rw [hx])
                  clear q5 hx
                  go_wp2_with fail
                  go_roundg 0
                  case measure => omega
                  case rel => exact ⟨6, by omega, by go_num, F.out, rfl⟩
            · have HW : Hid (withinB (bitS (k : Int)) (inS ps) = true) := within_all HIN.out
              clear q0 q1 q2 q3 q4 q5
              have A8U : Hid (At6 wr w3.heap.size (inS ps)) := A8.out.below XU.out
              have l8 := A8U.out.2.2
              have l10 := A10.out.2.2
              go_upto_region 13 with fail
              go_cut [13] (fun s13 wx => ∃ b, s13 = .pointer (some ⟨b, 0, none⟩) ∧ At6 wx b (andS (clS ds (bitS (k : Int))) (inS ps)) ∧ wr.heap.size ≤ b ∧ Below wr.heap.size wr wx)
              case first =>
                obtain ⟨x0, x1, x2, x3, x4, x5⟩ := A10.out.cells
                obtain ⟨y0, y1, y2, y3, y4, y5⟩ := A8U.out.cells
                have DU : Hid (DIs wr v ds) := dIs_below (dIs_below HD.out CY.out) XU.out
                have KD : Hid (Below wr.heap.size wr wr) := Below.refl _ _
                have KS : Hid (∀ w', Below wr.heap.size wr w' → w'.cell? ⟨w4.heap.size, 0, none⟩ = some (.bool ((bitS (k : Int)) 0)) ∧ w'.cell? ⟨w4.heap.size, 1, none⟩ = some (.bool ((bitS (k : Int)) 1)) ∧ w'.cell? ⟨w4.heap.size, 2, none⟩ = some (.bool ((bitS (k : Int)) 2)) ∧ w'.cell? ⟨w4.heap.size, 3, none⟩ = some (.bool ((bitS (k : Int)) 3)) ∧ w'.cell? ⟨w4.heap.size, 4, none⟩ = some (.bool ((bitS (k : Int)) 4)) ∧ w'.cell? ⟨w4.heap.size, 5, none⟩ = some (.bool ((bitS (k : Int)) 5)) ∧ w'.cell? ⟨w3.heap.size, 0, none⟩ = some (.bool (inS ps 0)) ∧ w'.cell? ⟨w3.heap.size, 1, none⟩ = some (.bool (inS ps 1)) ∧ w'.cell? ⟨w3.heap.size, 2, none⟩ = some (.bool (inS ps 2)) ∧ w'.cell? ⟨w3.heap.size, 3, none⟩ = some (.bool (inS ps 3)) ∧ w'.cell? ⟨w3.heap.size, 4, none⟩ = some (.bool (inS ps 4)) ∧ w'.cell? ⟨w3.heap.size, 5, none⟩ = some (.bool (inS ps 5))) := fun w' kb => ⟨Frame.held_cell kb x0, Frame.held_cell kb x1, Frame.held_cell kb x2, Frame.held_cell kb x3, Frame.held_cell kb x4, Frame.held_cell kb x5, Frame.held_cell kb y0, Frame.held_cell kb y1, Frame.held_cell kb y2, Frame.held_cell kb y3, Frame.held_cell kb y4, Frame.held_cell kb y5⟩
                have K0 := KS.out wr.drew ((Below.refl _ _).drew)
                clear x0 x1 x2 x3 x4 x5 y0 y1 y2 y3 y4 y5
                go_region_held3 (fun w' => w'.cell? ⟨w4.heap.size, 0, none⟩ = some (.bool ((bitS (k : Int)) 0)) ∧ w'.cell? ⟨w4.heap.size, 1, none⟩ = some (.bool ((bitS (k : Int)) 1)) ∧ w'.cell? ⟨w4.heap.size, 2, none⟩ = some (.bool ((bitS (k : Int)) 2)) ∧ w'.cell? ⟨w4.heap.size, 3, none⟩ = some (.bool ((bitS (k : Int)) 3)) ∧ w'.cell? ⟨w4.heap.size, 4, none⟩ = some (.bool ((bitS (k : Int)) 4)) ∧ w'.cell? ⟨w4.heap.size, 5, none⟩ = some (.bool ((bitS (k : Int)) 5)) ∧ w'.cell? ⟨w3.heap.size, 0, none⟩ = some (.bool (inS ps 0)) ∧ w'.cell? ⟨w3.heap.size, 1, none⟩ = some (.bool (inS ps 1)) ∧ w'.cell? ⟨w3.heap.size, 2, none⟩ = some (.bool (inS ps 2)) ∧ w'.cell? ⟨w3.heap.size, 3, none⟩ = some (.bool (inS ps 3)) ∧ w'.cell? ⟨w3.heap.size, 4, none⟩ = some (.bool (inS ps 4)) ∧ w'.cell? ⟨w3.heap.size, 5, none⟩ = some (.bool (inS ps 5)))
                  (first | with_reducible exact K0 | (refine KS.out _ ?_; (repeat (first | with_reducible exact K6.out | with_reducible exact K5.out | with_reducible exact KD.out | with_reducible apply Ivb.bw_made | with_reducible apply Ivb.bw_drew | (with_reducible refine Ivb.bw_set _ _ _ ?_ ?_; (focus omega))))))
                  (first | (go_at_call 82; refine (toldBy v ds (bitS (k : Int)) _ (dIs_below DU.out (by (repeat (first | with_reducible exact K6.out | with_reducible exact K5.out | with_reducible exact KD.out | with_reducible apply Ivb.bw_made | with_reducible apply Ivb.bw_drew | (with_reducible refine Ivb.bw_set _ _ _ ?_ ?_; (focus omega)))))) HC.out).mono ?_; rintro e w5 ⟨rfl, hb5⟩; unfold csv; have K5 : Hid (Below wr.heap.size wr w5) := (by refine Ivb.bw_call ?_ hb5; (repeat (first | with_reducible exact K6.out | with_reducible exact K5.out | with_reducible exact KD.out | with_reducible apply Ivb.bw_made | with_reducible apply Ivb.bw_drew | (with_reducible refine Ivb.bw_set _ _ _ ?_ ?_; (focus omega))))); have z5 := K5.out.size; (first | (have X10 : Hid (At6 w5 (wr.heap.size) noneS) := At6.below (At6.below (At6.made wr noneS 107) (Below.refl _ _).drew) hb5) | skip); (first | (obtain ⟨a100, a101, a102, a103, a104, a105⟩ := X10.out.cells; obtain ⟨g100, g101, g102, g103, g104, g105⟩ := X10.out.froz; have n10 := Nat.ne_of_gt X10.out.2.2; have l10 := X10.out.2.2) | skip); clear hb5) | (go_at_call 109; refine (inBoth (clS ds (bitS (k : Int))) (inS ps) _).mono ?_; rintro e w6 ⟨rfl, hb6⟩; unfold csv; have K6 : Hid (Below wr.heap.size wr w6) := (by refine Ivb.bw_call ?_ hb6; (repeat (first | with_reducible exact K6.out | with_reducible exact K5.out | with_reducible exact KD.out | with_reducible apply Ivb.bw_made | with_reducible apply Ivb.bw_drew | (with_reducible refine Ivb.bw_set _ _ _ ?_ ?_; (focus omega))))); have z6 := K6.out.size; (first | (have X20 : Hid (At6 w6 (wr.heap.size) noneS) := X10.out.below hb6) | skip); (first | (obtain ⟨a200, a201, a202, a203, a204, a205⟩ := X20.out.cells; obtain ⟨g200, g201, g202, g203, g204, g205⟩ := X20.out.froz; have n20 := Nat.ne_of_gt X20.out.2.2; have l20 := X20.out.2.2) | skip); (first | (have X21 : Hid (At6 w6 (w5.heap.size) noneS) := (At6.made w5 noneS 107).below hb6) | skip); (first | (obtain ⟨a210, a211, a212, a213, a214, a215⟩ := X21.out.cells; obtain ⟨g210, g211, g212, g213, g214, g215⟩ := X21.out.froz; have n21 := Nat.ne_of_gt X21.out.2.2; have l21 := X21.out.2.2) | skip); clear hb6))
                · go_wp2_with fail
                  go_meet
                  exact ⟨_, rfl, At6.made w6 (andS (clS ds (bitS (k : Int))) (inS ps)) _, K6.out.size, Ivb.bw_made _ K6.out⟩
                · go_wp2_with fail
                  go_meet
                  exact ⟨_, rfl, six_set X21.out (andS (clS ds (bitS (k : Int))) (inS ps)), K5.out.size, Csa.Below.set6 K6.out K5.out.size _ _ _ _ _ _⟩
                · go_wp2_with fail
                  go_meet
                  exact ⟨_, rfl, six_set X20.out (andS (clS ds (bitS (k : Int))) (inS ps)), Nat.le_refl _, Csa.Below.set6 K6.out (Nat.le_refl _) _ _ _ _ _ _⟩
              case rest =>
                obtain ⟨b, rfl, hA13, hbw, hKc⟩ := hcut
                have K13 : Hid (Below wr.heap.size wr wc) := hKc
                have A13 : Hid (At6 wc b (andS (clS ds (bitS (k : Int))) (inS ps))) := hA13
                have X13 : Hid (Below Y.heap.size Y wc) := Frame.next XU.out hKc XU.out.size
                obtain ⟨t0, t1, t2, t3, t4, t5⟩ := hA13.cells
                obtain ⟨x0, x1, x2, x3, x4, x5⟩ := (A10.out.below hKc).cells
                obtain ⟨y0, y1, y2, y3, y4, y5⟩ := (A8U.out.below hKc).cells
                have hgd : Try.prog.eqGuardType Try.prog.depth 107 = false := by kernel_rfl
                have EQ1 : ∀ w, (binOp .neq 107 (.agg #[.bool ((andS (clS ds (bitS (k : Int))) (inS ps)) 0), .bool ((andS (clS ds (bitS (k : Int))) (inS ps)) 1), .bool ((andS (clS ds (bitS (k : Int))) (inS ps)) 2), .bool ((andS (clS ds (bitS (k : Int))) (inS ps)) 3), .bool ((andS (clS ds (bitS (k : Int))) (inS ps)) 4), .bool ((andS (clS ds (bitS (k : Int))) (inS ps)) 5)]) (.agg #[.bool ((bitS (k : Int)) 0), .bool ((bitS (k : Int)) 1), .bool ((bitS (k : Int)) 2), .bool ((bitS (k : Int)) 3), .bool ((bitS (k : Int)) 4), .bool ((bitS (k : Int)) 5)])).run Try.prog w = .ok (.bool (!sameS (andS (clS ds (bitS (k : Int))) (inS ps)) (bitS (k : Int)))) w := neq_cs (andS (clS ds (bitS (k : Int))) (inS ps)) (bitS (k : Int))
                have EQ2 : ∀ w, (binOp .neq 107 (.agg #[.bool ((andS (clS ds (bitS (k : Int))) (inS ps)) 0), .bool ((andS (clS ds (bitS (k : Int))) (inS ps)) 1), .bool ((andS (clS ds (bitS (k : Int))) (inS ps)) 2), .bool ((andS (clS ds (bitS (k : Int))) (inS ps)) 3), .bool ((andS (clS ds (bitS (k : Int))) (inS ps)) 4), .bool ((andS (clS ds (bitS (k : Int))) (inS ps)) 5)]) (.agg #[.bool ((inS ps) 0), .bool ((inS ps) 1), .bool ((inS ps) 2), .bool ((inS ps) 3), .bool ((inS ps) 4), .bool ((inS ps) 5)])).run Try.prog w = .ok (.bool (!sameS (andS (clS ds (bitS (k : Int))) (inS ps)) (inS ps))) w := neq_cs (andS (clS ds (bitS (k : Int))) (inS ps)) (inS ps)
                have PB : Hid (badP ds ps k = (!sameS (andS (clS ds (bitS (k : Int))) (inS ps)) (bitS (k : Int)) && !sameS (andS (clS ds (bitS (k : Int))) (inS ps)) (inS ps))) := by show _ = _; unfold badP; rw [HW.out]; rfl
                clear hA13 hKc
                cases hs1 : sameS (andS (clS ds (bitS (k : Int))) (inS ps)) (bitS (k : Int))
                · cases hs2 : sameS (andS (clS ds (bitS (k : Int))) (inS ps)) (inS ps)
                  · have FB : Hid (badF ds ps = some k) := bad_at HA.out (by rw [PB.out, hs1, hs2]; rfl) (by have := KG.out; omega)
                    have FL : Hid (badO ds ps (some k) = (listI (bitS (k : Int)), listI (lessS (andS (clS ds (bitS (k : Int))) (inS ps)) (bitS (k : Int))))) := rfl
                    rw [hs1] at EQ1
                    rw [hs2] at EQ2
                    clear hs1 hs2
                    go_wp2_with fail
                    clear EQ1 EQ2 y0 y1 y2 y3 y4 y5
                    have KD : Hid (Below wc.heap.size wc wc) := Below.refl _ _
                    have BC : Hid (Below w.heap.size w wc) := Frame.next BY.out X13.out BY.out.size
                    have CC : Hid (Below V.heap.size V wc) := Frame.next CY.out X13.out CY.out.size
                    have NC : Hid (Nob wc w.heap.size) := HN.out.below CC.out
                    have hnb : w.heap.size ≠ b := by have h1 : w.heap.size < V.heap.size := Frame.cell_lt HN.out.c0; have := CY.out.size; have := XU.out.size; omega
                    have hn4 : w.heap.size ≠ w4.heap.size := by have h1 : w.heap.size < V.heap.size := Frame.cell_lt HN.out.c0; have := CY.out.size; have := X4.out; omega
                    have hwc : w.heap.size < wc.heap.size := Frame.cell_lt NC.out.c0
                    have KS : Hid (∀ w', Below wc.heap.size wc w' → w'.cell? ⟨w4.heap.size, 0, none⟩ = some (.bool ((bitS (k : Int)) 0)) ∧ w'.cell? ⟨w4.heap.size, 1, none⟩ = some (.bool ((bitS (k : Int)) 1)) ∧ w'.cell? ⟨w4.heap.size, 2, none⟩ = some (.bool ((bitS (k : Int)) 2)) ∧ w'.cell? ⟨w4.heap.size, 3, none⟩ = some (.bool ((bitS (k : Int)) 3)) ∧ w'.cell? ⟨w4.heap.size, 4, none⟩ = some (.bool ((bitS (k : Int)) 4)) ∧ w'.cell? ⟨w4.heap.size, 5, none⟩ = some (.bool ((bitS (k : Int)) 5)) ∧ w'.cell? ⟨b, 0, none⟩ = some (.bool ((andS (clS ds (bitS (k : Int))) (inS ps)) 0)) ∧ w'.cell? ⟨b, 1, none⟩ = some (.bool ((andS (clS ds (bitS (k : Int))) (inS ps)) 1)) ∧ w'.cell? ⟨b, 2, none⟩ = some (.bool ((andS (clS ds (bitS (k : Int))) (inS ps)) 2)) ∧ w'.cell? ⟨b, 3, none⟩ = some (.bool ((andS (clS ds (bitS (k : Int))) (inS ps)) 3)) ∧ w'.cell? ⟨b, 4, none⟩ = some (.bool ((andS (clS ds (bitS (k : Int))) (inS ps)) 4)) ∧ w'.cell? ⟨b, 5, none⟩ = some (.bool ((andS (clS ds (bitS (k : Int))) (inS ps)) 5))) := fun w' kb => ⟨Frame.held_cell kb x0, Frame.held_cell kb x1, Frame.held_cell kb x2, Frame.held_cell kb x3, Frame.held_cell kb x4, Frame.held_cell kb x5, Frame.held_cell kb t0, Frame.held_cell kb t1, Frame.held_cell kb t2, Frame.held_cell kb t3, Frame.held_cell kb t4, Frame.held_cell kb t5⟩
                    have KS2 : Hid (∀ (W : World) (v0 v1 : Value), Below wc.heap.size wc W → ((W.setCell ⟨w.heap.size, 0, none⟩ v0).setCell ⟨w.heap.size, 1, none⟩ v1).cell? ⟨w4.heap.size, 0, none⟩ = some (.bool ((bitS (k : Int)) 0)) ∧ ((W.setCell ⟨w.heap.size, 0, none⟩ v0).setCell ⟨w.heap.size, 1, none⟩ v1).cell? ⟨w4.heap.size, 1, none⟩ = some (.bool ((bitS (k : Int)) 1)) ∧ ((W.setCell ⟨w.heap.size, 0, none⟩ v0).setCell ⟨w.heap.size, 1, none⟩ v1).cell? ⟨w4.heap.size, 2, none⟩ = some (.bool ((bitS (k : Int)) 2)) ∧ ((W.setCell ⟨w.heap.size, 0, none⟩ v0).setCell ⟨w.heap.size, 1, none⟩ v1).cell? ⟨w4.heap.size, 3, none⟩ = some (.bool ((bitS (k : Int)) 3)) ∧ ((W.setCell ⟨w.heap.size, 0, none⟩ v0).setCell ⟨w.heap.size, 1, none⟩ v1).cell? ⟨w4.heap.size, 4, none⟩ = some (.bool ((bitS (k : Int)) 4)) ∧ ((W.setCell ⟨w.heap.size, 0, none⟩ v0).setCell ⟨w.heap.size, 1, none⟩ v1).cell? ⟨w4.heap.size, 5, none⟩ = some (.bool ((bitS (k : Int)) 5)) ∧ ((W.setCell ⟨w.heap.size, 0, none⟩ v0).setCell ⟨w.heap.size, 1, none⟩ v1).cell? ⟨b, 0, none⟩ = some (.bool ((andS (clS ds (bitS (k : Int))) (inS ps)) 0)) ∧ ((W.setCell ⟨w.heap.size, 0, none⟩ v0).setCell ⟨w.heap.size, 1, none⟩ v1).cell? ⟨b, 1, none⟩ = some (.bool ((andS (clS ds (bitS (k : Int))) (inS ps)) 1)) ∧ ((W.setCell ⟨w.heap.size, 0, none⟩ v0).setCell ⟨w.heap.size, 1, none⟩ v1).cell? ⟨b, 2, none⟩ = some (.bool ((andS (clS ds (bitS (k : Int))) (inS ps)) 2)) ∧ ((W.setCell ⟨w.heap.size, 0, none⟩ v0).setCell ⟨w.heap.size, 1, none⟩ v1).cell? ⟨b, 3, none⟩ = some (.bool ((andS (clS ds (bitS (k : Int))) (inS ps)) 3)) ∧ ((W.setCell ⟨w.heap.size, 0, none⟩ v0).setCell ⟨w.heap.size, 1, none⟩ v1).cell? ⟨b, 4, none⟩ = some (.bool ((andS (clS ds (bitS (k : Int))) (inS ps)) 4)) ∧ ((W.setCell ⟨w.heap.size, 0, none⟩ v0).setCell ⟨w.heap.size, 1, none⟩ v1).cell? ⟨b, 5, none⟩ = some (.bool ((andS (clS ds (bitS (k : Int))) (inS ps)) 5))) := fun W v0 v1 kb => ⟨Ivb.far2 (Frame.held_cell kb x0) hn4, Ivb.far2 (Frame.held_cell kb x1) hn4, Ivb.far2 (Frame.held_cell kb x2) hn4, Ivb.far2 (Frame.held_cell kb x3) hn4, Ivb.far2 (Frame.held_cell kb x4) hn4, Ivb.far2 (Frame.held_cell kb x5) hn4, Ivb.far2 (Frame.held_cell kb t0) hnb, Ivb.far2 (Frame.held_cell kb t1) hnb, Ivb.far2 (Frame.held_cell kb t2) hnb, Ivb.far2 (Frame.held_cell kb t3) hnb, Ivb.far2 (Frame.held_cell kb t4) hnb, Ivb.far2 (Frame.held_cell kb t5) hnb⟩
                    have K0 := KS.out wc.drew ((Below.refl _ _).drew)
                    clear x0 x1 x2 x3 x4 x5 t0 t1 t2 t3 t4 t5
                    go_region_held3 (fun w' => w'.cell? ⟨w4.heap.size, 0, none⟩ = some (.bool ((bitS (k : Int)) 0)) ∧ w'.cell? ⟨w4.heap.size, 1, none⟩ = some (.bool ((bitS (k : Int)) 1)) ∧ w'.cell? ⟨w4.heap.size, 2, none⟩ = some (.bool ((bitS (k : Int)) 2)) ∧ w'.cell? ⟨w4.heap.size, 3, none⟩ = some (.bool ((bitS (k : Int)) 3)) ∧ w'.cell? ⟨w4.heap.size, 4, none⟩ = some (.bool ((bitS (k : Int)) 4)) ∧ w'.cell? ⟨w4.heap.size, 5, none⟩ = some (.bool ((bitS (k : Int)) 5)) ∧ w'.cell? ⟨b, 0, none⟩ = some (.bool ((andS (clS ds (bitS (k : Int))) (inS ps)) 0)) ∧ w'.cell? ⟨b, 1, none⟩ = some (.bool ((andS (clS ds (bitS (k : Int))) (inS ps)) 1)) ∧ w'.cell? ⟨b, 2, none⟩ = some (.bool ((andS (clS ds (bitS (k : Int))) (inS ps)) 2)) ∧ w'.cell? ⟨b, 3, none⟩ = some (.bool ((andS (clS ds (bitS (k : Int))) (inS ps)) 3)) ∧ w'.cell? ⟨b, 4, none⟩ = some (.bool ((andS (clS ds (bitS (k : Int))) (inS ps)) 4)) ∧ w'.cell? ⟨b, 5, none⟩ = some (.bool ((andS (clS ds (bitS (k : Int))) (inS ps)) 5)))
                      (first | with_reducible exact K0 | with_reducible exact SF.out | (refine KS.out _ ?_; (repeat (first | with_reducible exact K9.out | with_reducible exact K8.out | with_reducible exact K7.out | with_reducible exact KD.out | with_reducible apply Ivb.bw_made | with_reducible apply Ivb.bw_drew | (with_reducible refine Ivb.bw_set _ _ _ ?_ ?_; (focus omega))))))
                      (first | (go_at_call_has 84 (bitS (k : Int) 0); refine (listOf (bitS (k : Int)) _).mono ?_; rintro e w7 ⟨u7, rfl, ho7, hb7⟩; have K7 : Hid (Below wc.heap.size wc w7) := (by refine Ivb.bw_call ?_ hb7; (repeat (first | with_reducible exact K9.out | with_reducible exact K8.out | with_reducible exact K7.out | with_reducible exact KD.out | with_reducible apply Ivb.bw_made | with_reducible apply Ivb.bw_drew | (with_reducible refine Ivb.bw_set _ _ _ ?_ ?_; (focus omega))))); obtain ⟨a7, n7, c7, rfl, _, _⟩ := iOwn_is ho7; have O7 : Hid (IOwn w7 wc.heap.size w7.heap.size (.slice a7 n7 c7) (listI (bitS (k : Int)))) := ho7; clear ho7 hb7) | (go_at_call 110; refine (without (andS (clS ds (bitS (k : Int))) (inS ps)) (bitS (k : Int)) _).mono ?_; rintro e w8 ⟨rfl, hb8⟩; unfold csv; have K8 : Hid (Below wc.heap.size wc w8) := (by refine Ivb.bw_call ?_ hb8; (repeat (first | with_reducible exact K9.out | with_reducible exact K8.out | with_reducible exact K7.out | with_reducible exact KD.out | with_reducible apply Ivb.bw_made | with_reducible apply Ivb.bw_drew | (with_reducible refine Ivb.bw_set _ _ _ ?_ ?_; (focus omega))))); have O8 : Hid (IOwn w8 wc.heap.size w7.heap.size (.slice a7 n7 c7) (listI (bitS (k : Int)))) := iOwn_below O7.out hb8; have Z8 : Hid (w7.heap.size ≤ w8.heap.size) := hb8.size; clear hb8) | (go_at_call_has 84 ((lessS (andS (clS ds (bitS (k : Int))) (inS ps)) (bitS (k : Int))) 0); refine (listOf (lessS (andS (clS ds (bitS (k : Int))) (inS ps)) (bitS (k : Int))) _).mono ?_; rintro e w9 ⟨u9, rfl, ho9, hb9⟩; have K9 : Hid (Below wc.heap.size wc w9) := (by refine Ivb.bw_call ?_ hb9; (repeat (first | with_reducible exact K9.out | with_reducible exact K8.out | with_reducible exact K7.out | with_reducible exact KD.out | with_reducible apply Ivb.bw_made | with_reducible apply Ivb.bw_drew | (with_reducible refine Ivb.bw_set _ _ _ ?_ ?_; (focus omega))))); obtain ⟨a9, n9, c9, rfl, _, _⟩ := iOwn_is ho9; have E9 : Hid (EOwn w9 wc.heap.size w9.heap.size (.slice a7 n7 c7) (.slice a9 n9 c9) (badO ds ps (some k))) := (by show EOwn _ _ _ _ _ _; rw [FL.out]; exact eOwn_of (m := w8.heap.size) (Krl.iOwn_wide (iOwn_below O8.out hb9) (Nat.le_refl _) Z8.out) ho9 hb9.size K8.out.size); have SF : Hid (((w9.setCell ⟨w.heap.size, 0, none⟩ (.slice a7 n7 c7)).setCell ⟨w.heap.size, 1, none⟩ (.slice a9 n9 c9)).cell? ⟨w4.heap.size, 0, none⟩ = some (.bool ((bitS (k : Int)) 0)) ∧ ((w9.setCell ⟨w.heap.size, 0, none⟩ (.slice a7 n7 c7)).setCell ⟨w.heap.size, 1, none⟩ (.slice a9 n9 c9)).cell? ⟨w4.heap.size, 1, none⟩ = some (.bool ((bitS (k : Int)) 1)) ∧ ((w9.setCell ⟨w.heap.size, 0, none⟩ (.slice a7 n7 c7)).setCell ⟨w.heap.size, 1, none⟩ (.slice a9 n9 c9)).cell? ⟨w4.heap.size, 2, none⟩ = some (.bool ((bitS (k : Int)) 2)) ∧ ((w9.setCell ⟨w.heap.size, 0, none⟩ (.slice a7 n7 c7)).setCell ⟨w.heap.size, 1, none⟩ (.slice a9 n9 c9)).cell? ⟨w4.heap.size, 3, none⟩ = some (.bool ((bitS (k : Int)) 3)) ∧ ((w9.setCell ⟨w.heap.size, 0, none⟩ (.slice a7 n7 c7)).setCell ⟨w.heap.size, 1, none⟩ (.slice a9 n9 c9)).cell? ⟨w4.heap.size, 4, none⟩ = some (.bool ((bitS (k : Int)) 4)) ∧ ((w9.setCell ⟨w.heap.size, 0, none⟩ (.slice a7 n7 c7)).setCell ⟨w.heap.size, 1, none⟩ (.slice a9 n9 c9)).cell? ⟨w4.heap.size, 5, none⟩ = some (.bool ((bitS (k : Int)) 5)) ∧ ((w9.setCell ⟨w.heap.size, 0, none⟩ (.slice a7 n7 c7)).setCell ⟨w.heap.size, 1, none⟩ (.slice a9 n9 c9)).cell? ⟨b, 0, none⟩ = some (.bool ((andS (clS ds (bitS (k : Int))) (inS ps)) 0)) ∧ ((w9.setCell ⟨w.heap.size, 0, none⟩ (.slice a7 n7 c7)).setCell ⟨w.heap.size, 1, none⟩ (.slice a9 n9 c9)).cell? ⟨b, 1, none⟩ = some (.bool ((andS (clS ds (bitS (k : Int))) (inS ps)) 1)) ∧ ((w9.setCell ⟨w.heap.size, 0, none⟩ (.slice a7 n7 c7)).setCell ⟨w.heap.size, 1, none⟩ (.slice a9 n9 c9)).cell? ⟨b, 2, none⟩ = some (.bool ((andS (clS ds (bitS (k : Int))) (inS ps)) 2)) ∧ ((w9.setCell ⟨w.heap.size, 0, none⟩ (.slice a7 n7 c7)).setCell ⟨w.heap.size, 1, none⟩ (.slice a9 n9 c9)).cell? ⟨b, 3, none⟩ = some (.bool ((andS (clS ds (bitS (k : Int))) (inS ps)) 3)) ∧ ((w9.setCell ⟨w.heap.size, 0, none⟩ (.slice a7 n7 c7)).setCell ⟨w.heap.size, 1, none⟩ (.slice a9 n9 c9)).cell? ⟨b, 4, none⟩ = some (.bool ((andS (clS ds (bitS (k : Int))) (inS ps)) 4)) ∧ ((w9.setCell ⟨w.heap.size, 0, none⟩ (.slice a7 n7 c7)).setCell ⟨w.heap.size, 1, none⟩ (.slice a9 n9 c9)).cell? ⟨b, 5, none⟩ = some (.bool ((andS (clS ds (bitS (k : Int))) (inS ps)) 5))) := KS2.out w9 _ _ K9.out; obtain ⟨c0, c1, f0, f1⟩ := NC.out.below K9.out; clear ho9 hb9))
                    all_goals
                      go_wp2
                      try rw [Exit.noGoto_ret]
                      refine bodyPost_ret (v := .tuple #[.agg #[.slice a7 n7 c7, .slice a9 n9 c9], .bool true]) (by simp [results, Try.results33, go_sem, c0, c1]) rfl ?_
                      rw [E.out.1, E.out.2, FB.out]
                      exact depR_yes (lo := wc.heap.size) E9.out hwc (Nat.le_refl _) (Frame.next BC.out K9.out BC.out.size)
                  · have F : Hid (∀ m, m < k + 1 → badP ds ps m = false) := fun m hm => by
                      by_cases e : m = k
                      · rw [e, PB.out, hs1, hs2]; rfl
                      · exact HA.out m (by omega)
                    rw [hs1] at EQ1
                    rw [hs2] at EQ2
                    clear hs1 hs2
                    go_wp2_with fail
                    go_roundg (go - 1)
                    case measure => have := KG.out; omega
                    case rel => exact ⟨k + 1, by have := KG.out; omega, by go_num, F.out, X13.out⟩
                · have F : Hid (∀ m, m < k + 1 → badP ds ps m = false) := fun m hm => by
                    by_cases e : m = k
                    · rw [e, PB.out, hs1]; rfl
                    · exact HA.out m (by omega)
                  rw [hs1] at EQ1
                  clear hs1
                  go_wp2_with fail
                  go_roundg (go - 1)
                  case measure => have := KG.out; omega
                  case rel => exact ⟨k + 1, by have := KG.out; omega, by go_num, F.out, X13.out⟩

        · have hltI : ¬ (k : Int) < (N : Int) := by omega
          have FB : Hid (badF ds ps = none) := HEN.out (fun m hm => HA.out m (by omega))
          obtain ⟨c0, c1, f0, f1⟩ := (HN.out.below CY.out).below HX.out
          have B5 : Hid (Below w.heap.size w wr) := Frame.next BY.out HX.out BY.out.size
          go_wp2
          try rw [Exit.noGoto_ret]
          refine bodyPost_ret (v := .tuple #[.agg #[.slice none 0 0, .slice none 0 0], .bool false]) (by simp [results, Try.results33, go_sem, c0, c1]) rfl ?_
          rw [E.out.1, E.out.2, FB.out]
          exact depR_no (Nat.le_refl _) B5.out


end Go.Proofs.Ythhldnlbneamiaa.Bsr
