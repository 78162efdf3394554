/-
  Contracts of l8Waits and of WaitsFor of both; an ask by value.
-/
import Derived.Test.YtkondmnkmbdncaaLkd
namespace Go.Proofs.Ytkondmnkmbdncaa.Lke
open Go.RowKit
open Go.Proofs.Ytkondmnkmbdncaa.Frame Go.Proofs.Ytkondmnkmbdncaa.Mem Go.Proofs.Ytkondmnkmbdncaa.Ints Go.Proofs.Ytkondmnkmbdncaa.Kep Go.Proofs.Ytkondmnkmbdncaa.Lls Go.Proofs.Ytkondmnkmbdncaa.Knl Go.Proofs.Ytkondmnkmbdncaa.Mis Go.Proofs.Ytkondmnkmbdncaa.Kpi Go.Proofs.Ytkondmnkmbdncaa.Lkp Go.Proofs.Ytkondmnkmbdncaa.Lka Go.Proofs.Ytkondmnkmbdncaa.Lkb Go.Proofs.Ytkondmnkmbdncaa.Lkc Go.Proofs.Ytkondmnkmbdncaa.Lkd Go.Proofs.Ytkondmnkmbdncaa.Rel
open Go.Proofs.Ytkondmnkmbdncaa.SLocks (D SIs)

set_option maxRecDepth 8000 in
set_option maxHeartbeats 3200000 in
theorem spec_waits (a0 a1 a2 : Option Addr) (c0 c1 n2 c2 : Nat) (who : Int) (it : Nat) (wri fin : Bool) (d : D) (w : World) (h0 : LIs w (.slice a0 4 c0) d.1) (h1 : IIs w (.slice a1 4 c1) d.2.1) (hit : it < 4) :
    Calls Try.prog 71 #[.agg #[.slice a0 4 c0, .slice a1 4 c1, .slice a2 n2 c2], .agg #[.int .i64 who, .int .i64 (it : Int), .bool wri, .bool fin]] w fun e w' => ∃ a' m c', e = .returned (.slice a' m c') ∧ m ≤ 4 ∧ w'.ownsRow w.heap.size 3 1 (.slice a' m c') m (ints .i64 (waitN d (who, (it : Int), wri, fin))) ∧ Below w.heap.size w w' := by
  obtain ⟨i0, hi, hz0, hz1, hz2⟩ := info_parts Ints.info
  have H0 : Hid (LIs w (.slice a0 4 c0) d.1) := h0
  have H1 : Hid (IIs w (.slice a1 4 c1) d.2.1) := h1
  have BP : Hid (Below w.heap.size w ((w.alloc (.cells #[.slice a0 4 c0, .slice a1 4 c1, .slice a2 n2 c2] 26)).alloc (.cells #[.int .i64 who, .int .i64 (it : Int), .bool wri, .bool fin] 28))) := ((Below.refl _ _).alloc (Nat.le_refl _) _).alloc (by simp) _
  have KP : Hid (((w.alloc (.cells #[.slice a0 4 c0, .slice a1 4 c1, .slice a2 n2 c2] 26)).alloc (.cells #[.int .i64 who, .int .i64 (it : Int), .bool wri, .bool fin] 28)).cell? ⟨w.heap.size, 0, none⟩ = some (.slice a0 4 c0) ∧ ((w.alloc (.cells #[.slice a0 4 c0, .slice a1 4 c1, .slice a2 n2 c2] 26)).alloc (.cells #[.int .i64 who, .int .i64 (it : Int), .bool wri, .bool fin] 28)).cell? ⟨w.heap.size, 1, none⟩ = some (.slice a1 4 c1) ∧ ((w.alloc (.cells #[.slice a0 4 c0, .slice a1 4 c1, .slice a2 n2 c2] 26)).alloc (.cells #[.int .i64 who, .int .i64 (it : Int), .bool wri, .bool fin] 28)).cell? ⟨w.heap.size, 2, none⟩ = some (.slice a2 n2 c2) ∧ ((w.alloc (.cells #[.slice a0 4 c0, .slice a1 4 c1, .slice a2 n2 c2] 26)).alloc (.cells #[.int .i64 who, .int .i64 (it : Int), .bool wri, .bool fin] 28)).cell? ⟨w.heap.size + 1, 0, none⟩ = some (.int .i64 who) ∧ ((w.alloc (.cells #[.slice a0 4 c0, .slice a1 4 c1, .slice a2 n2 c2] 26)).alloc (.cells #[.int .i64 who, .int .i64 (it : Int), .bool wri, .bool fin] 28)).cell? ⟨w.heap.size + 1, 1, none⟩ = some (.int .i64 (it : Int)) ∧ ((w.alloc (.cells #[.slice a0 4 c0, .slice a1 4 c1, .slice a2 n2 c2] 26)).alloc (.cells #[.int .i64 who, .int .i64 (it : Int), .bool wri, .bool fin] 28)).cell? ⟨w.heap.size + 1, 2, none⟩ = some (.bool wri) ∧ ((w.alloc (.cells #[.slice a0 4 c0, .slice a1 4 c1, .slice a2 n2 c2] 26)).alloc (.cells #[.int .i64 who, .int .i64 (it : Int), .bool wri, .bool fin] 28)).cell? ⟨w.heap.size + 1, 3, none⟩ = some (.bool fin)) := by show _ ∧ _; refine ⟨?_, ?_, ?_, ?_, ?_, ?_, ?_⟩ <;> go_simp
  obtain ⟨b0, o0, ra, rn, rc, rfl, hlb0, hcr, hrr, _⟩ := (row_at h0).2 it hit
  obtain ⟨b1, o1, rfl, hlb1, hcs1⟩ := (num_at h1).1.cells (by omega)
  have hcs := hcs1 it hit
  have itI : (it : Int) < 4 := by omega
  have HC0 : Hid (w.cell? ⟨b0, o0 + it, none⟩ = some (.slice ra rn rc)) := hcr
  have HC1 : Hid (w.cell? ⟨b1, o1 + it, none⟩ = some (.int .i64 (d.2.1.getD it 0))) := hcs
  have HR0 : Hid (IsRow .i64 w ra rn rc (d.1.getD it [])) := hrr
  have HKB : Hid (∀ x : Int, keepB d (who, (it : Int), wri, fin) x = (x != who && (bif wri then (decide (x ∈ d.1.getD it []) || (d.2.1.getD it 0 == x)) else (d.2.1.getD it 0 == x)))) := fun x => by unfold keepB heldB readB writeB Lkp.rowAt wrAt; simp only [Int.toNat_natCast]
  generalize d.2.1.getD it 0 = X at HC1 HKB
  generalize d.1.getD it [] = Z at HR0 HKB
  clear h0 h1 hcs1 hcs hcr hrr
  go_enter Try.func71, Try.ntmps71
  go_wp2_with fail
  go_loopw [5, 6] (fun v i wr => ∃ (k m : Nat) (a' : Option Addr) (c' : Nat), k ≤ 4 ∧ m ≤ k ∧ i = .int .i64 k ∧ v = .slice a' m c' ∧ wr.ownsRow ((w.alloc (.cells #[.slice (some ⟨b0, o0, none⟩) 4 c0, .slice (some ⟨b1, o1, none⟩) 4 c1, .slice a2 n2 c2] 26)).alloc (.cells #[.int .i64 who, .int .i64 (it : Int), .bool wri, .bool fin] 28)).heap.size 3 1 (.slice a' m c') m (ints .i64 ((four.take k).filter (keepB d (who, (it : Int), wri, fin)))) ∧ Below ((w.alloc (.cells #[.slice (some ⟨b0, o0, none⟩) 4 c0, .slice (some ⟨b1, o1, none⟩) 4 c1, .slice a2 n2 c2] 26)).alloc (.cells #[.int .i64 who, .int .i64 (it : Int), .bool wri, .bool fin] 28)).heap.size ((w.alloc (.cells #[.slice (some ⟨b0, o0, none⟩) 4 c0, .slice (some ⟨b1, o1, none⟩) 4 c1, .slice a2 n2 c2] 26)).alloc (.cells #[.int .i64 who, .int .i64 (it : Int), .bool wri, .bool fin] 28)) wr) (fun _ i _ => 4 - (intOf i).toNat)
  case atStart => exact ⟨0, 0, none, 0, by omega, by omega, rfl, rfl, World.ownsRow_nil _ _ _ _, Below.refl _ _⟩
  case round =>
    obtain ⟨k, m, a', c', hk, hmk, rfl, rfl, ho, hnx⟩ := hrel
    have HO : Hid (wr.ownsRow ((w.alloc (.cells #[.slice (some ⟨b0, o0, none⟩) 4 c0, .slice (some ⟨b1, o1, none⟩) 4 c1, .slice a2 n2 c2] 26)).alloc (.cells #[.int .i64 who, .int .i64 (it : Int), .bool wri, .bool fin] 28)).heap.size 3 1 (.slice a' m c') m (ints .i64 ((four.take k).filter (keepB d (who, (it : Int), wri, fin))))) := ho
    have HN : Hid (Below ((w.alloc (.cells #[.slice (some ⟨b0, o0, none⟩) 4 c0, .slice (some ⟨b1, o1, none⟩) 4 c1, .slice a2 n2 c2] 26)).alloc (.cells #[.int .i64 who, .int .i64 (it : Int), .bool wri, .bool fin] 28)).heap.size ((w.alloc (.cells #[.slice (some ⟨b0, o0, none⟩) 4 c0, .slice (some ⟨b1, o1, none⟩) 4 c1, .slice a2 n2 c2] 26)).alloc (.cells #[.int .i64 who, .int .i64 (it : Int), .bool wri, .bool fin] 28)) wr) := hnx
    have HNw : Hid (Below w.heap.size w wr) := Frame.next BP.out hnx BP.out.size
    obtain ⟨q0, q1, q2, q3, q4, q5, q6⟩ := (show wr.cell? ⟨w.heap.size, 0, none⟩ = some (.slice (some ⟨b0, o0, none⟩) 4 c0) ∧ wr.cell? ⟨w.heap.size, 1, none⟩ = some (.slice (some ⟨b1, o1, none⟩) 4 c1) ∧ wr.cell? ⟨w.heap.size, 2, none⟩ = some (.slice a2 n2 c2) ∧ wr.cell? ⟨w.heap.size + 1, 0, none⟩ = some (.int .i64 who) ∧ wr.cell? ⟨w.heap.size + 1, 1, none⟩ = some (.int .i64 (it : Int)) ∧ wr.cell? ⟨w.heap.size + 1, 2, none⟩ = some (.bool wri) ∧ wr.cell? ⟨w.heap.size + 1, 3, none⟩ = some (.bool fin) from ⟨Frame.held_cell hnx KP.out.1, Frame.held_cell hnx KP.out.2.1, Frame.held_cell hnx KP.out.2.2.1, Frame.held_cell hnx KP.out.2.2.2.1, Frame.held_cell hnx KP.out.2.2.2.2.1, Frame.held_cell hnx KP.out.2.2.2.2.2.1, Frame.held_cell hnx KP.out.2.2.2.2.2.2⟩)
    clear ho hnx
    by_cases hlt : k < 4
    · have hkI : (k : Int) < 4 := by omega
      have hc0 : wr.cell? ⟨b0, o0 + it, none⟩ = some (.slice ra rn rc) := Frame.held_cell HNw.out HC0.out
      have hc1 : wr.cell? ⟨b1, o1 + it, none⟩ = some (.int .i64 X) := Frame.held_cell HNw.out HC1.out
      have HF : Hid ((four.take (k + 1)).filter (keepB d (who, (it : Int), wri, fin)) = (four.take k).filter (keepB d (who, (it : Int), wri, fin)) ++ (if (keepB d (who, (it : Int), wri, fin)) (k : Int) then [(k : Int)] else [])) := filter_four hlt
      have HQ := HKB.out (k : Int)
      have HOa4 : Hid ((wr.alloc (.cells #[.int .i64 k] 3)).ownsRow ((w.alloc (.cells #[.slice (some ⟨b0, o0, none⟩) 4 c0, .slice (some ⟨b1, o1, none⟩) 4 c1, .slice a2 n2 c2] 26)).alloc (.cells #[.int .i64 who, .int .i64 (it : Int), .bool wri, .bool fin] 28)).heap.size 3 1 (.slice a' m c') m (ints .i64 ((four.take k).filter (keepB d (who, (it : Int), wri, fin))))) := own_below HO.out ((Below.refl _ _).alloc (Nat.le_refl _) _)
      have HNa4 : Hid (Below ((w.alloc (.cells #[.slice (some ⟨b0, o0, none⟩) 4 c0, .slice (some ⟨b1, o1, none⟩) 4 c1, .slice a2 n2 c2] 26)).alloc (.cells #[.int .i64 who, .int .i64 (it : Int), .bool wri, .bool fin] 28)).heap.size ((w.alloc (.cells #[.slice (some ⟨b0, o0, none⟩) 4 c0, .slice (some ⟨b1, o1, none⟩) 4 c1, .slice a2 n2 c2] 26)).alloc (.cells #[.int .i64 who, .int .i64 (it : Int), .bool wri, .bool fin] 28)) (wr.alloc (.cells #[.int .i64 k] 3))) := HN.out.alloc HN.out.size _
      have Sa4 : Hid (0 < 1 → ∃ ad, (some ⟨wr.heap.size, 0, none⟩ : Option Addr) = some ad ∧ ∀ j u, ([.int .i64 k] : List Value)[j]? = some u → (wr.alloc (.cells #[.int .i64 k] 3)).cell? (ad.add j) = some u) := news_one wr _ _
      by_cases hw : (k : Int) = who
      · have hwb : ((k : Int) != who) = false := by rw [hw]; simp
        have F : Hid ((four.take (k + 1)).filter (keepB d (who, (it : Int), wri, fin)) = (four.take k).filter (keepB d (who, (it : Int), wri, fin))) := by show _ = _; rw [HF.out, HQ, hwb, Bool.false_and]; exact List.append_nil _
        clear HF HQ hw
        clear HOa4 HNa4 Sa4
        go_wp2
        go_roundw
        case rel => exact ⟨k + 1, m, a', c', by omega, by omega, by go_num, rfl, by rw [F.out]; exact HO.out, HN.out⟩
        case measure => simp [intOf]; omega
      have hwb : ((k : Int) != who) = true := by rw [bne_iff_ne]; exact hw
      rw [hwb, Bool.true_and] at HQ
      clear hw
      by_cases hx : X = (k : Int)
      · have hxb : (X == (k : Int)) = true := by rw [beq_iff_eq]; exact hx
        have F : Hid ((four.take (k + 1)).filter (keepB d (who, (it : Int), wri, fin)) = (four.take k).filter (keepB d (who, (it : Int), wri, fin)) ++ [(k : Int)]) := by show _ = _; rw [HF.out, HQ, hxb, (show (bif wri then (decide ((k : Int) ∈ Z) || true) else true) = true by cases wri <;> simp)]; rfl
        clear HF HQ hx
        go_wp2_with (at_builtin; refine App.wpList_append_all _ rfl _ _ 24 rfl ((w.alloc (.cells #[.slice (some ⟨b0, o0, none⟩) 4 c0, .slice (some ⟨b1, o1, none⟩) 4 c1, .slice a2 n2 c2] 26)).alloc (.cells #[.int .i64 who, .int .i64 (it : Int), .bool wri, .bool fin] 28)).heap.size 3 i0 (.int .i64 0) 1 8 Try.underlying24 hi hz0 hz1 hz2 rfl (by decide) _ _ _ rfl HOa4.out _ 1 _ [.int .i64 k] rfl rfl Sa4.out (by simp [Value.oneCell']) (by unfold maxLen; omega) (by omega) HNa4.out.size ?_)
        intro a4 c4 w4 hown4 hgrow4
        have O4 : Hid (w4.ownsRow ((w.alloc (.cells #[.slice (some ⟨b0, o0, none⟩) 4 c0, .slice (some ⟨b1, o1, none⟩) 4 c1, .slice a2 n2 c2] 26)).alloc (.cells #[.int .i64 who, .int .i64 (it : Int), .bool wri, .bool fin] 28)).heap.size 3 1 (.slice a4 (m + 1) c4) (m + 1) (ints .i64 ((four.take (k + 1)).filter (keepB d (who, (it : Int), wri, fin))))) := by show World.ownsRow _ _ _ _ _ _ _; rw [F.out]; simpa [ints] using hown4
        have N4 : Hid (Below ((w.alloc (.cells #[.slice (some ⟨b0, o0, none⟩) 4 c0, .slice (some ⟨b1, o1, none⟩) 4 c1, .slice a2 n2 c2] 26)).alloc (.cells #[.int .i64 who, .int .i64 (it : Int), .bool wri, .bool fin] 28)).heap.size ((w.alloc (.cells #[.slice (some ⟨b0, o0, none⟩) 4 c0, .slice (some ⟨b1, o1, none⟩) 4 c1, .slice a2 n2 c2] 26)).alloc (.cells #[.int .i64 who, .int .i64 (it : Int), .bool wri, .bool fin] 28)) w4) := below_app HNa4.out HOa4.out hgrow4 HNa4.out.size (Nat.le_refl _)
        clear hown4 hgrow4 q0 q1 q2 q3 q4 q5 q6
        go_wp2
        go_roundw
        case rel => exact ⟨k + 1, m + 1, a4, c4, by omega, by omega, by go_num, rfl, O4.out, N4.out⟩
        case measure => simp [intOf]; omega
      have hxb : (X == (k : Int)) = false := by rw [beq_eq_false_iff_ne]; exact hx
      rw [hxb, Bool.or_false] at HQ
      clear hx
      cases wri
      · have F : Hid ((four.take (k + 1)).filter (keepB d (who, (it : Int), false, fin)) = (four.take k).filter (keepB d (who, (it : Int), false, fin))) := by show _ = _; rw [HF.out, (show (keepB d (who, (it : Int), false, fin)) (k : Int) = false from HQ)]; exact List.append_nil _
        clear HF HQ
        clear HOa4 HNa4 Sa4
        go_wp2
        go_roundw
        case rel => exact ⟨k + 1, m, a', c', by omega, by omega, by go_num, rfl, by rw [F.out]; exact HO.out, HN.out⟩
        case measure => simp [intOf]; omega
      have HQ2 : Hid ((keepB d (who, (it : Int), true, fin)) (k : Int) = decide ((k : Int) ∈ Z)) := HQ
      clear HQ
      go_wp2_with fail
      refine (Ihl.l1Has ra rn rc Z (k : Int) _ (IsRow.below HR0.out HNw.out)).mono ?_
      rintro e w' ⟨rfl, hw'⟩; have hw'' := hw'.symm; clear hw'; subst hw''
      rcases Bool.eq_false_or_eq_true (decide ((k : Int) ∈ Z)) with hd | hd
      · have F : Hid ((four.take (k + 1)).filter (keepB d (who, (it : Int), true, fin)) = (four.take k).filter (keepB d (who, (it : Int), true, fin)) ++ [(k : Int)]) := by show _ = _; rw [HF.out, HQ2.out, hd]; rfl
        rw [hd]
        clear HF HQ2 hd
        go_wp2_with (at_builtin; refine App.wpList_append_all _ rfl _ _ 24 rfl ((w.alloc (.cells #[.slice (some ⟨b0, o0, none⟩) 4 c0, .slice (some ⟨b1, o1, none⟩) 4 c1, .slice a2 n2 c2] 26)).alloc (.cells #[.int .i64 who, .int .i64 (it : Int), .bool true, .bool fin] 28)).heap.size 3 i0 (.int .i64 0) 1 8 Try.underlying24 hi hz0 hz1 hz2 rfl (by decide) _ _ _ rfl HOa4.out _ 1 _ [.int .i64 k] rfl rfl Sa4.out (by simp [Value.oneCell']) (by unfold maxLen; omega) (by omega) HNa4.out.size ?_)
        intro a4 c4 w4 hown4 hgrow4
        have O4 : Hid (w4.ownsRow ((w.alloc (.cells #[.slice (some ⟨b0, o0, none⟩) 4 c0, .slice (some ⟨b1, o1, none⟩) 4 c1, .slice a2 n2 c2] 26)).alloc (.cells #[.int .i64 who, .int .i64 (it : Int), .bool true, .bool fin] 28)).heap.size 3 1 (.slice a4 (m + 1) c4) (m + 1) (ints .i64 ((four.take (k + 1)).filter (keepB d (who, (it : Int), true, fin))))) := by show World.ownsRow _ _ _ _ _ _ _; rw [F.out]; simpa [ints] using hown4
        have N4 : Hid (Below ((w.alloc (.cells #[.slice (some ⟨b0, o0, none⟩) 4 c0, .slice (some ⟨b1, o1, none⟩) 4 c1, .slice a2 n2 c2] 26)).alloc (.cells #[.int .i64 who, .int .i64 (it : Int), .bool true, .bool fin] 28)).heap.size ((w.alloc (.cells #[.slice (some ⟨b0, o0, none⟩) 4 c0, .slice (some ⟨b1, o1, none⟩) 4 c1, .slice a2 n2 c2] 26)).alloc (.cells #[.int .i64 who, .int .i64 (it : Int), .bool true, .bool fin] 28)) w4) := below_app HNa4.out HOa4.out hgrow4 HNa4.out.size (Nat.le_refl _)
        clear hown4 hgrow4 q0 q1 q2 q3 q4 q5 q6
        go_wp2
        go_roundw
        case rel => exact ⟨k + 1, m + 1, a4, c4, by omega, by omega, by go_num, rfl, O4.out, N4.out⟩
        case measure => simp [intOf]; omega
      · have F : Hid ((four.take (k + 1)).filter (keepB d (who, (it : Int), true, fin)) = (four.take k).filter (keepB d (who, (it : Int), true, fin))) := by show _ = _; rw [HF.out, HQ2.out, hd]; exact List.append_nil _
        rw [hd]
        clear HF HQ2 hd
        clear HOa4 HNa4 Sa4
        go_wp2
        go_roundw
        case rel => exact ⟨k + 1, m, a', c', by omega, by omega, by go_num, rfl, by rw [F.out]; exact HO.out, HN.out⟩
        case measure => simp [intOf]; omega
    · obtain rfl : k = 4 := by omega
      have O4 : Hid (wr.ownsRow ((w.alloc (.cells #[.slice (some ⟨b0, o0, none⟩) 4 c0, .slice (some ⟨b1, o1, none⟩) 4 c1, .slice a2 n2 c2] 26)).alloc (.cells #[.int .i64 who, .int .i64 (it : Int), .bool wri, .bool fin] 28)).heap.size 3 1 (.slice a' m c') m (ints .i64 (waitN d (who, (it : Int), wri, fin)))) := HO.out
      clear q0 q1 q2 q3 q4 q5 q6
      go_wp2
      go_ret
      exact ⟨_, _, _, rfl, hmk, own_base O4.out BP.out.size, HNw.out⟩

theorem waitN_wf (d : D) (a : Ak) : ∀ z ∈ waitN d a, (Lit.int .i64 z).wf = true := fun z hz => by
  unfold waitN at hz
  have := four_mem.1 (List.mem_filter.1 hz).1
  exact int_wf z (by omega) (by omega)

set_option maxRecDepth 8000 in
set_option maxHeartbeats 1600000 in
theorem impl_WaitsFor (u0 u1 u2 : Value) (d : D) (who item : Int) (wri fin : Bool) (w : World) (h : SIs w u0 u1 u2 d) :
    Calls Try.prog 17 #[.agg #[u0, u1, u2], .agg #[.int .i64 who, .int .i64 item, .bool wri, .bool fin]] w fun e w' => ∃ u, e = .returned (.tuple #[u, .bool (waitG d (who, item, wri, fin))]) ∧ IOwn w' w.heap.size w'.heap.size u (waitV d (who, item, wri, fin)) ∧ Below w.heap.size w w' := by
  obtain ⟨a0, n0, c0, e0⟩ := Krl.lIs_slice h.1; subst e0
  obtain ⟨a1, n1, c1, e1⟩ := Krl.iIs_slice h.2.1; subst e1
  obtain ⟨a2, n2, c2, e2⟩ := Krl.iIs_slice h.2.2; subst e2
  have HS : Hid (SIs w (.slice a0 n0 c0) (.slice a1 n1 c1) (.slice a2 n2 c2) d) := h
  have BP : Hid (Below w.heap.size w ((w.alloc (.cells #[.slice a0 n0 c0, .slice a1 n1 c1, .slice a2 n2 c2] 26)).alloc (.cells #[.int .i64 who, .int .i64 item, .bool wri, .bool fin] 28))) := ((Below.refl _ _).alloc (Nat.le_refl _) _).alloc (by simp) _
  have KP : Hid (((w.alloc (.cells #[.slice a0 n0 c0, .slice a1 n1 c1, .slice a2 n2 c2] 26)).alloc (.cells #[.int .i64 who, .int .i64 item, .bool wri, .bool fin] 28)).cell? ⟨w.heap.size, 0, none⟩ = some (.slice a0 n0 c0) ∧ ((w.alloc (.cells #[.slice a0 n0 c0, .slice a1 n1 c1, .slice a2 n2 c2] 26)).alloc (.cells #[.int .i64 who, .int .i64 item, .bool wri, .bool fin] 28)).cell? ⟨w.heap.size, 1, none⟩ = some (.slice a1 n1 c1) ∧ ((w.alloc (.cells #[.slice a0 n0 c0, .slice a1 n1 c1, .slice a2 n2 c2] 26)).alloc (.cells #[.int .i64 who, .int .i64 item, .bool wri, .bool fin] 28)).cell? ⟨w.heap.size, 2, none⟩ = some (.slice a2 n2 c2) ∧ ((w.alloc (.cells #[.slice a0 n0 c0, .slice a1 n1 c1, .slice a2 n2 c2] 26)).alloc (.cells #[.int .i64 who, .int .i64 item, .bool wri, .bool fin] 28)).cell? ⟨w.heap.size + 1, 0, none⟩ = some (.int .i64 who) ∧ ((w.alloc (.cells #[.slice a0 n0 c0, .slice a1 n1 c1, .slice a2 n2 c2] 26)).alloc (.cells #[.int .i64 who, .int .i64 item, .bool wri, .bool fin] 28)).cell? ⟨w.heap.size + 1, 1, none⟩ = some (.int .i64 item) ∧ ((w.alloc (.cells #[.slice a0 n0 c0, .slice a1 n1 c1, .slice a2 n2 c2] 26)).alloc (.cells #[.int .i64 who, .int .i64 item, .bool wri, .bool fin] 28)).cell? ⟨w.heap.size + 1, 2, none⟩ = some (.bool wri) ∧ ((w.alloc (.cells #[.slice a0 n0 c0, .slice a1 n1 c1, .slice a2 n2 c2] 26)).alloc (.cells #[.int .i64 who, .int .i64 item, .bool wri, .bool fin] 28)).cell? ⟨w.heap.size + 1, 3, none⟩ = some (.bool fin)) := by show _ ∧ _; refine ⟨?_, ?_, ?_, ?_, ?_, ?_, ?_⟩ <;> go_simp
  have HGG : Hid (waitG d (who, item, wri, fin) = (goodK d && (askB d (who, item, wri, fin) && !fin))) := rfl
  have HNO : Hid (waitG d (who, item, wri, fin) = false → waitV d (who, item, wri, fin) = []) := fun e => by unfold waitV; rw [if_neg (by rw [e]; exact Bool.false_ne_true)]
  have HYES : Hid (waitG d (who, item, wri, fin) = true → waitV d (who, item, wri, fin) = waitN d (who, item, wri, fin)) := fun e => by unfold waitV; rw [if_pos e]
  clear h
  go_enter Try.func17, Try.ntmps17
  go_wp2_with fail
  refine (Lkb.impl_Good a0 a1 a2 n0 c0 n1 c1 n2 c2 d _ (SLocks.sIs_below HS.out BP.out)).mono ?_
  rintro e w1 ⟨rfl, hb1⟩
  have BW1 : Hid (Below ((w.alloc (.cells #[.slice a0 n0 c0, .slice a1 n1 c1, .slice a2 n2 c2] 26)).alloc (.cells #[.int .i64 who, .int .i64 item, .bool wri, .bool fin] 28)).heap.size ((w.alloc (.cells #[.slice a0 n0 c0, .slice a1 n1 c1, .slice a2 n2 c2] 26)).alloc (.cells #[.int .i64 who, .int .i64 item, .bool wri, .bool fin] 28)) w1) := hb1
  have B1 : Hid (Below w.heap.size w w1) := Frame.next BP.out hb1 BP.out.size
  have K1 : Hid (w1.cell? ⟨w.heap.size, 0, none⟩ = some (.slice a0 n0 c0) ∧ w1.cell? ⟨w.heap.size, 1, none⟩ = some (.slice a1 n1 c1) ∧ w1.cell? ⟨w.heap.size, 2, none⟩ = some (.slice a2 n2 c2) ∧ w1.cell? ⟨w.heap.size + 1, 0, none⟩ = some (.int .i64 who) ∧ w1.cell? ⟨w.heap.size + 1, 1, none⟩ = some (.int .i64 item) ∧ w1.cell? ⟨w.heap.size + 1, 2, none⟩ = some (.bool wri) ∧ w1.cell? ⟨w.heap.size + 1, 3, none⟩ = some (.bool fin)) := ⟨Frame.held_cell hb1 KP.out.1, Frame.held_cell hb1 KP.out.2.1, Frame.held_cell hb1 KP.out.2.2.1, Frame.held_cell hb1 KP.out.2.2.2.1, Frame.held_cell hb1 KP.out.2.2.2.2.1, Frame.held_cell hb1 KP.out.2.2.2.2.2.1, Frame.held_cell hb1 KP.out.2.2.2.2.2.2⟩
  clear hb1
  obtain ⟨q0, q1, q2, q3, q4, q5, q6⟩ := K1.out
  rcases Bool.eq_false_or_eq_true (goodK d) with hg | hg
  rotate_left
  · have F : Hid (waitG d (who, item, wri, fin) = false) := by show _ = _; rw [HGG.out, hg]; rfl
    rw [hg]
    clear hg q0 q1 q2 q3 q4 q5 q6
    go_wp2
    go_ret2
    exact ⟨.slice none 0 0, by rw [F.out]; rfl, by rw [HNO.out F.out]; exact iOwn_nil _ _ _, B1.out⟩
  have HG1 : Hid (waitG d (who, item, wri, fin) = (askB d (who, item, wri, fin) && !fin)) := by show _ = _; rw [HGG.out, hg]; rfl
  obtain ⟨g0, g1, _⟩ := good_parts hg
  have h40 : n0 = 4 := (row_at HS.out.1).1.symm.trans g0
  have h41 : n1 = 4 := (num_at HS.out.2.1).1.len.symm.trans g1
  subst h40 h41
  rw [hg]
  clear hg g0 g1
  go_wp2_with fail
  refine (impl_ask a0 a1 a2 4 c0 4 c1 n2 c2 who item wri fin d _ (iIs_below HS.out.2.2 B1.out)).mono ?_
  rintro e w2 ⟨rfl, hb2⟩
  have B2 : Hid (Below w.heap.size w w2) := Frame.next B1.out hb2 B1.out.size
  have K2 : Hid (w2.cell? ⟨w.heap.size, 0, none⟩ = some (.slice a0 4 c0) ∧ w2.cell? ⟨w.heap.size, 1, none⟩ = some (.slice a1 4 c1) ∧ w2.cell? ⟨w.heap.size, 2, none⟩ = some (.slice a2 n2 c2) ∧ w2.cell? ⟨w.heap.size + 1, 0, none⟩ = some (.int .i64 who) ∧ w2.cell? ⟨w.heap.size + 1, 1, none⟩ = some (.int .i64 item) ∧ w2.cell? ⟨w.heap.size + 1, 2, none⟩ = some (.bool wri) ∧ w2.cell? ⟨w.heap.size + 1, 3, none⟩ = some (.bool fin)) := ⟨Frame.held_cell hb2 K1.out.1, Frame.held_cell hb2 K1.out.2.1, Frame.held_cell hb2 K1.out.2.2.1, Frame.held_cell hb2 K1.out.2.2.2.1, Frame.held_cell hb2 K1.out.2.2.2.2.1, Frame.held_cell hb2 K1.out.2.2.2.2.2.1, Frame.held_cell hb2 K1.out.2.2.2.2.2.2⟩
  clear hb2 q0 q1 q2 q3 q4 q5 q6
  obtain ⟨q0, q1, q2, q3, q4, q5, q6⟩ := K2.out
  rcases Bool.eq_false_or_eq_true (askB d (who, item, wri, fin)) with hg | hg
  rotate_left
  · have F : Hid (waitG d (who, item, wri, fin) = false) := by show _ = _; rw [HG1.out, hg]; rfl
    rw [hg]
    clear hg q0 q1 q2 q3 q4 q5 q6
    go_wp2
    go_ret2
    exact ⟨.slice none 0 0, by rw [F.out]; rfl, by rw [HNO.out F.out]; exact iOwn_nil _ _ _, B2.out⟩
  have HG2 : Hid (waitG d (who, item, wri, fin) = !fin) := by show _ = _; rw [HG1.out, hg]; rfl
  have HIT : Hid (fin = false → Val.inB item 0 3 = true) := fun e => by
    have := (Bool.and_eq_true_iff.1 (Bool.and_eq_true_iff.1 hg).2).2
    subst e
    exact this
  rw [hg]
  clear hg
  cases fin
  rotate_left
  · have F : Hid (waitG d (who, item, wri, true) = false) := HG2.out
    go_wp2
    go_ret2
    exact ⟨.slice none 0 0, by rw [F.out]; rfl, by rw [HNO.out F.out]; exact iOwn_nil _ _ _, B2.out⟩
  have F : Hid (waitG d (who, item, wri, false) = true) := HG2.out
  have hi3 := inB_iff.1 (HIT.out rfl)
  obtain ⟨it, rfl⟩ : ∃ it : Nat, item = (it : Int) := ⟨item.toNat, by omega⟩
  have hit : it < 4 := by omega
  clear hi3
  go_wp2_with fail
  refine (keepers a0 a1 a2 c0 c1 n2 c2 who it wri false d _ (lIs_below HS.out.1 B2.out) (iIs_below HS.out.2.1 B2.out) hit).mono ?_
  rintro e w3 ⟨a', m, c', rfl, hm, ho, hb3⟩
  have O3 : Hid (w3.ownsRow w.heap.size 3 1 (.slice a' m c') m (ints .i64 (waitN d (who, (it : Int), wri, false)))) := own_base ho B2.out.size
  have B3 : Hid (Below w.heap.size w w3) := Frame.next B2.out hb3 B2.out.size
  clear ho hb3 q0 q1 q2 q3 q4 q5 q6
  go_wp2
  go_ret2
  exact ⟨.slice a' m c', by rw [F.out]; rfl, by rw [HYES.out F.out]; exact iOwn_of O3.out (waitN_wf d _) (by omega), B3.out⟩

set_option maxRecDepth 8000 in
set_option maxHeartbeats 1600000 in
theorem spec_WaitsFor (u0 u1 u2 : Value) (d : D) (who item : Int) (wri fin : Bool) (w : World) (h : SIs w u0 u1 u2 d) :
    Calls Try.prog 18 #[.agg #[u0, u1, u2], .agg #[.int .i64 who, .int .i64 item, .bool wri, .bool fin]] w fun e w' => ∃ u, e = .returned (.tuple #[u, .bool (waitG d (who, item, wri, fin))]) ∧ IOwn w' w.heap.size w'.heap.size u (waitV d (who, item, wri, fin)) ∧ Below w.heap.size w w' := by
  obtain ⟨a0, n0, c0, e0⟩ := Krl.lIs_slice h.1; subst e0
  obtain ⟨a1, n1, c1, e1⟩ := Krl.iIs_slice h.2.1; subst e1
  obtain ⟨a2, n2, c2, e2⟩ := Krl.iIs_slice h.2.2; subst e2
  have HS : Hid (SIs w (.slice a0 n0 c0) (.slice a1 n1 c1) (.slice a2 n2 c2) d) := h
  have BP : Hid (Below w.heap.size w ((w.alloc (.cells #[.slice a0 n0 c0, .slice a1 n1 c1, .slice a2 n2 c2] 26)).alloc (.cells #[.int .i64 who, .int .i64 item, .bool wri, .bool fin] 28))) := ((Below.refl _ _).alloc (Nat.le_refl _) _).alloc (by simp) _
  have KP : Hid (((w.alloc (.cells #[.slice a0 n0 c0, .slice a1 n1 c1, .slice a2 n2 c2] 26)).alloc (.cells #[.int .i64 who, .int .i64 item, .bool wri, .bool fin] 28)).cell? ⟨w.heap.size, 0, none⟩ = some (.slice a0 n0 c0) ∧ ((w.alloc (.cells #[.slice a0 n0 c0, .slice a1 n1 c1, .slice a2 n2 c2] 26)).alloc (.cells #[.int .i64 who, .int .i64 item, .bool wri, .bool fin] 28)).cell? ⟨w.heap.size, 1, none⟩ = some (.slice a1 n1 c1) ∧ ((w.alloc (.cells #[.slice a0 n0 c0, .slice a1 n1 c1, .slice a2 n2 c2] 26)).alloc (.cells #[.int .i64 who, .int .i64 item, .bool wri, .bool fin] 28)).cell? ⟨w.heap.size, 2, none⟩ = some (.slice a2 n2 c2) ∧ ((w.alloc (.cells #[.slice a0 n0 c0, .slice a1 n1 c1, .slice a2 n2 c2] 26)).alloc (.cells #[.int .i64 who, .int .i64 item, .bool wri, .bool fin] 28)).cell? ⟨w.heap.size + 1, 0, none⟩ = some (.int .i64 who) ∧ ((w.alloc (.cells #[.slice a0 n0 c0, .slice a1 n1 c1, .slice a2 n2 c2] 26)).alloc (.cells #[.int .i64 who, .int .i64 item, .bool wri, .bool fin] 28)).cell? ⟨w.heap.size + 1, 1, none⟩ = some (.int .i64 item) ∧ ((w.alloc (.cells #[.slice a0 n0 c0, .slice a1 n1 c1, .slice a2 n2 c2] 26)).alloc (.cells #[.int .i64 who, .int .i64 item, .bool wri, .bool fin] 28)).cell? ⟨w.heap.size + 1, 2, none⟩ = some (.bool wri) ∧ ((w.alloc (.cells #[.slice a0 n0 c0, .slice a1 n1 c1, .slice a2 n2 c2] 26)).alloc (.cells #[.int .i64 who, .int .i64 item, .bool wri, .bool fin] 28)).cell? ⟨w.heap.size + 1, 3, none⟩ = some (.bool fin)) := by show _ ∧ _; refine ⟨?_, ?_, ?_, ?_, ?_, ?_, ?_⟩ <;> go_simp
  have HGG : Hid (waitG d (who, item, wri, fin) = (goodK d && (askB d (who, item, wri, fin) && !fin))) := rfl
  have HNO : Hid (waitG d (who, item, wri, fin) = false → waitV d (who, item, wri, fin) = []) := fun e => by unfold waitV; rw [if_neg (by rw [e]; exact Bool.false_ne_true)]
  have HYES : Hid (waitG d (who, item, wri, fin) = true → waitV d (who, item, wri, fin) = waitN d (who, item, wri, fin)) := fun e => by unfold waitV; rw [if_pos e]
  clear h
  go_enter Try.func18, Try.ntmps18
  go_wp2_with fail
  refine (Lkc.spec_Good a0 a1 a2 n0 c0 n1 c1 n2 c2 d _ (SLocks.sIs_below HS.out BP.out)).mono ?_
  rintro e w1 ⟨rfl, hb1⟩
  have BW1 : Hid (Below ((w.alloc (.cells #[.slice a0 n0 c0, .slice a1 n1 c1, .slice a2 n2 c2] 26)).alloc (.cells #[.int .i64 who, .int .i64 item, .bool wri, .bool fin] 28)).heap.size ((w.alloc (.cells #[.slice a0 n0 c0, .slice a1 n1 c1, .slice a2 n2 c2] 26)).alloc (.cells #[.int .i64 who, .int .i64 item, .bool wri, .bool fin] 28)) w1) := hb1
  have B1 : Hid (Below w.heap.size w w1) := Frame.next BP.out hb1 BP.out.size
  have K1 : Hid (w1.cell? ⟨w.heap.size, 0, none⟩ = some (.slice a0 n0 c0) ∧ w1.cell? ⟨w.heap.size, 1, none⟩ = some (.slice a1 n1 c1) ∧ w1.cell? ⟨w.heap.size, 2, none⟩ = some (.slice a2 n2 c2) ∧ w1.cell? ⟨w.heap.size + 1, 0, none⟩ = some (.int .i64 who) ∧ w1.cell? ⟨w.heap.size + 1, 1, none⟩ = some (.int .i64 item) ∧ w1.cell? ⟨w.heap.size + 1, 2, none⟩ = some (.bool wri) ∧ w1.cell? ⟨w.heap.size + 1, 3, none⟩ = some (.bool fin)) := ⟨Frame.held_cell hb1 KP.out.1, Frame.held_cell hb1 KP.out.2.1, Frame.held_cell hb1 KP.out.2.2.1, Frame.held_cell hb1 KP.out.2.2.2.1, Frame.held_cell hb1 KP.out.2.2.2.2.1, Frame.held_cell hb1 KP.out.2.2.2.2.2.1, Frame.held_cell hb1 KP.out.2.2.2.2.2.2⟩
  clear hb1
  obtain ⟨q0, q1, q2, q3, q4, q5, q6⟩ := K1.out
  rcases Bool.eq_false_or_eq_true (goodK d) with hg | hg
  rotate_left
  · have F : Hid (waitG d (who, item, wri, fin) = false) := by show _ = _; rw [HGG.out, hg]; rfl
    rw [hg]
    clear hg q0 q1 q2 q3 q4 q5 q6
    go_wp2
    go_ret2
    exact ⟨.slice none 0 0, by rw [F.out]; rfl, by rw [HNO.out F.out]; exact iOwn_nil _ _ _, B1.out⟩
  have HG1 : Hid (waitG d (who, item, wri, fin) = (askB d (who, item, wri, fin) && !fin)) := by show _ = _; rw [HGG.out, hg]; rfl
  obtain ⟨g0, g1, _⟩ := good_parts hg
  have h40 : n0 = 4 := (row_at HS.out.1).1.symm.trans g0
  have h41 : n1 = 4 := (num_at HS.out.2.1).1.len.symm.trans g1
  subst h40 h41
  rw [hg]
  clear hg g0 g1
  go_wp2_with fail
  refine (spec_ask a0 a1 a2 4 c0 4 c1 n2 c2 who item wri fin d _ (iIs_below HS.out.2.2 B1.out)).mono ?_
  rintro e w2 ⟨rfl, hb2⟩
  have B2 : Hid (Below w.heap.size w w2) := Frame.next B1.out hb2 B1.out.size
  have K2 : Hid (w2.cell? ⟨w.heap.size, 0, none⟩ = some (.slice a0 4 c0) ∧ w2.cell? ⟨w.heap.size, 1, none⟩ = some (.slice a1 4 c1) ∧ w2.cell? ⟨w.heap.size, 2, none⟩ = some (.slice a2 n2 c2) ∧ w2.cell? ⟨w.heap.size + 1, 0, none⟩ = some (.int .i64 who) ∧ w2.cell? ⟨w.heap.size + 1, 1, none⟩ = some (.int .i64 item) ∧ w2.cell? ⟨w.heap.size + 1, 2, none⟩ = some (.bool wri) ∧ w2.cell? ⟨w.heap.size + 1, 3, none⟩ = some (.bool fin)) := ⟨Frame.held_cell hb2 K1.out.1, Frame.held_cell hb2 K1.out.2.1, Frame.held_cell hb2 K1.out.2.2.1, Frame.held_cell hb2 K1.out.2.2.2.1, Frame.held_cell hb2 K1.out.2.2.2.2.1, Frame.held_cell hb2 K1.out.2.2.2.2.2.1, Frame.held_cell hb2 K1.out.2.2.2.2.2.2⟩
  clear hb2 q0 q1 q2 q3 q4 q5 q6
  obtain ⟨q0, q1, q2, q3, q4, q5, q6⟩ := K2.out
  rcases Bool.eq_false_or_eq_true (askB d (who, item, wri, fin)) with hg | hg
  rotate_left
  · have F : Hid (waitG d (who, item, wri, fin) = false) := by show _ = _; rw [HG1.out, hg]; rfl
    rw [hg]
    clear hg q0 q1 q2 q3 q4 q5 q6
    go_wp2
    go_ret2
    exact ⟨.slice none 0 0, by rw [F.out]; rfl, by rw [HNO.out F.out]; exact iOwn_nil _ _ _, B2.out⟩
  have HG2 : Hid (waitG d (who, item, wri, fin) = !fin) := by show _ = _; rw [HG1.out, hg]; rfl
  have HIT : Hid (fin = false → Val.inB item 0 3 = true) := fun e => by
    have := (Bool.and_eq_true_iff.1 (Bool.and_eq_true_iff.1 hg).2).2
    subst e
    exact this
  rw [hg]
  clear hg
  cases fin
  rotate_left
  · have F : Hid (waitG d (who, item, wri, true) = false) := HG2.out
    go_wp2
    go_ret2
    exact ⟨.slice none 0 0, by rw [F.out]; rfl, by rw [HNO.out F.out]; exact iOwn_nil _ _ _, B2.out⟩
  have F : Hid (waitG d (who, item, wri, false) = true) := HG2.out
  have hi3 := inB_iff.1 (HIT.out rfl)
  obtain ⟨it, rfl⟩ : ∃ it : Nat, item = (it : Int) := ⟨item.toNat, by omega⟩
  have hit : it < 4 := by omega
  clear hi3
  go_wp2_with fail
  refine (spec_waits a0 a1 a2 c0 c1 n2 c2 who it wri false d _ (lIs_below HS.out.1 B2.out) (iIs_below HS.out.2.1 B2.out) hit).mono ?_
  rintro e w3 ⟨a', m, c', rfl, hm, ho, hb3⟩
  have O3 : Hid (w3.ownsRow w.heap.size 3 1 (.slice a' m c') m (ints .i64 (waitN d (who, (it : Int), wri, false)))) := own_base ho B2.out.size
  have B3 : Hid (Below w.heap.size w w3) := Frame.next B2.out hb3 B2.out.size
  clear ho hb3 q0 q1 q2 q3 q4 q5 q6
  go_wp2
  go_ret2
  exact ⟨.slice a' m c', by rw [F.out]; rfl, by rw [HYES.out F.out]; exact iOwn_of O3.out (waitN_wf d _) (by omega), B3.out⟩


end Go.Proofs.Ytkondmnkmbdncaa.Lke
