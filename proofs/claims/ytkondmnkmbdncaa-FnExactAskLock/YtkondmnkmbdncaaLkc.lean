/-
  Contracts of l8Held, GoodLocks and HeldBy of the model.
-/
import Derived.Test.YtkondmnkmbdncaaLkb
namespace Go.Proofs.Ytkondmnkmbdncaa.Lkc
open Go.RowKit
open Go.Proofs.Ytkondmnkmbdncaa.Frame Go.Proofs.Ytkondmnkmbdncaa.Mem Go.Proofs.Ytkondmnkmbdncaa.Ints Go.Proofs.Ytkondmnkmbdncaa.Kep Go.Proofs.Ytkondmnkmbdncaa.Lls Go.Proofs.Ytkondmnkmbdncaa.Knl Go.Proofs.Ytkondmnkmbdncaa.Mis Go.Proofs.Ytkondmnkmbdncaa.Lkp Go.Proofs.Ytkondmnkmbdncaa.Lka Go.Proofs.Ytkondmnkmbdncaa.Lkb Go.Proofs.Ytkondmnkmbdncaa.Rel
open Go.Proofs.Ytkondmnkmbdncaa.SLocks (D SIs)

theorem four_take {k : Nat} (h : k < 4) : four.take (k + 1) = four.take k ++ [(k : Int)] := by
  match k, h with
  | 0, _ => rfl
  | 1, _ => rfl
  | 2, _ => rfl
  | 3, _ => rfl
theorem filter_four {p : Int → Bool} {k : Nat} (h : k < 4) : (four.take (k + 1)).filter p = (four.take k).filter p ++ (if p (k : Int) then [(k : Int)] else []) := by
  rw [four_take h, List.filter_append, List.filter_cons]
  rfl

set_option maxRecDepth 8000 in
set_option maxHeartbeats 3200000 in
theorem spec_Held (a0 a1 a2 : Option Addr) (c0 c1 n2 c2 : Nat) (who : Int) (d : D) (w : World) (h : LIs w (.slice a0 4 c0) d.1) (h1 : IIs w (.slice a1 4 c1) d.2.1) :
    Calls Try.prog 120 #[.agg #[.slice a0 4 c0, .slice a1 4 c1, .slice a2 n2 c2], .int .i64 who] w fun e w' => ∃ a' m c', e = .returned (.slice a' m c') ∧ m ≤ 4 ∧ w'.ownsRow w.heap.size 3 1 (.slice a' m c') m (ints .i64 (heldN d who)) ∧ Below w.heap.size w w' := by
  obtain ⟨i0, hi, hz0, hz1, hz2⟩ := info_parts Ints.info
  have H0 : Hid (LIs w (.slice a0 4 c0) d.1) := h
  have H1 : Hid (IIs w (.slice a1 4 c1) d.2.1) := h1
  have BP : Hid (Below w.heap.size w (w.alloc (.cells #[.slice a0 4 c0, .slice a1 4 c1, .slice a2 n2 c2] 26))) := (Below.refl _ _).alloc (Nat.le_refl _) _
  have KP : Hid ((w.alloc (.cells #[.slice a0 4 c0, .slice a1 4 c1, .slice a2 n2 c2] 26)).cell? ⟨w.heap.size, 0, none⟩ = some (.slice a0 4 c0) ∧ (w.alloc (.cells #[.slice a0 4 c0, .slice a1 4 c1, .slice a2 n2 c2] 26)).cell? ⟨w.heap.size, 1, none⟩ = some (.slice a1 4 c1) ∧ (w.alloc (.cells #[.slice a0 4 c0, .slice a1 4 c1, .slice a2 n2 c2] 26)).cell? ⟨w.heap.size, 2, none⟩ = some (.slice a2 n2 c2)) := by show _ ∧ _; refine ⟨?_, ?_, ?_⟩ <;> go_simp
  obtain ⟨b0, o0, _, _, _, rfl, hlb0, _⟩ := (row_at h).2 0 (by omega)
  obtain ⟨b1, o1, rfl, hlb1, hcs1⟩ := (num_at h1).1.cells (by omega)
  have HCS1 : Hid (∀ i, i < 4 → w.cell? ⟨b1, o1 + i, none⟩ = some (.int .i64 (d.2.1.getD i 0))) := hcs1
  clear h h1 hcs1
  go_enter Try.func120, Try.ntmps120
  go_wp2_with fail
  go_loopw [5, 10] (fun v i wr => ∃ (k m : Nat) (a' : Option Addr) (c' : Nat), k ≤ 4 ∧ m ≤ k ∧ i = .int .i64 k ∧ v = .slice a' m c' ∧ wr.ownsRow (w.alloc (.cells #[.slice (some ⟨b0, o0, none⟩) 4 c0, .slice (some ⟨b1, o1, none⟩) 4 c1, .slice a2 n2 c2] 26)).heap.size 3 1 (.slice a' m c') m (ints .i64 ((four.take k).filter (heldB d who))) ∧ Below (w.alloc (.cells #[.slice (some ⟨b0, o0, none⟩) 4 c0, .slice (some ⟨b1, o1, none⟩) 4 c1, .slice a2 n2 c2] 26)).heap.size (w.alloc (.cells #[.slice (some ⟨b0, o0, none⟩) 4 c0, .slice (some ⟨b1, o1, none⟩) 4 c1, .slice a2 n2 c2] 26)) wr) (fun _ i _ => 4 - (intOf i).toNat)
  case atStart => exact ⟨0, 0, none, 0, by omega, by omega, rfl, rfl, World.ownsRow_nil _ _ _ _, Below.refl _ _⟩
  case round =>
    obtain ⟨k, m, a', c', hk, hmk, rfl, rfl, ho, hnx⟩ := hrel
    have HO : Hid (wr.ownsRow (w.alloc (.cells #[.slice (some ⟨b0, o0, none⟩) 4 c0, .slice (some ⟨b1, o1, none⟩) 4 c1, .slice a2 n2 c2] 26)).heap.size 3 1 (.slice a' m c') m (ints .i64 ((four.take k).filter (heldB d who)))) := ho
    have HN : Hid (Below (w.alloc (.cells #[.slice (some ⟨b0, o0, none⟩) 4 c0, .slice (some ⟨b1, o1, none⟩) 4 c1, .slice a2 n2 c2] 26)).heap.size (w.alloc (.cells #[.slice (some ⟨b0, o0, none⟩) 4 c0, .slice (some ⟨b1, o1, none⟩) 4 c1, .slice a2 n2 c2] 26)) wr) := hnx
    have HNw : Hid (Below w.heap.size w wr) := Frame.next BP.out hnx BP.out.size
    obtain ⟨q0, q1, q2⟩ := (show wr.cell? ⟨w.heap.size, 0, none⟩ = some (.slice (some ⟨b0, o0, none⟩) 4 c0) ∧ wr.cell? ⟨w.heap.size, 1, none⟩ = some (.slice (some ⟨b1, o1, none⟩) 4 c1) ∧ wr.cell? ⟨w.heap.size, 2, none⟩ = some (.slice a2 n2 c2) from ⟨Frame.held_cell hnx KP.out.1, Frame.held_cell hnx KP.out.2.1, Frame.held_cell hnx KP.out.2.2⟩)
    have hsr := HNw.out.size
    clear ho hnx
    by_cases hlt : k < 4
    · obtain ⟨b, off, ra, rn, rc, ea, hb, hc, hr, hn⟩ := (row_at (lIs_below H0.out HNw.out)).2 k hlt
      cases ea
      have hc1 : wr.cell? ⟨b1, o1 + k, none⟩ = some (.int .i64 (d.2.1.getD k 0)) := by rw [HNw.out.cell (p := ⟨b1, o1 + k, none⟩) hlb1]; exact HCS1.out k hlt
      have hkI : (k : Int) < 4 := by omega
      have HR : Hid (IsRow .i64 wr ra rn rc (d.1.getD k [])) := hr
      have HQ : Hid (heldB d who (k : Int) = (decide (who ∈ d.1.getD k []) || (d.2.1.getD k 0 == who))) := by show _ = _; unfold heldB readB writeB Lkp.rowAt wrAt; rw [Int.toNat_natCast]
      have HF : Hid ((four.take (k + 1)).filter (heldB d who) = (four.take k).filter (heldB d who) ++ (if heldB d who (k : Int) then [(k : Int)] else [])) := filter_four hlt
      generalize d.2.1.getD k 0 = x at hc1 HQ
      generalize d.1.getD k [] = zs at HR HQ
      have HOa4 : Hid ((wr.alloc (.cells #[.int .i64 k] 3)).ownsRow (w.alloc (.cells #[.slice (some ⟨b0, o0, none⟩) 4 c0, .slice (some ⟨b1, o1, none⟩) 4 c1, .slice a2 n2 c2] 26)).heap.size 3 1 (.slice a' m c') m (ints .i64 ((four.take k).filter (heldB d who)))) := own_below HO.out ((Below.refl _ _).alloc (Nat.le_refl _) _)
      have HNa4 : Hid (Below (w.alloc (.cells #[.slice (some ⟨b0, o0, none⟩) 4 c0, .slice (some ⟨b1, o1, none⟩) 4 c1, .slice a2 n2 c2] 26)).heap.size (w.alloc (.cells #[.slice (some ⟨b0, o0, none⟩) 4 c0, .slice (some ⟨b1, o1, none⟩) 4 c1, .slice a2 n2 c2] 26)) (wr.alloc (.cells #[.int .i64 k] 3))) := HN.out.alloc HN.out.size _
      have Sa4 : Hid (0 < 1 → ∃ ad, (some ⟨wr.heap.size, 0, none⟩ : Option Addr) = some ad ∧ ∀ j u, ([.int .i64 k] : List Value)[j]? = some u → (wr.alloc (.cells #[.int .i64 k] 3)).cell? (ad.add j) = some u) := news_one wr _ _
      clear hr
      by_cases hx : x = who
      · have hxb : (x == who) = true := by rw [beq_iff_eq]; exact hx
        have F : Hid ((four.take (k + 1)).filter (heldB d who) = (four.take k).filter (heldB d who) ++ [(k : Int)]) := by show _ = _; rw [HF.out, HQ.out, hxb, Bool.or_true]; rfl
        clear HF HQ hx
        go_wp2_with (at_builtin; refine App.wpList_append_all _ rfl _ _ 24 rfl (w.alloc (.cells #[.slice (some ⟨b0, o0, none⟩) 4 c0, .slice (some ⟨b1, o1, none⟩) 4 c1, .slice a2 n2 c2] 26)).heap.size 3 i0 (.int .i64 0) 1 8 Try.underlying24 hi hz0 hz1 hz2 rfl (by decide) _ _ _ rfl HOa4.out _ 1 _ [.int .i64 k] rfl rfl Sa4.out (by simp [Value.oneCell']) (by unfold maxLen; omega) (by omega) HNa4.out.size ?_)
        intro a4 c4 w4 hown4 hgrow4
        have O4 : Hid (w4.ownsRow (w.alloc (.cells #[.slice (some ⟨b0, o0, none⟩) 4 c0, .slice (some ⟨b1, o1, none⟩) 4 c1, .slice a2 n2 c2] 26)).heap.size 3 1 (.slice a4 (m + 1) c4) (m + 1) (ints .i64 ((four.take (k + 1)).filter (heldB d who)))) := by show World.ownsRow _ _ _ _ _ _ _; rw [F.out]; simpa [ints] using hown4
        have N4 : Hid (Below (w.alloc (.cells #[.slice (some ⟨b0, o0, none⟩) 4 c0, .slice (some ⟨b1, o1, none⟩) 4 c1, .slice a2 n2 c2] 26)).heap.size (w.alloc (.cells #[.slice (some ⟨b0, o0, none⟩) 4 c0, .slice (some ⟨b1, o1, none⟩) 4 c1, .slice a2 n2 c2] 26)) w4) := below_app HNa4.out HOa4.out hgrow4 HNa4.out.size (Nat.le_refl _)
        clear hown4 hgrow4 q0 q1 q2
        go_wp2
        go_roundw
        case rel => exact ⟨k + 1, m + 1, a4, c4, by omega, by omega, by go_num, rfl, O4.out, N4.out⟩
        case measure => simp [intOf]; omega
      · have hxb : (x == who) = false := by rw [beq_eq_false_iff_ne]; exact hx
        have HQ2 : Hid (heldB d who (k : Int) = decide (who ∈ zs)) := by show _ = _; rw [HQ.out, hxb, Bool.or_false]
        clear hx HQ
        go_wp2_with fail
        refine (Ihl.l1Has ra rn rc zs who _ HR.out).mono ?_
        rintro e w' ⟨rfl, hw'⟩; have hw'' := hw'.symm; clear hw'; subst hw''
        rcases Bool.eq_false_or_eq_true (decide (who ∈ zs)) with hd | hd
        · have F : Hid ((four.take (k + 1)).filter (heldB d who) = (four.take k).filter (heldB d who) ++ [(k : Int)]) := by show _ = _; rw [HF.out, HQ2.out, hd]; rfl
          rw [hd]
          clear HF HQ2 hd
          go_wp2_with (at_builtin; refine App.wpList_append_all _ rfl _ _ 24 rfl (w.alloc (.cells #[.slice (some ⟨b0, o0, none⟩) 4 c0, .slice (some ⟨b1, o1, none⟩) 4 c1, .slice a2 n2 c2] 26)).heap.size 3 i0 (.int .i64 0) 1 8 Try.underlying24 hi hz0 hz1 hz2 rfl (by decide) _ _ _ rfl HOa4.out _ 1 _ [.int .i64 k] rfl rfl Sa4.out (by simp [Value.oneCell']) (by unfold maxLen; omega) (by omega) HNa4.out.size ?_)
          intro a4 c4 w4 hown4 hgrow4
          have O4 : Hid (w4.ownsRow (w.alloc (.cells #[.slice (some ⟨b0, o0, none⟩) 4 c0, .slice (some ⟨b1, o1, none⟩) 4 c1, .slice a2 n2 c2] 26)).heap.size 3 1 (.slice a4 (m + 1) c4) (m + 1) (ints .i64 ((four.take (k + 1)).filter (heldB d who)))) := by show World.ownsRow _ _ _ _ _ _ _; rw [F.out]; simpa [ints] using hown4
          have N4 : Hid (Below (w.alloc (.cells #[.slice (some ⟨b0, o0, none⟩) 4 c0, .slice (some ⟨b1, o1, none⟩) 4 c1, .slice a2 n2 c2] 26)).heap.size (w.alloc (.cells #[.slice (some ⟨b0, o0, none⟩) 4 c0, .slice (some ⟨b1, o1, none⟩) 4 c1, .slice a2 n2 c2] 26)) w4) := below_app HNa4.out HOa4.out hgrow4 HNa4.out.size (Nat.le_refl _)
          clear hown4 hgrow4 q0 q1 q2
          go_wp2
          go_roundw
          case rel => exact ⟨k + 1, m + 1, a4, c4, by omega, by omega, by go_num, rfl, O4.out, N4.out⟩
          case measure => simp [intOf]; omega
        · have F : Hid ((four.take (k + 1)).filter (heldB d who) = (four.take k).filter (heldB d who)) := by show _ = _; rw [HF.out, HQ2.out, hd]; exact List.append_nil _
          rw [hd]
          clear HF HQ2 hd HOa4 HNa4 Sa4
          go_wp2
          go_roundw
          case rel => exact ⟨k + 1, m, a', c', by omega, by omega, by go_num, rfl, by rw [F.out]; exact HO.out, HN.out⟩
          case measure => simp [intOf]; omega
    · obtain rfl : k = 4 := by omega
      have O4 : Hid (wr.ownsRow (w.alloc (.cells #[.slice (some ⟨b0, o0, none⟩) 4 c0, .slice (some ⟨b1, o1, none⟩) 4 c1, .slice a2 n2 c2] 26)).heap.size 3 1 (.slice a' m c') m (ints .i64 (heldN d who))) := HO.out
      clear q0 q1 q2
      go_wp2
      go_ret
      exact ⟨_, _, _, rfl, hmk, own_base O4.out BP.out.size, HNw.out⟩

theorem beside_in {x : Int} {r : List Int} (h : besideB x r = true) : Val.inB x (-1) 3 = true := by
  unfold besideB at h
  rw [inB_iff]
  rcases Bool.or_eq_true_iff.1 h with h | h
  · rw [beq_iff_eq] at h; omega
  · have := inB_iff.1 (Bool.and_eq_true_iff.1 h).1; omega
theorem nodup_not {o : List Int} {k : Nat} (hk : k < o.length) (h : o.getD k 0 ∈ o.take k) : ¬ o.Nodup := fun hn => by
  have e : o.take (k + 1) = o.take k ++ [o.getD k 0] := take_succ_getD hk
  have h1 : (o.take (k + 1)).Nodup := List.Nodup.sublist (List.take_sublist _ _) hn
  rw [e, List.nodup_append] at h1
  exact h1.2.2 _ h _ (List.mem_singleton.2 rfl) rfl

set_option maxRecDepth 8000 in
set_option maxHeartbeats 3200000 in
theorem spec_Good (a0 a1 a2 : Option Addr) (n0 c0 n1 c1 n2 c2 : Nat) (d : D) (w : World) (h : SIs w (.slice a0 n0 c0) (.slice a1 n1 c1) (.slice a2 n2 c2) d) :
    Calls Try.prog 67 #[.agg #[.slice a0 n0 c0, .slice a1 n1 c1, .slice a2 n2 c2]] w fun e w' => e = .returned (.bool (goodK d)) ∧ Below w.heap.size w w' := by
  have HS : Hid (SIs w (.slice a0 n0 c0) (.slice a1 n1 c1) (.slice a2 n2 c2) d) := h
  have L0 : Hid (d.1.length = n0) := (row_at h.1).1
  have L1 : Hid (d.2.1.length = n1) := (num_at h.2.1).1.len
  have L2 : Hid (d.2.2.length = n2) := (num_at h.2.2).1.len
  have hm0 : n0 ≤ 9223372036854775807 := by
    obtain ⟨_, _, _, _, e, hl, _⟩ := h.1
    cases e
    have := hl.fits; have := hl.max; unfold maxLen at *; omega
  have hm1 : n1 ≤ 1048576 := (num_at h.2.1).2
  have hm2 : n2 ≤ 1048576 := (num_at h.2.2).2
  have BP : Hid (Below w.heap.size w (w.alloc (.cells #[.slice a0 n0 c0, .slice a1 n1 c1, .slice a2 n2 c2] 26))) := (Below.refl _ _).alloc (Nat.le_refl _) _
  have KP : Hid ((w.alloc (.cells #[.slice a0 n0 c0, .slice a1 n1 c1, .slice a2 n2 c2] 26)).cell? ⟨w.heap.size, 0, none⟩ = some (.slice a0 n0 c0) ∧ (w.alloc (.cells #[.slice a0 n0 c0, .slice a1 n1 c1, .slice a2 n2 c2] 26)).cell? ⟨w.heap.size, 1, none⟩ = some (.slice a1 n1 c1) ∧ (w.alloc (.cells #[.slice a0 n0 c0, .slice a1 n1 c1, .slice a2 n2 c2] 26)).cell? ⟨w.heap.size, 2, none⟩ = some (.slice a2 n2 c2)) := by show _ ∧ _; refine ⟨?_, ?_, ?_⟩ <;> go_simp
  clear h
  by_cases h0 : n0 = 4
  rotate_left
  · have hne : ((n0 : Int) != 4) = true := by rw [bne_iff_ne]; omega
    have F : Hid (goodK d = false) := by show _ = _; unfold goodK; rw [decide_eq_false (by rw [L0.out]; exact h0)]; rfl
    go_enter Try.func67, Try.ntmps67
    go_wp2
    go_ret
    exact ⟨ret_bool F.out.symm, BP.out⟩
  subst h0
  by_cases h1 : n1 = 4
  rotate_left
  · have hne : ((n1 : Int) != 4) = true := by rw [bne_iff_ne]; omega
    have F : Hid (goodK d = false) := by show _ = _; unfold goodK; rw [decide_eq_true L0.out, decide_eq_false (by rw [L1.out]; exact h1)]; rfl
    go_enter Try.func67, Try.ntmps67
    go_wp2
    go_ret
    exact ⟨ret_bool F.out.symm, BP.out⟩
  subst h1
  obtain ⟨b0, o0, _, _, _, rfl, hlb0, _⟩ := (row_at HS.out.1).2 0 (by omega)
  obtain ⟨b1, o1, rfl, hlb1, hcs1⟩ := (num_at HS.out.2.1).1.cells (by omega)
  have HCS1 : Hid (∀ i, i < 4 → w.cell? ⟨b1, o1 + i, none⟩ = some (.int .i64 (d.2.1.getD i 0))) := hcs1
  clear hcs1
  have HG : Hid (goodK d = (onceB d.2.2 && ((List.range 4).all (itemB d) && d.2.2.all (noneB d)))) := by show _ = _; unfold goodK; rw [decide_eq_true L0.out, decide_eq_true L1.out]; rfl
  go_enter Try.func67, Try.ntmps67
  go_wp2_with fail
  refine (Lst.spec_l1All _ 4 c1 d.2.1 (-1) 3 _ (IsRow.below (num_at HS.out.2.1).1 BP.out) (by omega)).mono ?_
  rintro e w' ⟨rfl, hw'⟩; have hw'' := hw'.symm; clear hw'; subst hw''
  rcases Bool.eq_false_or_eq_true (Lst.allIn (-1) 3 d.2.1) with hw | hw
  rotate_left
  · have F : Hid (goodK d = false) := by
      show _ = _
      rw [Bool.eq_false_iff]
      intro hg
      obtain ⟨_, _, _, hit, _⟩ := good_parts hg
      rw [Bool.eq_false_iff] at hw
      apply hw
      unfold Lst.allIn
      rw [List.all_eq_true]
      intro z hz
      obtain ⟨k, hk, rfl⟩ := List.getElem_of_mem hz
      have hk4 : k < 4 := by rw [← L1.out]; exact hk
      have := (Bool.and_eq_true_iff.1 (hit k hk4)).2
      have e : wrAt d k = d.2.1[k] := by simp [wrAt, List.getD, hk]
      rw [e] at this
      exact beside_in this
    rw [hw]
    clear hw
    go_wp2
    go_ret
    exact ⟨ret_bool F.out.symm, BP.out⟩
  have HW : Hid (∀ k, k < 4 → -1 ≤ d.2.1.getD k 0 ∧ d.2.1.getD k 0 ≤ 3) := fun k hk => inB_iff.1 (List.all_eq_true.1 hw _ (getD_mem (by rw [L1.out]; exact hk)))
  rw [hw]
  clear hw
  go_wp2_with fail
  refine (Lst.spec_l1All a2 n2 c2 d.2.2 0 3 _ (IsRow.below (num_at HS.out.2.2).1 BP.out) (by omega)).mono ?_
  rintro e w' ⟨rfl, hw'⟩; have hw'' := hw'.symm; clear hw'; subst hw''
  rcases Bool.eq_false_or_eq_true (Lst.allIn 0 3 d.2.2) with hw | hw
  rotate_left
  · have F : Hid (goodK d = false) := by
      show _ = _
      rw [HG.out]
      have e : d.2.2.all (fun z => Val.inB z 0 3) = false := hw
      unfold onceB
      rw [e]; rfl
    rw [hw]
    clear hw
    go_wp2
    go_ret
    exact ⟨ret_bool F.out.symm, BP.out⟩
  have HG1 : Hid (goodK d = (decide d.2.2.Nodup && ((List.range 4).all (itemB d) && d.2.2.all (noneB d)))) := by
    show _ = _
    rw [HG.out]
    have e : d.2.2.all (fun z => Val.inB z 0 3) = true := hw
    unfold onceB
    rw [e, Bool.true_and]
  rw [hw]
  clear hw HG
  go_wp2_with fail
  go_loopw [33] (fun i wr => ∃ k : Nat, k ≤ 4 ∧ i = .int .i64 k ∧ (List.range k).all (itemB d) = true ∧ Below (w.alloc (.cells #[.slice (some ⟨b0, o0, none⟩) 4 c0, .slice (some ⟨b1, o1, none⟩) 4 c1, .slice a2 n2 c2] 26)).heap.size (w.alloc (.cells #[.slice (some ⟨b0, o0, none⟩) 4 c0, .slice (some ⟨b1, o1, none⟩) 4 c1, .slice a2 n2 c2] 26)) wr) (fun i _ => 4 - (intOf i).toNat)
  case atStart => exact ⟨0, by omega, rfl, rfl, Below.refl _ _⟩
  case round =>
    obtain ⟨k, hk, rfl, hall, hnx⟩ := hrel
    have HALL : Hid ((List.range k).all (itemB d) = true) := hall
    have HN : Hid (Below (w.alloc (.cells #[.slice (some ⟨b0, o0, none⟩) 4 c0, .slice (some ⟨b1, o1, none⟩) 4 c1, .slice a2 n2 c2] 26)).heap.size (w.alloc (.cells #[.slice (some ⟨b0, o0, none⟩) 4 c0, .slice (some ⟨b1, o1, none⟩) 4 c1, .slice a2 n2 c2] 26)) wr) := hnx
    have HNw : Hid (Below w.heap.size w wr) := Frame.next BP.out hnx BP.out.size
    obtain ⟨q0, q1, q2⟩ := (show wr.cell? ⟨w.heap.size, 0, none⟩ = some (.slice (some ⟨b0, o0, none⟩) 4 c0) ∧ wr.cell? ⟨w.heap.size, 1, none⟩ = some (.slice (some ⟨b1, o1, none⟩) 4 c1) ∧ wr.cell? ⟨w.heap.size, 2, none⟩ = some (.slice a2 n2 c2) from ⟨Frame.held_cell hnx KP.out.1, Frame.held_cell hnx KP.out.2.1, Frame.held_cell hnx KP.out.2.2⟩)
    clear hall hnx
    by_cases hlt : k < 4
    · obtain ⟨b, off, ra, rn, rc, ea, hb, hc, hr, hn⟩ := (row_at (lIs_below HS.out.1 HNw.out)).2 k hlt
      cases ea
      have hc1 : wr.cell? ⟨b1, o1 + k, none⟩ = some (.int .i64 (d.2.1.getD k 0)) := by rw [HNw.out.cell (p := ⟨b1, o1 + k, none⟩) hlb1]; exact HCS1.out k hlt
      have hkI : (k : Int) < 4 := by omega
      have HR : Hid (IsRow .i64 wr ra rn rc (d.1.getD k [])) := hr
      have HI : Hid (itemB d k = (riseB 0 3 (d.1.getD k []) && besideB (d.2.1.getD k 0) (d.1.getD k []))) := rfl
      have hx3 := HW.out k hlt
      generalize d.2.1.getD k 0 = x at hc1 HI hx3
      generalize d.1.getD k [] = zs at HR HI
      have HRL : Hid (zs.length = rn) := HR.out.len
      clear hr
      go_wp2_with fail
      refine (Sa.spec_l1Rising ra rn rc zs 0 3 _ HR.out).mono ?_
      rintro e w' ⟨rfl, hw'⟩; have hw'' := hw'.symm; clear hw'; subst hw''
      rcases Bool.eq_false_or_eq_true (riseB 0 3 zs) with hd | hd
      rotate_left
      · have F : Hid (goodK d = false) := by show _ = _; rw [HG1.out, range_no hlt (by rw [HI.out, hd]; rfl), Bool.false_and, Bool.and_false]
        rw [hd]
        clear hd
        go_wp2
        go_ret
        exact ⟨ret_bool F.out.symm, HNw.out⟩
      have HI2 : Hid (itemB d k = besideB x zs) := by show _ = _; rw [HI.out, hd]; rfl
      have HYES : Hid (besideB x zs = true → (List.range (k + 1)).all (itemB d) = true) := fun e => range_next HALL.out (by rw [HI2.out]; exact e)
      have HNO : Hid (besideB x zs = false → goodK d = false) := fun e => by rw [HG1.out, range_no hlt (by rw [HI2.out]; exact e), Bool.false_and, Bool.and_false]
      rw [hd]
      clear hd HI HI2
      by_cases hx0 : 0 ≤ x
      · have hxn : (x == -1) = false := by rw [beq_eq_false_iff_ne]; omega
        have hxi : Val.inB x 0 3 = true := inB_iff.2 ⟨hx0, hx3.2⟩
        have HB : Hid (besideB x zs = (decide (zs = []) || decide (zs = [x]))) := by show _ = _; unfold besideB; rw [hxn, hxi]; rfl
        clear hxn hxi
        by_cases hr1 : rn > 1
        · have hrI : (rn : Int) > 1 := by omega
          have F : Hid (goodK d = false) := HNO.out (by
            rw [HB.out, decide_eq_false (fun e => by have := HRL.out; rw [e] at this; simp at this; omega), decide_eq_false (fun e => by have := HRL.out; rw [e] at this; simp at this; omega)]; rfl)
          go_wp2
          go_ret
          exact ⟨ret_bool F.out.symm, HNw.out⟩
        · have hrI : ¬ (rn : Int) > 1 := by omega
          by_cases hr0 : rn = 0
          · subst hr0
            have F : Hid ((List.range (k + 1)).all (itemB d) = true) := HYES.out (by rw [HB.out, decide_eq_true (List.eq_nil_of_length_eq_zero HRL.out)]; rfl)
            go_wp2
            go_roundw
            case rel => exact ⟨k + 1, by omega, by go_num, F.out, HN.out⟩
            case measure => simp [intOf]; omega
          · obtain rfl : rn = 1 := by omega
            obtain ⟨b', o', rfl, hb', hc'⟩ := HR.out.cells (by omega)
            have hcz := hc' 0 (by omega)
            obtain ⟨z, hz⟩ : ∃ z, zs = [z] := by
              match zs, HRL.out with
              | [z], _ => exact ⟨z, rfl⟩
            subst hz
            have HB2 : Hid (besideB x [z] = decide (z = x)) := by
              show _ = _
              rw [HB.out, decide_eq_false (by simp), Bool.false_or, decide_eq_decide]
              simp
            have hcz' : wr.cell? ⟨b', o', none⟩ = some (.int .i64 z) := hcz
            clear hc' hcz HB
            by_cases hzx : z = x
            · have hzb : (z != x) = false := by rw [hzx]; simp
              have F : Hid ((List.range (k + 1)).all (itemB d) = true) := HYES.out (by rw [HB2.out]; exact decide_eq_true hzx)
              clear hzx
              go_wp2
              go_roundw
              case rel => exact ⟨k + 1, by omega, by go_num, F.out, HN.out⟩
              case measure => simp [intOf]; omega
            · have hzb : (z != x) = true := by rw [bne_iff_ne]; exact hzx
              have F : Hid (goodK d = false) := HNO.out (by rw [HB2.out]; exact decide_eq_false hzx)
              clear hzx
              go_wp2
              go_ret
              exact ⟨ret_bool F.out.symm, HNw.out⟩
      · obtain rfl : x = -1 := by omega
        have F : Hid ((List.range (k + 1)).all (itemB d) = true) := HYES.out rfl
        go_wp2
        go_roundw
        case rel => exact ⟨k + 1, by omega, by go_num, F.out, HN.out⟩
        case measure => simp [intOf]; omega
    · obtain rfl : k = 4 := by omega
      have HG2 : Hid (goodK d = (decide d.2.2.Nodup && d.2.2.all (noneB d))) := by show _ = _; rw [HG1.out, HALL.out, Bool.true_and]
      rename World => wo
      go_wp2_with fail
      clear q0 q1 q2
      go_loopw [71] (fun i wr => ∃ k : Nat, k ≤ n2 ∧ i = .int .i64 k ∧ (d.2.2.take k).all (noneB d) = true ∧ (d.2.2.take k).Nodup ∧ Below (w.alloc (.cells #[.slice (some ⟨b0, o0, none⟩) 4 c0, .slice (some ⟨b1, o1, none⟩) 4 c1, .slice a2 n2 c2] 26)).heap.size (w.alloc (.cells #[.slice (some ⟨b0, o0, none⟩) 4 c0, .slice (some ⟨b1, o1, none⟩) 4 c1, .slice a2 n2 c2] 26)) wr) (fun i _ => n2 - (intOf i).toNat)
      case atStart => exact ⟨0, by omega, rfl, rfl, List.nodup_nil, HN.out⟩
      case round =>
        obtain ⟨k, hk, rfl, hall, hnd, hnx⟩ := hrel
        have HALL2 : Hid ((d.2.2.take k).all (noneB d) = true) := hall
        have HND : Hid ((d.2.2.take k).Nodup) := hnd
        have HN2 : Hid (Below (w.alloc (.cells #[.slice (some ⟨b0, o0, none⟩) 4 c0, .slice (some ⟨b1, o1, none⟩) 4 c1, .slice a2 n2 c2] 26)).heap.size (w.alloc (.cells #[.slice (some ⟨b0, o0, none⟩) 4 c0, .slice (some ⟨b1, o1, none⟩) 4 c1, .slice a2 n2 c2] 26)) wr) := hnx
        have HN2w : Hid (Below w.heap.size w wr) := Frame.next BP.out hnx BP.out.size
        obtain ⟨q0, q1, q2⟩ := (show wr.cell? ⟨w.heap.size, 0, none⟩ = some (.slice (some ⟨b0, o0, none⟩) 4 c0) ∧ wr.cell? ⟨w.heap.size, 1, none⟩ = some (.slice (some ⟨b1, o1, none⟩) 4 c1) ∧ wr.cell? ⟨w.heap.size, 2, none⟩ = some (.slice a2 n2 c2) from ⟨Frame.held_cell hnx KP.out.1, Frame.held_cell hnx KP.out.2.1, Frame.held_cell hnx KP.out.2.2⟩)
        clear hall hnx hnd
        by_cases hlt : k < n2
        · obtain ⟨b2, o2, rfl, hb2, hc2'⟩ := (num_at (iIs_below HS.out.2.2 HN2w.out)).1.cells (by omega)
          have hc2 := hc2' k hlt
          have hkl : k < d.2.2.length := by rw [L2.out]; exact hlt
          have HPRE : Hid (IsRow .i64 wr (some ⟨b2, o2, none⟩) k c2 (d.2.2.take k)) := isRow_pre (num_at (iIs_below HS.out.2.2 HN2w.out)).1 (by omega)
          have HX : Hid ((noneB d (d.2.2.getD k 0) = true → (d.2.2.take (k + 1)).all (noneB d) = true) ∧ (noneB d (d.2.2.getD k 0) = false → goodK d = false) ∧ (d.2.2.getD k 0 ∈ d.2.2.take k → goodK d = false) ∧ (d.2.2.getD k 0 ∉ d.2.2.take k → (d.2.2.take (k + 1)).Nodup)) :=
            ⟨fun e => allN_take hkl HALL2.out e, fun e => by rw [HG2.out, Lst.all_take_false _ _ k hkl e, Bool.and_false], fun e => by rw [HG2.out, decide_eq_false (nodup_not hkl e)]; rfl, fun e => by
              rw [take_succ_getD hkl, List.nodup_append]
              refine ⟨HND.out, by simp, fun a ha b hb => ?_⟩
              rw [List.mem_singleton.1 hb]
              exact fun e' => e (e' ▸ ha)⟩
          have hcap : n2 ≤ c2 := (num_at (iIs_below HS.out.2.2 HN2w.out)).1.fits
          have hkc : (k : Int) ≤ (c2 : Int) := by omega
          generalize d.2.2.getD k 0 = x at hc2 HX
          clear hc2' hkl
          go_wp2_with fail
          refine (Ihl.l1Has (some ⟨b2, o2, none⟩) k c2 _ x _ HPRE.out).mono ?_
          rintro e w' ⟨rfl, hw'⟩; have hw'' := hw'.symm; clear hw'; subst hw''
          rcases Bool.eq_false_or_eq_true (decide (x ∈ d.2.2.take k)) with hd | hd
          · have F : Hid (goodK d = false) := HX.out.2.2.1 (of_decide_eq_true hd)
            rw [hd]
            clear hd
            go_wp2
            go_ret
            exact ⟨ret_bool F.out.symm, HN2w.out⟩
          have HNX : Hid ((d.2.2.take (k + 1)).Nodup) := HX.out.2.2.2 (of_decide_eq_false hd)
          rw [hd]
          clear hd
          go_wp2_with fail
          refine (spec_Held (some ⟨b0, o0, none⟩) (some ⟨b1, o1, none⟩) (some ⟨b2, o2, none⟩) c0 c1 n2 c2 x d _ (lIs_below HS.out.1 HN2w.out) (iIs_below HS.out.2.1 HN2w.out)).mono ?_
          rintro e w3 ⟨a', m, c', rfl, hm, ho, hb3⟩
          have BW3 : Hid (Below (w.alloc (.cells #[.slice (some ⟨b0, o0, none⟩) 4 c0, .slice (some ⟨b1, o1, none⟩) 4 c1, .slice (some ⟨b2, o2, none⟩) n2 c2] 26)).heap.size (w.alloc (.cells #[.slice (some ⟨b0, o0, none⟩) 4 c0, .slice (some ⟨b1, o1, none⟩) 4 c1, .slice (some ⟨b2, o2, none⟩) n2 c2] 26)) w3) := Frame.next HN2.out hb3 HN2.out.size
          have HM : Hid (noneB d x = decide (m = 0)) := by
            show _ = _
            have hl := ho.1
            rw [ints_length] at hl
            unfold noneB
            rw [decide_eq_decide]
            constructor
            · intro e; rw [e] at hl; simp at hl; omega
            · intro e; exact List.eq_nil_of_length_eq_zero (by omega)
          clear hb3 ho q0 q1 q2 hc2
          by_cases hm0 : m = 0
          · subst hm0
            have F : Hid ((d.2.2.take (k + 1)).all (noneB d) = true) := HX.out.1 (by rw [HM.out]; rfl)
            go_wp2
            go_roundw
            case rel =>
              refine ⟨_, _, _, _, _, _, _, _, _, _, _, _, _, _, _, _, _, _, _, _, _, _, ?_, rfl⟩
              exact ⟨k + 1, by omega, by go_num, F.out, HNX.out, BW3.out⟩
            case measure => simp [intOf]; omega
          · have hmI : (m : Int) > 0 := by omega
            have F : Hid (goodK d = false) := HX.out.2.1 (by rw [HM.out]; exact decide_eq_false hm0)
            go_wp2
            go_ret
            exact ⟨ret_bool F.out.symm, Frame.next BP.out BW3.out BP.out.size⟩
        · have F : Hid (goodK d = true) := by
            show _ = _
            rw [HG2.out]
            have h := HALL2.out
            have h2 := HND.out
            rw [List.take_of_length_le (by rw [L2.out]; omega)] at h h2
            rw [h, decide_eq_true h2]; rfl
          go_wp2
          go_ret
          exact ⟨ret_bool F.out.symm, HN2w.out⟩


end Go.Proofs.Ytkondmnkmbdncaa.Lkc
