/-
  Contracts of what an ask waits for, of the program and of the model.
-/
import Derived.Test.YtkondmnkmbdncaaLkc
namespace Go.Proofs.Ytkondmnkmbdncaa.Lkd
open Go.RowKit
open Go.Proofs.Ytkondmnkmbdncaa.Frame Go.Proofs.Ytkondmnkmbdncaa.Mem Go.Proofs.Ytkondmnkmbdncaa.Ints Go.Proofs.Ytkondmnkmbdncaa.Kep Go.Proofs.Ytkondmnkmbdncaa.Lls Go.Proofs.Ytkondmnkmbdncaa.Knl Go.Proofs.Ytkondmnkmbdncaa.Mis Go.Proofs.Ytkondmnkmbdncaa.Kpi Go.Proofs.Ytkondmnkmbdncaa.Lkp Go.Proofs.Ytkondmnkmbdncaa.Lka Go.Proofs.Ytkondmnkmbdncaa.Lkb Go.Proofs.Ytkondmnkmbdncaa.Lkc Go.Proofs.Ytkondmnkmbdncaa.Rel
open Go.Proofs.Ytkondmnkmbdncaa.SLocks (D SIs)

set_option maxRecDepth 8000 in
set_option maxHeartbeats 1600000 in
theorem impl_ask (a0 a1 a2 : Option Addr) (n0 c0 n1 c1 n2 c2 : Nat) (who item : Int) (wri fin : Bool) (d : D) (w : World) (h2 : IIs w (.slice a2 n2 c2) d.2.2) :
    Calls Try.prog 63 #[.agg #[.slice a0 n0 c0, .slice a1 n1 c1, .slice a2 n2 c2], .agg #[.int .i64 who, .int .i64 item, .bool wri, .bool fin]] w fun e w' => e = .returned (.bool (askB d (who, item, wri, fin))) ∧ Below w.heap.size w w' := by
  have BP : Hid (Below w.heap.size w ((w.alloc (.cells #[.slice a0 n0 c0, .slice a1 n1 c1, .slice a2 n2 c2] 26)).alloc (.cells #[.int .i64 who, .int .i64 item, .bool wri, .bool fin] 28))) := ((Below.refl _ _).alloc (Nat.le_refl _) _).alloc (by simp) _
  have R2 : Hid (IsRow .i64 ((w.alloc (.cells #[.slice a0 n0 c0, .slice a1 n1 c1, .slice a2 n2 c2] 26)).alloc (.cells #[.int .i64 who, .int .i64 item, .bool wri, .bool fin] 28)) a2 n2 c2 d.2.2) := IsRow.below (num_at h2).1 BP.out
  have HQ : Hid (askB d (who, item, wri, fin) = (Val.inB who 0 3 && (!(decide (who ∈ d.2.2)) && (bif fin then (item == 0 && !wri) else Val.inB item 0 3)))) := rfl
  clear h2
  go_enter Try.func63, Try.ntmps63
  go_wp2_with fail
  refine (Dlr.isDealer who _).mono ?_
  rintro e w' ⟨rfl, hw'⟩; have hw'' := hw'.symm; clear hw'; subst hw''
  rcases Bool.eq_false_or_eq_true (Val.inB who 0 3) with hd | hd
  rotate_left
  · have F : Hid (askB d (who, item, wri, fin) = false) := by show _ = _; rw [HQ.out, hd]; rfl
    rw [hd]
    clear hd HQ
    go_wp2
    go_ret
    exact ⟨ret_bool F.out.symm, BP.out⟩
  have HQ1 : Hid (askB d (who, item, wri, fin) = (!(decide (who ∈ d.2.2)) && (bif fin then (item == 0 && !wri) else Val.inB item 0 3))) := by show _ = _; rw [HQ.out, hd]; rfl
  rw [hd]
  clear hd HQ
  go_wp2_with fail
  refine (Ihl.slices_Contains a2 n2 c2 d.2.2 who _ R2.out).mono ?_
  rintro e w' ⟨rfl, hw'⟩; have hw'' := hw'.symm; clear hw'; subst hw''
  rcases Bool.eq_false_or_eq_true (decide (who ∈ d.2.2)) with hd | hd
  · have F : Hid (askB d (who, item, wri, fin) = false) := by show _ = _; rw [HQ1.out, hd]; rfl
    rw [hd]
    clear hd HQ1
    go_wp2
    go_ret
    exact ⟨ret_bool F.out.symm, BP.out⟩
  have HQ2 : Hid (askB d (who, item, wri, fin) = (bif fin then (item == 0 && !wri) else Val.inB item 0 3)) := by show _ = _; rw [HQ1.out, hd]; rfl
  rw [hd]
  clear hd HQ1
  cases fin
  · have F : Hid (askB d (who, item, wri, false) = Val.inB item 0 3) := HQ2.out
    go_wp2_with fail
    refine (Dlr.isItem item _).mono ?_
    rintro e w' ⟨rfl, hw'⟩; have hw'' := hw'.symm; clear hw'; subst hw''
    rw [← F.out]
    go_wp2
    go_ret
    exact ⟨rfl, BP.out⟩
  · have F : Hid (askB d (who, item, wri, true) = (item == 0 && !wri)) := HQ2.out
    by_cases h0 : item = 0
    · subst h0
      have F2 : Hid (askB d (who, 0, wri, true) = !wri) := F.out
      go_wp2
      go_ret
      exact ⟨ret_bool F2.out.symm, BP.out⟩
    · have hb : (item == 0) = false := by rw [beq_eq_false_iff_ne]; exact h0
      have F2 : Hid (askB d (who, item, wri, true) = false) := by show _ = _; rw [F.out, hb]; rfl
      go_wp2
      go_ret
      exact ⟨ret_bool F2.out.symm, BP.out⟩

set_option maxRecDepth 8000 in
set_option maxHeartbeats 1600000 in
theorem spec_ask (a0 a1 a2 : Option Addr) (n0 c0 n1 c1 n2 c2 : Nat) (who item : Int) (wri fin : Bool) (d : D) (w : World) (h2 : IIs w (.slice a2 n2 c2) d.2.2) :
    Calls Try.prog 70 #[.agg #[.slice a0 n0 c0, .slice a1 n1 c1, .slice a2 n2 c2], .agg #[.int .i64 who, .int .i64 item, .bool wri, .bool fin]] w fun e w' => e = .returned (.bool (askB d (who, item, wri, fin))) ∧ Below w.heap.size w w' := by
  have BP : Hid (Below w.heap.size w ((w.alloc (.cells #[.slice a0 n0 c0, .slice a1 n1 c1, .slice a2 n2 c2] 26)).alloc (.cells #[.int .i64 who, .int .i64 item, .bool wri, .bool fin] 28))) := ((Below.refl _ _).alloc (Nat.le_refl _) _).alloc (by simp) _
  have R2 : Hid (IsRow .i64 ((w.alloc (.cells #[.slice a0 n0 c0, .slice a1 n1 c1, .slice a2 n2 c2] 26)).alloc (.cells #[.int .i64 who, .int .i64 item, .bool wri, .bool fin] 28)) a2 n2 c2 d.2.2) := IsRow.below (num_at h2).1 BP.out
  have HQ : Hid (askB d (who, item, wri, fin) = (Val.inB who 0 3 && (!(decide (who ∈ d.2.2)) && (bif fin then (item == 0 && !wri) else Val.inB item 0 3)))) := rfl
  clear h2
  go_enter Try.func70, Try.ntmps70
  go_wp2_with fail
  refine (Val.spec_In who 0 3 _).mono ?_
  rintro e w' ⟨rfl, hw'⟩; have hw'' := hw'.symm; clear hw'; subst hw''
  rcases Bool.eq_false_or_eq_true (Val.inB who 0 3) with hd | hd
  rotate_left
  · have F : Hid (askB d (who, item, wri, fin) = false) := by show _ = _; rw [HQ.out, hd]; rfl
    rw [hd]
    clear hd HQ
    go_wp2
    go_ret
    exact ⟨ret_bool F.out.symm, BP.out⟩
  have HQ1 : Hid (askB d (who, item, wri, fin) = (!(decide (who ∈ d.2.2)) && (bif fin then (item == 0 && !wri) else Val.inB item 0 3))) := by show _ = _; rw [HQ.out, hd]; rfl
  rw [hd]
  clear hd HQ
  go_wp2_with fail
  refine (Ihl.l1Has a2 n2 c2 d.2.2 who _ R2.out).mono ?_
  rintro e w' ⟨rfl, hw'⟩; have hw'' := hw'.symm; clear hw'; subst hw''
  rcases Bool.eq_false_or_eq_true (decide (who ∈ d.2.2)) with hd | hd
  · have F : Hid (askB d (who, item, wri, fin) = false) := by show _ = _; rw [HQ1.out, hd]; rfl
    rw [hd]
    clear hd HQ1
    go_wp2
    go_ret
    exact ⟨ret_bool F.out.symm, BP.out⟩
  have HQ2 : Hid (askB d (who, item, wri, fin) = (bif fin then (item == 0 && !wri) else Val.inB item 0 3)) := by show _ = _; rw [HQ1.out, hd]; rfl
  rw [hd]
  clear hd HQ1
  go_wp2_with fail
  refine (Val.spec_In item 0 3 _).mono ?_
  rintro e w' ⟨rfl, hw'⟩; have hw'' := hw'.symm; clear hw'; subst hw''
  rcases Bool.eq_false_or_eq_true (Val.inB item 0 3) with hd | hd
  rotate_left
  · have F : Hid (askB d (who, item, wri, fin) = false) := by
      show _ = _
      rw [HQ2.out, hd]
      have h0 : (item == 0) = false := by
        rw [beq_eq_false_iff_ne]
        intro e
        rw [e] at hd
        cases hd
      rw [h0]
      cases fin <;> rfl
    rw [hd]
    clear hd HQ2
    go_wp2
    go_ret
    exact ⟨ret_bool F.out.symm, BP.out⟩
  have HQ3 : Hid (askB d (who, item, wri, fin) = (bif fin then (item == 0 && !wri) else true)) := by show _ = _; rw [HQ2.out, hd]
  rw [hd]
  clear hd HQ2
  cases fin
  · have F : Hid (askB d (who, item, wri, false) = true) := HQ3.out
    go_wp2
    go_ret
    exact ⟨ret_bool F.out.symm, BP.out⟩
  · have F : Hid (askB d (who, item, wri, true) = (item == 0 && !wri)) := HQ3.out
    by_cases h0 : item = 0
    · subst h0
      have F2 : Hid (askB d (who, 0, wri, true) = !wri) := F.out
      go_wp2
      go_ret
      exact ⟨ret_bool F2.out.symm, BP.out⟩
    · have hb : (item == 0) = false := by rw [beq_eq_false_iff_ne]; exact h0
      have F2 : Hid (askB d (who, item, wri, true) = false) := by show _ = _; rw [F.out, hb]; rfl
      go_wp2
      go_ret
      exact ⟨ret_bool F2.out.symm, BP.out⟩

/-- A held cell keeps its value where only what lies behind is turned. -/
theorem held4 {w w' : World} (hb : Below w.heap.size w w') {b o : Nat} {v : Value} (h : w.cell? ⟨b, o, none⟩ = some v) : w'.cell? ⟨b, o, none⟩ = some v := Frame.held_cell hb h

set_option maxRecDepth 8000 in
set_option maxHeartbeats 1600000 in
theorem closure (a0 a1 a2 : Option Addr) (c0 c1 n2 c2 : Nat) (who : Int) (it : Nat) (wri fin : Bool) (x : Int) (d : D) (ba bk bl : Nat) (w : World) (h0 : LIs w (.slice a0 4 c0) d.1) (h1 : IIs w (.slice a1 4 c1) d.2.1) (hit : it < 4)
    (hA : w.cell? ⟨ba, 0, none⟩ = some (.int .i64 who) ∧ w.cell? ⟨ba, 1, none⟩ = some (.int .i64 (it : Int)) ∧ w.cell? ⟨ba, 2, none⟩ = some (.bool wri) ∧ w.cell? ⟨ba, 3, none⟩ = some (.bool fin)) (hK : w.cell? ⟨bk, 0, none⟩ = some (.func (.func (if wri then 116 else 115)) #[] #[])) (hL : w.cell? ⟨bl, 0, none⟩ = some (.slice a0 4 c0) ∧ w.cell? ⟨bl, 1, none⟩ = some (.slice a1 4 c1) ∧ w.cell? ⟨bl, 2, none⟩ = some (.slice a2 n2 c2)) :
    Calls Try.prog 117 #[.int .i64 x, .pointer (some ⟨ba, 0, none⟩), .pointer (some ⟨bk, 0, none⟩), .pointer (some ⟨bl, 0, none⟩)] w fun e w' => e = .returned (.bool (keepB d (who, (it : Int), wri, fin) x)) ∧ Below w.heap.size w w' := by
  obtain ⟨hA0, hA1, hA2, hA3⟩ := hA
  obtain ⟨hL0, hL1, hL2⟩ := hL
  have H0 : Hid (LIs w (.slice a0 4 c0) d.1) := h0
  have H1 : Hid (IIs w (.slice a1 4 c1) d.2.1) := h1
  have HQ : Hid (keepB d (who, (it : Int), wri, fin) x = (x != who && (bif wri then heldB d x (it : Int) else writeB d x (it : Int)))) := rfl
  clear h0 h1
  by_cases hx : x = who
  · have hxb : (x != who) = false := by rw [hx]; simp
    have F : Hid (keepB d (who, (it : Int), wri, fin) x = false) := by show _ = _; rw [HQ.out, hxb]; rfl
    clear hx HQ
    go_enter Try.func117, Try.ntmps117
    go_wp2
    go_ret
    exact ⟨ret_bool F.out.symm, Below.refl _ _⟩
  · have hxb : (x != who) = true := by rw [bne_iff_ne]; exact hx
    have F : Hid (keepB d (who, (it : Int), wri, fin) x = (bif wri then heldB d x (it : Int) else writeB d x (it : Int))) := by show _ = _; rw [HQ.out, hxb]; rfl
    clear hx HQ
    cases wri
    · have F2 : Hid (keepB d (who, (it : Int), false, fin) x = writeB d x (it : Int)) := F.out
      have hK2 : w.cell? ⟨bk, 0, none⟩ = some (.func (.func 115) #[] #[]) := hK
      clear hK
      go_enter Try.func117, Try.ntmps117
      go_wp2_with fail
      refine (writes a0 a1 a2 4 c0 4 c1 n2 c2 x it d _ H1.out hit).mono ?_
      rintro e w1 ⟨rfl, hb1⟩
      have B1 : Hid (Below w.heap.size w w1) := hb1
      clear hb1 hA0 hA1 hA2 hA3 hL0 hL1 hL2 hK2
      rw [← F2.out]
      go_wp2
      go_ret
      exact ⟨rfl, B1.out⟩
    · have F2 : Hid (keepB d (who, (it : Int), true, fin) x = heldB d x (it : Int)) := F.out
      have hK2 : w.cell? ⟨bk, 0, none⟩ = some (.func (.func 116) #[] #[]) := hK
      clear hK
      go_enter Try.func117, Try.ntmps117
      go_wp2_with fail
      refine (holds a0 a1 a2 4 c0 4 c1 n2 c2 x it d _ H0.out H1.out hit hit).mono ?_
      rintro e w1 ⟨rfl, hb1⟩
      have B1 : Hid (Below w.heap.size w w1) := hb1
      clear hb1 hA0 hA1 hA2 hA3 hL0 hL1 hL2 hK2
      rw [← F2.out]
      go_wp2
      go_ret
      exact ⟨rfl, B1.out⟩

set_option maxRecDepth 8000 in
set_option maxHeartbeats 3200000 in
theorem keepers (a0 a1 a2 : Option Addr) (c0 c1 n2 c2 : Nat) (who : Int) (it : Nat) (wri fin : Bool) (d : D) (w : World) (h0 : LIs w (.slice a0 4 c0) d.1) (h1 : IIs w (.slice a1 4 c1) d.2.1) (hit : it < 4) :
    Calls Try.prog 65 #[.agg #[.slice a0 4 c0, .slice a1 4 c1, .slice a2 n2 c2], .agg #[.int .i64 who, .int .i64 (it : Int), .bool wri, .bool fin]] w fun e w' => ∃ a' m c', e = .returned (.slice a' m c') ∧ m ≤ 4 ∧ w'.ownsRow w.heap.size 3 1 (.slice a' m c') m (ints .i64 (waitN d (who, (it : Int), wri, fin))) ∧ Below w.heap.size w w' := by
  have H0 : Hid (LIs w (.slice a0 4 c0) d.1) := h0
  have H1 : Hid (IIs w (.slice a1 4 c1) d.2.1) := h1
  have HEN : Hid (Enters Try.prog 117) := enters Try.func117 (by kernel_rfl) rfl
  have hst : ∀ (a : Addr) (w : World) (f : Fn) (x y : Array Value) (m : Mode), (store a (.func f x y) m).run Try.prog w = stored Try.prog w a (.func f x y) m := fun a w f x y m => run_store Try.prog w a _ m rfl
  clear h0 h1
  cases wri
  · go_enter Try.func65, Try.ntmps65
    go_wp2_with fail
    refine (numbersBelow 4 _ (by omega)).mono ?_
    rintro e w1 ⟨g, rfl, ho, hb1⟩
    have KA : Hid (w1.cell? ⟨w.heap.size + 1, 0, none⟩ = some (.int .i64 who) ∧ w1.cell? ⟨w.heap.size + 1, 1, none⟩ = some (.int .i64 (it : Int)) ∧ w1.cell? ⟨w.heap.size + 1, 2, none⟩ = some (.bool false) ∧ w1.cell? ⟨w.heap.size + 1, 3, none⟩ = some (.bool fin)) := ⟨Frame.held_cell hb1 (by go_simp), Frame.held_cell hb1 (by go_simp), Frame.held_cell hb1 (by go_simp), Frame.held_cell hb1 (by go_simp)⟩
    have KK : Hid (w1.cell? ⟨w.heap.size + 1 + 1, 0, none⟩ = some (.func (.func 115) #[] #[])) := Frame.held_cell hb1 (by go_simp)
    have KL : Hid (w1.cell? ⟨w.heap.size, 0, none⟩ = some (.slice a0 4 c0) ∧ w1.cell? ⟨w.heap.size, 1, none⟩ = some (.slice a1 4 c1) ∧ w1.cell? ⟨w.heap.size, 2, none⟩ = some (.slice a2 n2 c2)) := ⟨Frame.held_cell hb1 (by go_simp), Frame.held_cell hb1 (by go_simp), Frame.held_cell hb1 (by go_simp)⟩
    have B1 : Hid (Below w.heap.size w w1) := by
      refine Frame.next ?_ hb1 ?_
      · exact (((Below.refl _ _).alloc (Nat.le_refl _) _).alloc (by simp) _).alloc (by simp; omega) _
      · simp; omega
    have R1 : Hid (IsRow .i64 w1 (some ⟨g, 0, none⟩) 4 4 four) := own_row ho (numN_wf 4 (by omega))
    clear ho hb1
    go_wp2_with fail
    refine (kept_int (some ⟨g, 0, none⟩) 4 4 four 117 #[.pointer (some ⟨w.heap.size + 1, 0, none⟩), .pointer (some ⟨w.heap.size + 1 + 1, 0, none⟩), .pointer (some ⟨w.heap.size, 0, none⟩)] (keepB d (who, (it : Int), false, fin)) _ R1.out (by omega) HEN.out (fun x hx w2 hb2 => closure a0 a1 a2 c0 c1 n2 c2 who it false fin x d (w.heap.size + 1) (w.heap.size + 1 + 1) w.heap.size w2 (lIs_below H0.out (Frame.next B1.out hb2 B1.out.size)) (iIs_below H1.out (Frame.next B1.out hb2 B1.out.size)) hit ⟨held4 hb2 KA.out.1, held4 hb2 KA.out.2.1, held4 hb2 KA.out.2.2.1, held4 hb2 KA.out.2.2.2⟩ (held4 hb2 KK.out) ⟨held4 hb2 KL.out.1, held4 hb2 KL.out.2.1, held4 hb2 KL.out.2.2⟩)).mono ?_
    rintro e w3 ⟨a', m, c', rfl, hm, ho, hb3⟩
    have O3 : Hid (w3.ownsRow w.heap.size 3 1 (.slice a' m c') m (ints .i64 (waitN d (who, (it : Int), false, fin)))) := own_base ho B1.out.size
    have B3 : Hid (Below w.heap.size w w3) := Frame.next B1.out hb3 B1.out.size
    clear ho hb3
    go_wp2
    go_ret
    exact ⟨_, _, _, rfl, hm, O3.out, B3.out⟩
  · go_enter Try.func65, Try.ntmps65
    go_wp2_with fail
    refine (numbersBelow 4 _ (by omega)).mono ?_
    rintro e w1 ⟨g, rfl, ho, hb1⟩
    have KA : Hid (w1.cell? ⟨w.heap.size + 1, 0, none⟩ = some (.int .i64 who) ∧ w1.cell? ⟨w.heap.size + 1, 1, none⟩ = some (.int .i64 (it : Int)) ∧ w1.cell? ⟨w.heap.size + 1, 2, none⟩ = some (.bool true) ∧ w1.cell? ⟨w.heap.size + 1, 3, none⟩ = some (.bool fin)) := ⟨Frame.held_cell hb1 (by go_simp), Frame.held_cell hb1 (by go_simp), Frame.held_cell hb1 (by go_simp), Frame.held_cell hb1 (by go_simp)⟩
    have KK : Hid (w1.cell? ⟨w.heap.size + 1 + 1, 0, none⟩ = some (.func (.func 116) #[] #[])) := Frame.held_cell hb1 (by go_simp)
    have KL : Hid (w1.cell? ⟨w.heap.size, 0, none⟩ = some (.slice a0 4 c0) ∧ w1.cell? ⟨w.heap.size, 1, none⟩ = some (.slice a1 4 c1) ∧ w1.cell? ⟨w.heap.size, 2, none⟩ = some (.slice a2 n2 c2)) := ⟨Frame.held_cell hb1 (by go_simp), Frame.held_cell hb1 (by go_simp), Frame.held_cell hb1 (by go_simp)⟩
    have B1 : Hid (Below w.heap.size w w1) := by
      refine Frame.next ?_ hb1 ?_
      · exact (((Below.refl _ _).alloc (Nat.le_refl _) _).alloc (by simp) _).alloc (by simp; omega) _
      · simp; omega
    have R1 : Hid (IsRow .i64 w1 (some ⟨g, 0, none⟩) 4 4 four) := own_row ho (numN_wf 4 (by omega))
    clear ho hb1
    go_wp2_with fail
    refine (kept_int (some ⟨g, 0, none⟩) 4 4 four 117 #[.pointer (some ⟨w.heap.size + 1, 0, none⟩), .pointer (some ⟨w.heap.size + 1 + 1, 0, none⟩), .pointer (some ⟨w.heap.size, 0, none⟩)] (keepB d (who, (it : Int), true, fin)) _ R1.out (by omega) HEN.out (fun x hx w2 hb2 => closure a0 a1 a2 c0 c1 n2 c2 who it true fin x d (w.heap.size + 1) (w.heap.size + 1 + 1) w.heap.size w2 (lIs_below H0.out (Frame.next B1.out hb2 B1.out.size)) (iIs_below H1.out (Frame.next B1.out hb2 B1.out.size)) hit ⟨held4 hb2 KA.out.1, held4 hb2 KA.out.2.1, held4 hb2 KA.out.2.2.1, held4 hb2 KA.out.2.2.2⟩ (held4 hb2 KK.out) ⟨held4 hb2 KL.out.1, held4 hb2 KL.out.2.1, held4 hb2 KL.out.2.2⟩)).mono ?_
    rintro e w3 ⟨a', m, c', rfl, hm, ho, hb3⟩
    have O3 : Hid (w3.ownsRow w.heap.size 3 1 (.slice a' m c') m (ints .i64 (waitN d (who, (it : Int), true, fin)))) := own_base ho B1.out.size
    have B3 : Hid (Below w.heap.size w w3) := Frame.next B1.out hb3 B1.out.size
    clear ho hb3
    go_wp2
    go_ret
    exact ⟨_, _, _, rfl, hm, O3.out, B3.out⟩


end Go.Proofs.Ytkondmnkmbdncaa.Lkd
