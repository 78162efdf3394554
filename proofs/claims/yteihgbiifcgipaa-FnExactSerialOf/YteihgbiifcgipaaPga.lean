/-
  Plays as data; contracts of GoodPlay and of what tells a clash, of the program and of the model.
-/
import Derived.Test.YteihgbiifcgipaaFAct
import Derived.Test.YteihgbiifcgipaaVal
namespace Go.Proofs.Yteihgbiifcgipaa.Pga
open Go.RowKit
open Go.Proofs.Yteihgbiifcgipaa.Frame Go.Proofs.Yteihgbiifcgipaa.Mem Go.Proofs.Yteihgbiifcgipaa.Ints Go.Proofs.Yteihgbiifcgipaa.Kep Go.Proofs.Yteihgbiifcgipaa.Val Go.Proofs.Yteihgbiifcgipaa.FAct

def actB (a : D) : Bool := inB a.1 0 3 && inB a.2.1 0 3
def goodP (l : List D) : Bool := decide (l.length ≤ 16) && l.all actB
def clashB (a b : D) : Bool := a.1 != b.1 && (a.2.1 == b.2.1 && (a.2.2 || b.2.2))

theorem goodP_most {l : List D} (h : ¬ l.length ≤ 16) : goodP l = false := by unfold goodP; rw [decide_eq_false h]; rfl
theorem goodP_few {l : List D} (h : l.length ≤ 16) : goodP l = l.all actB := by unfold goodP; rw [decide_eq_true h]; rfl
theorem good_len {l : List D} (h : goodP l = true) : l.length ≤ 16 := by
  unfold goodP at h
  exact of_decide_eq_true (Bool.and_eq_true_iff.1 h).1
theorem good_all {l : List D} (h : goodP l = true) : ∀ a ∈ l, actB a = true := by
  unfold goodP at h
  exact List.all_eq_true.1 (Bool.and_eq_true_iff.1 h).2
theorem good_act {a : D} (h : actB a = true) : 0 ≤ a.1 ∧ a.1 ≤ 3 ∧ 0 ≤ a.2.1 ∧ a.2.1 ≤ 3 := by
  unfold actB inB at h
  rw [Bool.and_eq_true, decide_eq_true_eq, decide_eq_true_eq] at h
  omega
theorem all_no {l : List D} {k : Nat} (hk : k < l.length) (h : actB (l.getD k d0) = false) : l.all actB = false := by
  rw [List.all_eq_false]
  exact ⟨_, FAct.getD_mem hk, by rw [h]; exact Bool.false_ne_true⟩
theorem all_next {l : List D} {k : Nat} (hk : k < l.length) (ha : (l.take k).all actB = true) (h : actB (l.getD k d0) = true) : (l.take (k + 1)).all actB = true := by
  rw [FAct.take_succ hk, List.all_append, ha, Bool.true_and, List.all_cons, h]
  rfl

/-- What a walk wants of the k-th act. -/
theorem act_at {w wr : World} {a : Option Addr} {n cap : Nat} {xs : List D} (h : IsX w a n cap xs) (hb : Below w.heap.size w wr) {k : Nat} (hk : k < n) :
    ∃ b off who item wri, a = some ⟨b, off, none⟩ ∧ wr.cell? ⟨b, off + k * 3, none⟩ = some (.int .i64 who) ∧ wr.cell? ⟨b, off + k * 3 + 1, none⟩ = some (.int .i64 item) ∧ wr.cell? ⟨b, off + k * 3 + 2, none⟩ = some (.bool wri) ∧ xs.getD k d0 = (who, item, wri) := by
  obtain ⟨b, off, rfl, hbl, hc⟩ := h.cells (by omega)
  have := hc k hk
  refine ⟨b, off, (xs.getD k d0).1, (xs.getD k d0).2.1, (xs.getD k d0).2.2, rfl, ?_, ?_, ?_, rfl⟩
  · rw [hb.cell (p := ⟨b, off + k * 3, none⟩) hbl]; exact this.1
  · rw [hb.cell (p := ⟨b, off + k * 3 + 1, none⟩) hbl]; exact this.2.1
  · rw [hb.cell (p := ⟨b, off + k * 3 + 2, none⟩) hbl]; exact this.2.2

theorem isDealer (n : Int) (w : World) : Calls Try.prog 53 #[.int .i64 n] w fun e w' => e = .returned (.bool (inB n 0 3)) ∧ w' = w := by
  by_cases h0 : 0 ≤ n
  · by_cases h2 : n ≤ 3
    · have e : inB n 0 3 = true := by unfold inB; simp [h0, h2]
      have h4 : n < 4 := by omega
      rw [e]
      go_enter Try.func53, Try.ntmps53
      go_wp2
      go_ret
      exact ⟨rfl, rfl⟩
    · have e : inB n 0 3 = false := by unfold inB; simp [h2]
      have h4 : ¬ n < 4 := by omega
      rw [e]
      go_enter Try.func53, Try.ntmps53
      go_wp2
      go_ret
      exact ⟨rfl, rfl⟩
  · have e : inB n 0 3 = false := by unfold inB; simp [h0]
    rw [e]
    go_enter Try.func53, Try.ntmps53
    go_wp2
    go_ret
    exact ⟨rfl, rfl⟩

theorem isItem (n : Int) (w : World) : Calls Try.prog 54 #[.int .i64 n] w fun e w' => e = .returned (.bool (inB n 0 3)) ∧ w' = w := by
  by_cases h0 : 0 ≤ n
  · by_cases h2 : n ≤ 3
    · have e : inB n 0 3 = true := by unfold inB; simp [h0, h2]
      have h4 : n < 4 := by omega
      rw [e]
      go_enter Try.func54, Try.ntmps54
      go_wp2
      go_ret
      exact ⟨rfl, rfl⟩
    · have e : inB n 0 3 = false := by unfold inB; simp [h2]
      have h4 : ¬ n < 4 := by omega
      rw [e]
      go_enter Try.func54, Try.ntmps54
      go_wp2
      go_ret
      exact ⟨rfl, rfl⟩
  · have e : inB n 0 3 = false := by unfold inB; simp [h0]
    rw [e]
    go_enter Try.func54, Try.ntmps54
    go_wp2
    go_ret
    exact ⟨rfl, rfl⟩

set_option maxHeartbeats 800000 in
theorem impl_GoodPlay (a : Option Addr) (n cap : Nat) (xs : List D) (w : World) (h : IsX w a n cap xs) :
    Calls Try.prog 19 #[.slice a n cap] w fun e w' => e = .returned (.bool (goodP xs)) ∧ Below w.heap.size w w' := by
  have HL : Hid (xs.length = n) := h.len
  have HI : Hid (IsX w a n cap xs) := h
  clear h
  by_cases h16 : n ≤ 16
  · have hn16 : (n : Int) ≤ 16 := by omega
    have HG : Hid (goodP xs = xs.all actB) := goodP_few (by rw [HL.out]; exact h16)
    go_enter Try.func19, Try.ntmps19
    go_wp2_with fail
    go_loopw [10] (fun i wr => ∃ k : Nat, k ≤ n ∧ i = .int .i64 k ∧ (xs.take k).all actB = true ∧ Below w.heap.size w wr) (fun i _ => n - (intOf i).toNat)
    case atStart => exact ⟨0, Nat.zero_le _, rfl, rfl, Below.refl _ _⟩
    case round =>
      obtain ⟨k, hk, rfl, ha, hnx⟩ := hrel
      have HA : Hid ((xs.take k).all actB = true) := ha
      have HN : Hid (Below w.heap.size w wr) := hnx
      have hsr := hnx.size
      clear ha
      by_cases hlt : k < n
      · obtain ⟨b, off, who, item, wri, rfl, p0, p1, p2, hx⟩ := act_at HI.out hnx hlt
        have HNO : Hid (actB (who, item, wri) = false → goodP xs = false) := fun e => by rw [HG.out]; exact all_no (by rw [HL.out]; exact hlt) (by rw [hx]; exact e)
        have HYES : Hid (actB (who, item, wri) = true → (xs.take (k + 1)).all actB = true) := fun e => all_next (by rw [HL.out]; exact hlt) HA.out (by rw [hx]; exact e)
        have B1 : Hid (Below w.heap.size w (wr.alloc (.cells #[.int .i64 who, .int .i64 item, .bool wri] 59))) := hnx.alloc hsr _
        clear hx hnx
        go_wp2_with fail
        refine (isDealer who _).mono ?_
        rintro e w' ⟨rfl, hw'⟩; have hw'' := hw'.symm; clear hw'; subst hw''
        cases hd : inB who 0 3
        · have F : Hid (goodP xs = false) := HNO.out (by unfold actB; rw [show inB who 0 3 = false from hd]; rfl)
          clear hd
          go_wp2
          go_ret
          exact ⟨ret_bool F.out.symm, B1.out⟩
        · have HD : Hid (inB who 0 3 = true) := hd
          clear hd
          go_wp2_with fail
          refine (isItem item _).mono ?_
          rintro e w' ⟨rfl, hw'⟩; have hw'' := hw'.symm; clear hw'; subst hw''
          cases hi : inB item 0 3
          · have F : Hid (goodP xs = false) := HNO.out (by unfold actB; rw [show inB item 0 3 = false from hi, Bool.and_false])
            clear hi
            go_wp2
            go_ret
            exact ⟨ret_bool F.out.symm, B1.out⟩
          · have F : Hid ((xs.take (k + 1)).all actB = true) := HYES.out (by unfold actB; rw [show inB item 0 3 = true from hi, show inB who 0 3 = true from HD.out]; rfl)
            clear hi
            go_wp2
            go_roundw
            case rel => exact ⟨k + 1, by omega, by go_num, F.out, B1.out⟩
            case measure => simp [intOf]; omega
      · have F : Hid (goodP xs = true) := by
          show _ = _
          rw [HG.out]
          have := HA.out
          rwa [List.take_of_length_le (by rw [HL.out]; omega)] at this
        clear hnx
        go_wp2
        go_ret
        exact ⟨ret_bool F.out.symm, HN.out⟩
  · have hn16 : (16 : Int) < (n : Int) := by omega
    have F : Hid (goodP xs = false) := goodP_most (by rw [HL.out]; exact h16)
    go_enter Try.func19, Try.ntmps19
    go_wp2
    go_ret
    exact ⟨ret_bool F.out.symm, Below.refl _ _⟩

set_option maxHeartbeats 800000 in
theorem spec_GoodPlay (a : Option Addr) (n cap : Nat) (xs : List D) (w : World) (h : IsX w a n cap xs) :
    Calls Try.prog 36 #[.slice a n cap] w fun e w' => e = .returned (.bool (goodP xs)) ∧ Below w.heap.size w w' := by
  have HL : Hid (xs.length = n) := h.len
  have HI : Hid (IsX w a n cap xs) := h
  have HM : Hid (n ≤ maxLen) := Nat.le_trans h.fits h.max
  clear h
  have HG : Hid (xs.all actB = false → goodP xs = false) := fun e => by unfold goodP; rw [e, Bool.and_false]
  go_enter Try.func36, Try.ntmps36
  go_wp2_with fail
  go_loopw [7] (fun i wr => ∃ k : Nat, k ≤ n ∧ i = .int .i64 k ∧ (xs.take k).all actB = true ∧ Below w.heap.size w wr) (fun i _ => n - (intOf i).toNat)
  case atStart => exact ⟨0, Nat.zero_le _, rfl, rfl, Below.refl _ _⟩
  case round =>
    obtain ⟨k, hk, rfl, ha, hnx⟩ := hrel
    have HA : Hid ((xs.take k).all actB = true) := ha
    have HN : Hid (Below w.heap.size w wr) := hnx
    have hsr := hnx.size
    clear ha
    by_cases hlt : k < n
    · obtain ⟨b, off, who, item, wri, rfl, p0, p1, p2, hx⟩ := act_at HI.out hnx hlt
      have HNO : Hid (actB (who, item, wri) = false → goodP xs = false) := fun e => HG.out (all_no (by rw [HL.out]; exact hlt) (by rw [hx]; exact e))
      have HYES : Hid (actB (who, item, wri) = true → (xs.take (k + 1)).all actB = true) := fun e => all_next (by rw [HL.out]; exact hlt) HA.out (by rw [hx]; exact e)
      have B1 : Hid (Below w.heap.size w (wr.alloc (.cells #[.int .i64 who, .int .i64 item, .bool wri] 59))) := hnx.alloc hsr _
      have hmx : n ≤ 9223372036854775807 := by have := HM.out; unfold maxLen at this; omega
      clear hx hnx
      go_wp2_with fail
      refine (spec_In who 0 3 _).mono ?_
      rintro e w' ⟨rfl, hw'⟩; have hw'' := hw'.symm; clear hw'; subst hw''
      cases hd : inB who 0 3
      · have F : Hid (goodP xs = false) := HNO.out (by unfold actB; rw [show inB who 0 3 = false from hd]; rfl)
        clear hd
        go_wp2
        go_ret
        exact ⟨ret_bool F.out.symm, B1.out⟩
      · have HD : Hid (inB who 0 3 = true) := hd
        clear hd
        go_wp2_with fail
        refine (spec_In item 0 3 _).mono ?_
        rintro e w' ⟨rfl, hw'⟩; have hw'' := hw'.symm; clear hw'; subst hw''
        cases hi : inB item 0 3
        · have F : Hid (goodP xs = false) := HNO.out (by unfold actB; rw [show inB item 0 3 = false from hi, Bool.and_false])
          clear hi
          go_wp2
          go_ret
          exact ⟨ret_bool F.out.symm, B1.out⟩
        · have F : Hid ((xs.take (k + 1)).all actB = true) := HYES.out (by unfold actB; rw [show inB item 0 3 = true from hi, show inB who 0 3 = true from HD.out]; rfl)
          clear hi
          go_wp2
          go_roundw
          case rel => exact ⟨k + 1, by omega, by go_num, F.out, B1.out⟩
          case measure => simp [intOf]; omega
    · have F : Hid (goodP xs = decide (n ≤ 16)) := by
        show _ = _
        have := HA.out
        rw [List.take_of_length_le (by rw [HL.out]; omega)] at this
        unfold goodP
        rw [this, Bool.and_true, HL.out]
      clear hnx
      by_cases h16 : n ≤ 16
      · have hn16 : (n : Int) ≤ 16 := by omega
        go_wp2
        go_ret
        exact ⟨ret_bool (by rw [F.out]; exact (decide_eq_true h16).symm), HN.out⟩
      · have hn16 : ¬ (n : Int) ≤ 16 := by omega
        go_wp2
        go_ret
        exact ⟨ret_bool (by rw [F.out]; exact (decide_eq_false h16).symm), HN.out⟩

theorem impl_GoodP (v : Value) (xs : List D) (w : World) (h : XIs w v xs) : Calls Try.prog 19 #[v] w fun e w' => e = .returned (.bool (goodP xs)) ∧ Below w.heap.size w w' := by
  obtain ⟨a, n, cap, rfl, hr, _⟩ := h
  exact impl_GoodPlay a n cap xs w hr
theorem spec_GoodP (v : Value) (xs : List D) (w : World) (h : XIs w v xs) : Calls Try.prog 36 #[v] w fun e w' => e = .returned (.bool (goodP xs)) ∧ Below w.heap.size w w' := by
  obtain ⟨a, n, cap, rfl, hr, _⟩ := h
  exact spec_GoodPlay a n cap xs w hr


end Go.Proofs.Yteihgbiifcgipaa.Pga
