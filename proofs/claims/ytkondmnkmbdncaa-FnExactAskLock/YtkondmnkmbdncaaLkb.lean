/-
  Contracts of GoodLocks and HeldBy of the program.
-/
import Derived.Test.YtkondmnkmbdncaaLka
import Derived.Test.YtkondmnkmbdncaaSa
import Derived.Test.YtkondmnkmbdncaaOd
namespace Go.Proofs.Ytkondmnkmbdncaa.Lkb
open Go.RowKit
open Go.Proofs.Ytkondmnkmbdncaa.Frame Go.Proofs.Ytkondmnkmbdncaa.Mem Go.Proofs.Ytkondmnkmbdncaa.Ints Go.Proofs.Ytkondmnkmbdncaa.Kep Go.Proofs.Ytkondmnkmbdncaa.Lls Go.Proofs.Ytkondmnkmbdncaa.Knl Go.Proofs.Ytkondmnkmbdncaa.Mis Go.Proofs.Ytkondmnkmbdncaa.Kpi Go.Proofs.Ytkondmnkmbdncaa.Lkp Go.Proofs.Ytkondmnkmbdncaa.Lka Go.Proofs.Ytkondmnkmbdncaa.Dlr Go.Proofs.Ytkondmnkmbdncaa.Rel
open Go.Proofs.Ytkondmnkmbdncaa.SLocks (D SIs)

theorem allN_take {f : Int → Bool} {zs : List Int} {k : Nat} (hk : k < zs.length) (h : (zs.take k).all f = true) (e : f (zs.getD k 0) = true) : (zs.take (k + 1)).all f = true := Lst.all_take_succ f zs k hk e h
theorem range_no {f : Nat → Bool} {n k : Nat} (hk : k < n) (h : f k = false) : (List.range n).all f = false := by
  rw [List.all_eq_false]
  exact ⟨k, List.mem_range.2 hk, by rw [h]; exact Bool.false_ne_true⟩
theorem range_next {f : Nat → Bool} {k : Nat} (ha : (List.range k).all f = true) (h : f k = true) : (List.range (k + 1)).all f = true := by
  rw [List.range_succ, List.all_append, ha, List.all_cons, h]
  rfl
theorem fewer {o : List Int} (h : ¬ o.Nodup) : ∃ o' : List Int, o'.length + 1 = o.length ∧ ∀ s, s ∈ o → s ∈ o' := by
  induction o with
  | nil => exact absurd List.nodup_nil h
  | cons a t ih =>
    by_cases ha : a ∈ t
    · exact ⟨t, rfl, fun s hs => (List.mem_cons.1 hs).elim (fun e => e ▸ ha) id⟩
    · have ht : ¬ t.Nodup := fun ht => h (List.nodup_cons.2 ⟨ha, ht⟩)
      obtain ⟨t', h1, h2⟩ := ih ht
      exact ⟨a :: t', by simp [h1], fun s hs => (List.mem_cons.1 hs).elim (fun e => e ▸ List.mem_cons_self) (fun e => List.mem_cons_of_mem _ (h2 s e))⟩
theorem up_nodup {os : List Int} (h : UpN os) : os.Nodup := List.Pairwise.imp (fun hab => by omega) h
theorem once_same {os o : List Int} (h : Od.OnceN os o) : os.length = o.length ↔ o.Nodup := by
  have hn := up_nodup h.1
  constructor
  · intro he
    by_cases hd : o.Nodup
    · exact hd
    · obtain ⟨o', h1, h2⟩ := fewer hd
      have := hn.length_le_of_subset (fun s hs => h2 s ((h.2 s).1 hs))
      omega
  · intro hd
    have h1 := hn.length_le_of_subset (fun s hs => (h.2 s).1 hs)
    have h2 := hd.length_le_of_subset (fun s hs => (h.2 s).2 hs)
    omega
theorem once_rise {os o : List Int} (h : Od.OnceN os o) : (decide (os.length = o.length) && riseB 0 3 os) = onceB o := by
  have e : allI 0 3 os = o.all (fun z => Val.inB z 0 3) := by
    rw [Bool.eq_iff_iff]
    unfold allI
    simp only [List.all_eq_true]
    exact ⟨fun hh z hz => hh z ((h.2 z).2 hz), fun hh z hz => hh z ((h.2 z).1 hz)⟩
  unfold riseB onceB
  rw [e, decide_eq_true h.1, Bool.and_true, Bool.and_comm]
  congr 1
  exact decide_eq_decide.2 (once_same h)

set_option maxHeartbeats 800000 in
theorem areRising (a : Option Addr) (n ca : Nat) (zs : List Int) (w : World) (ha : IsRow .i64 w a n ca zs) :
    Calls Try.prog 75 #[.slice a n ca] w fun e w' => e = .returned (.bool (riseB 0 3 zs)) ∧ Below w.heap.size w w' := by
  have hmaxn : n ≤ 9223372036854775807 := by have := ha.fits; have := ha.max; unfold maxLen at *; omega
  have HA : Hid (IsRow .i64 w a n ca zs) := ha
  have HL : Hid (zs.length = n) := ha.len
  clear ha
  go_enter Try.func75, Try.ntmps75
  go_wp2
  go_loop [7] (fun i => ∃ k : Nat, k ≤ n ∧ i = .int .i64 k ∧ (zs.take k).all (fun z => Val.inB z 0 3) = true) (fun i => n - (intOf i).toNat)
  case atStart => exact ⟨0, Nat.zero_le _, rfl, rfl⟩
  case round =>
    obtain ⟨k, hk, rfl, hall⟩ := hrel
    have Hall : Hid ((zs.take k).all (fun z => Val.inB z 0 3) = true) := hall
    clear hall
    by_cases hlt : k < n
    · obtain ⟨b, off, rfl, hbl, hc⟩ := HA.out.cells (by omega)
      have hck := hc k hlt
      have hkl : k < zs.length := by rw [HL.out]; exact hlt
      have HX : Hid ((Val.inB (zs.getD k 0) 0 3 = true → (zs.take (k + 1)).all (fun z => Val.inB z 0 3) = true) ∧ (Val.inB (zs.getD k 0) 0 3 = false → riseB 0 3 zs = false)) :=
        ⟨fun e => allN_take hkl Hall.out e, fun e => Sa.rise_no_in hkl e⟩
      generalize zs.getD k 0 = z at hck HX
      clear hc hkl
      go_wp2_with fail
      refine (isDealer z _).mono ?_
      rintro e w' ⟨rfl, hw'⟩; have hw'' := hw'.symm; clear hw'; subst hw''
      rcases Bool.eq_false_or_eq_true (Val.inB z 0 3) with hd | hd
      · have F : Hid ((zs.take (k + 1)).all (fun z => Val.inB z 0 3) = true) := HX.out.1 hd
        rw [hd]
        clear HX hd
        go_wp2
        go_round
        case rel => exact ⟨k + 1, by omega, by go_num, F.out⟩
        case measure => simp [intOf]; omega
      · have F : Hid (riseB 0 3 zs = false) := HX.out.2 hd
        rw [hd]
        clear HX hd
        go_wp2
        go_ret
        exact ⟨ret_bool F.out.symm, Below.refl _ _⟩
    · have F : Hid (riseB 0 3 zs = decide (UpN zs)) := by
        show _ = _
        have h := Hall.out
        rw [List.take_of_length_le (by rw [HL.out]; omega)] at h
        unfold riseB allI
        rw [h, Bool.true_and]
      go_wp2_with fail
      refine (Oa.rises_int a n ca zs _ HA.out).mono ?_
      rintro e w1 ⟨rfl, hb1⟩
      have B1 : Hid (Below w.heap.size w w1) := hb1
      clear hb1
      go_wp2
      go_ret
      exact ⟨ret_bool F.out.symm, B1.out⟩

set_option maxHeartbeats 800000 in
theorem mayWrite (x : Int) (a : Option Addr) (n ca : Nat) (zs : List Int) (w : World) (ha : IsRow .i64 w a n ca zs) (hx : (Lit.int .i64 x).wf = true) :
    Calls Try.prog 76 #[.int .i64 x, .slice a n ca] w fun e w' => e = .returned (.bool (besideB x zs)) ∧ Below w.heap.size w w' := by
  have hmaxn : n ≤ 9223372036854775807 := by have := ha.fits; have := ha.max; unfold maxLen at *; omega
  have HA : Hid (IsRow .i64 w a n ca zs) := ha
  have HL : Hid (zs.length = n) := ha.len
  clear ha
  by_cases h1 : x = -1
  · subst h1
    have F : Hid (besideB (-1) zs = true) := rfl
    go_enter Try.func76, Try.ntmps76
    go_wp2
    go_ret
    exact ⟨ret_bool F.out.symm, Below.refl _ _⟩
  have hne : (x == -1) = false := by rw [beq_eq_false_iff_ne]; exact h1
  have HB : Hid (besideB x zs = (Val.inB x 0 3 && (decide (zs = []) || decide (zs = [x])))) := by show _ = _; unfold besideB; rw [hne]; rfl
  rcases Bool.eq_false_or_eq_true (Val.inB x 0 3) with hd | hd
  · by_cases h0 : n = 0
    · subst h0
      have hz : zs = [] := List.eq_nil_of_length_eq_zero HL.out
      have F : Hid (besideB x zs = true) := by show _ = _; rw [HB.out, hd, hz]; rfl
      have HD : Hid (Val.inB x 0 3 = true) := hd
      clear hz hd HB
      go_enter Try.func76, Try.ntmps76
      go_wp2_with fail
      refine (isDealer x _).mono ?_
      rintro e w' ⟨rfl, hw'⟩; have hw'' := hw'.symm; clear hw'; subst hw''
      rw [HD.out]
      go_wp2
      go_ret
      exact ⟨ret_bool F.out.symm, Below.refl _ _⟩
    · have hnI : ((n : Int) == 0) = false := by rw [beq_eq_false_iff_ne]; omega
      have hzn : decide (zs = []) = false := decide_eq_false (fun e => h0 (by rw [← HL.out, e]; rfl))
      have F : Hid (besideB x zs = decide (zs = [x])) := by show _ = _; rw [HB.out, hd, hzn]; rfl
      have HD : Hid (Val.inB x 0 3 = true) := hd
      have HX : Hid ((Lit.int .i64 x).wf = true) := hx
      have B1 : Hid (Below w.heap.size w (w.alloc (.cells #[.int .i64 x] 3))) := (Below.refl _ _).alloc (Nat.le_refl _) _
      have O1 : Hid ((w.alloc (.cells #[.int .i64 x] 3)).ownsRow w.heap.size 3 1 (.slice (some ⟨w.heap.size, 0, none⟩) 1 1) 1 (ints .i64 [x])) := ⟨rfl, .inr ⟨w.heap.size, 1, _, rfl, Nat.le_refl _, heap_alloc_new w _, Nat.le_refl _, by unfold maxLen; omega, rfl, rfl⟩⟩
      have R1 : Hid (IsRow .i64 (w.alloc (.cells #[.int .i64 x] 3)) (some ⟨w.heap.size, 0, none⟩) 1 1 [x]) := Lka.own_row O1.out (fun z hz => by rw [List.mem_singleton.1 hz]; exact HX.out)
      clear hd HB hzn hx
      go_enter Try.func76, Try.ntmps76
      go_wp2_with fail
      refine (isDealer x _).mono ?_
      rintro e w' ⟨rfl, hw'⟩; have hw'' := hw'.symm; clear hw'; subst hw''
      rw [HD.out]
      go_wp2_with fail
      refine (equal_int a (some ⟨w.heap.size, 0, none⟩) n 1 ca 1 zs [x] _ (IsRow.below HA.out B1.out) R1.out).mono ?_
      rintro e w2 ⟨rfl, hb2⟩
      have B2 : Hid (Below w.heap.size w w2) := Frame.next B1.out hb2 B1.out.size
      clear hb2
      rw [← F.out]
      go_wp2
      go_ret
      exact ⟨rfl, B2.out⟩
  · have F : Hid (besideB x zs = false) := by show _ = _; rw [HB.out, hd]; rfl
    have HD : Hid (Val.inB x 0 3 = false) := hd
    clear hd HB
    go_enter Try.func76, Try.ntmps76
    go_wp2_with fail
    refine (isDealer x _).mono ?_
    rintro e w' ⟨rfl, hw'⟩; have hw'' := hw'.symm; clear hw'; subst hw''
    rw [HD.out]
    go_wp2
    go_ret
    exact ⟨ret_bool F.out.symm, Below.refl _ _⟩

set_option maxHeartbeats 800000 in
theorem areOnce (a : Option Addr) (n ca : Nat) (zs : List Int) (w : World) (ha : IsRow .i64 w a n ca zs) :
    Calls Try.prog 74 #[.slice a n ca] w fun e w' => e = .returned (.bool (onceB zs)) ∧ Below w.heap.size w w' := by
  have hmaxn : n ≤ 9223372036854775807 := by have := ha.fits; have := ha.max; unfold maxLen at *; omega
  have HA : Hid (IsRow .i64 w a n ca zs) := ha
  have HL : Hid (zs.length = n) := ha.len
  clear ha
  by_cases h4 : n ≤ 4
  · have h4I : ¬ (n : Int) > 4 := by omega
    go_enter Try.func74, Try.ntmps74
    go_wp2_with fail
    refine (Od.once_int a n ca zs _ HA.out (by omega)).mono ?_
    rintro e w1 ⟨a', m, c', os, rfl, hm, ho, hon, hwf, hb1⟩
    have B1 : Hid (Below w.heap.size w w1) := hb1
    have R1 : Hid (IsRow .i64 w1 a' m c' os) := Lka.own_row ho hwf
    have HO : Hid ((decide (os.length = zs.length) && riseB 0 3 os) = onceB zs) := once_rise hon
    have HM : Hid (os.length = m) := R1.out.len
    clear ho hon hwf hb1
    by_cases he : m = n
    · subst he
      have F : Hid (onceB zs = riseB 0 3 os) := by show _ = _; rw [← HO.out, decide_eq_true (by rw [HM.out, HL.out]), Bool.true_and]
      go_wp2_with fail
      refine (areRising a' m c' os _ R1.out).mono ?_
      rintro e w2 ⟨rfl, hb2⟩
      have B2 : Hid (Below w.heap.size w w2) := Frame.next B1.out hb2 B1.out.size
      clear hb2
      rw [← F.out]
      go_wp2
      go_ret
      exact ⟨rfl, B2.out⟩
    · have F : Hid (onceB zs = false) := by show _ = _; rw [← HO.out, decide_eq_false (by rw [HM.out, HL.out]; exact he), Bool.false_and]
      have heI : ((m : Int) == (n : Int)) = false := by rw [beq_eq_false_iff_ne]; omega
      go_wp2
      go_ret
      exact ⟨ret_bool F.out.symm, B1.out⟩
  · have h4I : (n : Int) > 4 := by omega
    have F : Hid (onceB zs = false) := by
      show _ = _
      rw [Bool.eq_false_iff]
      intro h
      have := once_len h
      rw [HL.out] at this
      omega
    go_enter Try.func74, Try.ntmps74
    go_wp2
    go_ret
    exact ⟨ret_bool F.out.symm, Below.refl _ _⟩

set_option maxRecDepth 8000 in
set_option maxHeartbeats 3200000 in
theorem impl_Good (a0 a1 a2 : Option Addr) (n0 c0 n1 c1 n2 c2 : Nat) (d : D) (w : World) (h : SIs w (.slice a0 n0 c0) (.slice a1 n1 c1) (.slice a2 n2 c2) d) :
    Calls Try.prog 22 #[.agg #[.slice a0 n0 c0, .slice a1 n1 c1, .slice a2 n2 c2]] w fun e w' => e = .returned (.bool (goodK d)) ∧ Below w.heap.size w w' := by
  have HS : Hid (SIs w (.slice a0 n0 c0) (.slice a1 n1 c1) (.slice a2 n2 c2) d) := h
  have L0 : Hid (d.1.length = n0) := (row_at h.1).1
  have L1 : Hid (d.2.1.length = n1) := (num_at h.2.1).1.len
  have L2 : Hid (d.2.2.length = n2) := (num_at h.2.2).1.len
  have hm0 : n0 ≤ 9223372036854775807 := by
    obtain ⟨_, _, _, _, e, hl, _⟩ := h.1
    cases e
    have := hl.fits; have := hl.max; unfold maxLen at *; omega
  have hm1 : n1 ≤ 1048576 := (num_at h.2.1).2
  have hm2 : n2 ≤ 1048576 := (num_at h.2.2).2
  have BP : Hid (Below w.heap.size w (w.alloc (.cells #[.slice a0 n0 c0, .slice a1 n1 c1, .slice a2 n2 c2] 26))) := (Below.refl _ _).alloc (Nat.le_refl _) _
  have hzP : (w.alloc (.cells #[.slice a0 n0 c0, .slice a1 n1 c1, .slice a2 n2 c2] 26)).heap.size = w.heap.size + 1 := by simp
  have HZ : Hid ((w.alloc (.cells #[.slice a0 n0 c0, .slice a1 n1 c1, .slice a2 n2 c2] 26)).heap.size = w.heap.size + 1) := hzP
  have KP : Hid ((w.alloc (.cells #[.slice a0 n0 c0, .slice a1 n1 c1, .slice a2 n2 c2] 26)).cell? ⟨w.heap.size, 0, none⟩ = some (.slice a0 n0 c0) ∧ (w.alloc (.cells #[.slice a0 n0 c0, .slice a1 n1 c1, .slice a2 n2 c2] 26)).cell? ⟨w.heap.size, 1, none⟩ = some (.slice a1 n1 c1) ∧ (w.alloc (.cells #[.slice a0 n0 c0, .slice a1 n1 c1, .slice a2 n2 c2] 26)).cell? ⟨w.heap.size, 2, none⟩ = some (.slice a2 n2 c2)) := by show _ ∧ _; refine ⟨?_, ?_, ?_⟩ <;> go_simp
  clear h hzP
  by_cases h0 : n0 = 4
  rotate_left
  · have hne : ((n0 : Int) != 4) = true := by rw [bne_iff_ne]; omega
    have F : Hid (goodK d = false) := by show _ = _; unfold goodK; rw [decide_eq_false (by rw [L0.out]; exact h0)]; rfl
    go_enter Try.func22, Try.ntmps22
    go_wp2
    go_ret
    exact ⟨ret_bool F.out.symm, BP.out⟩
  subst h0
  by_cases h1 : n1 = 4
  rotate_left
  · have hne : ((n1 : Int) != 4) = true := by rw [bne_iff_ne]; omega
    have F : Hid (goodK d = false) := by show _ = _; unfold goodK; rw [decide_eq_true L0.out, decide_eq_false (by rw [L1.out]; exact h1)]; rfl
    go_enter Try.func22, Try.ntmps22
    go_wp2
    go_ret
    exact ⟨ret_bool F.out.symm, BP.out⟩
  subst h1
  obtain ⟨b0, o0, _, _, _, rfl, hlb0, _⟩ := (row_at HS.out.1).2 0 (by omega)
  obtain ⟨b1, o1, rfl, hlb1, hcs1⟩ := (num_at HS.out.2.1).1.cells (by omega)
  have HCS1 : Hid (∀ i, i < 4 → w.cell? ⟨b1, o1 + i, none⟩ = some (.int .i64 (d.2.1.getD i 0))) := hcs1
  clear hcs1
  have HG : Hid (goodK d = (onceB d.2.2 && ((List.range 4).all (itemB d) && d.2.2.all (noneB d)))) := by show _ = _; unfold goodK; rw [decide_eq_true L0.out, decide_eq_true L1.out]; rfl
  go_enter Try.func22, Try.ntmps22
  go_wp2_with fail
  refine (areOnce a2 n2 c2 d.2.2 _ (IsRow.below (num_at HS.out.2.2).1 BP.out)).mono ?_
  rintro e w1 ⟨rfl, hb1⟩
  have BW1 : Hid (Below (w.alloc (.cells #[.slice (some ⟨b0, o0, none⟩) 4 c0, .slice (some ⟨b1, o1, none⟩) 4 c1, .slice a2 n2 c2] 26)).heap.size (w.alloc (.cells #[.slice (some ⟨b0, o0, none⟩) 4 c0, .slice (some ⟨b1, o1, none⟩) 4 c1, .slice a2 n2 c2] 26)) w1) := hb1
  have K1 : Hid (w1.cell? ⟨w.heap.size, 0, none⟩ = some (.slice (some ⟨b0, o0, none⟩) 4 c0) ∧ w1.cell? ⟨w.heap.size, 1, none⟩ = some (.slice (some ⟨b1, o1, none⟩) 4 c1) ∧ w1.cell? ⟨w.heap.size, 2, none⟩ = some (.slice a2 n2 c2)) := ⟨Frame.held_cell BW1.out KP.out.1, Frame.held_cell BW1.out KP.out.2.1, Frame.held_cell BW1.out KP.out.2.2⟩
  clear hb1
  rcases Bool.eq_false_or_eq_true (onceB d.2.2) with ho | ho
  rotate_left
  · have F : Hid (goodK d = false) := by show _ = _; rw [HG.out, ho]; rfl
    rw [ho]
    clear ho
    go_wp2
    go_ret
    exact ⟨ret_bool F.out.symm, Frame.next BP.out BW1.out BP.out.size⟩
  have HG1 : Hid (goodK d = ((List.range 4).all (itemB d) && d.2.2.all (noneB d))) := by show _ = _; rw [HG.out, ho, Bool.true_and]
  rw [ho]
  obtain ⟨q0, q1, q2⟩ := K1.out
  clear ho HG
  go_wp2_with fail
  clear q0 q1 q2
  go_loopw [26] (fun i wr => ∃ k : Nat, k ≤ 4 ∧ i = .int .i64 k ∧ (List.range k).all (itemB d) = true ∧ Below (w.alloc (.cells #[.slice (some ⟨b0, o0, none⟩) 4 c0, .slice (some ⟨b1, o1, none⟩) 4 c1, .slice a2 n2 c2] 26)).heap.size (w.alloc (.cells #[.slice (some ⟨b0, o0, none⟩) 4 c0, .slice (some ⟨b1, o1, none⟩) 4 c1, .slice a2 n2 c2] 26)) wr) (fun i _ => 4 - (intOf i).toNat)
  case atStart => exact ⟨0, by omega, rfl, rfl, BW1.out⟩
  case round =>
    obtain ⟨k, hk, rfl, hall, hnx⟩ := hrel
    have HALL : Hid ((List.range k).all (itemB d) = true) := hall
    have HN : Hid (Below (w.alloc (.cells #[.slice (some ⟨b0, o0, none⟩) 4 c0, .slice (some ⟨b1, o1, none⟩) 4 c1, .slice a2 n2 c2] 26)).heap.size (w.alloc (.cells #[.slice (some ⟨b0, o0, none⟩) 4 c0, .slice (some ⟨b1, o1, none⟩) 4 c1, .slice a2 n2 c2] 26)) wr) := hnx
    have HNw : Hid (Below w.heap.size w wr) := Frame.next BP.out hnx BP.out.size
    obtain ⟨q0, q1, q2⟩ := (show wr.cell? ⟨w.heap.size, 0, none⟩ = some (.slice (some ⟨b0, o0, none⟩) 4 c0) ∧ wr.cell? ⟨w.heap.size, 1, none⟩ = some (.slice (some ⟨b1, o1, none⟩) 4 c1) ∧ wr.cell? ⟨w.heap.size, 2, none⟩ = some (.slice a2 n2 c2) from ⟨Frame.held_cell hnx KP.out.1, Frame.held_cell hnx KP.out.2.1, Frame.held_cell hnx KP.out.2.2⟩)
    clear hall hnx
    by_cases hlt : k < 4
    · obtain ⟨b, off, ra, rn, rc, ea, hb, hc, hr, hn⟩ := (row_at (lIs_below HS.out.1 HNw.out)).2 k hlt
      cases ea
      have hc1 : wr.cell? ⟨b1, o1 + k, none⟩ = some (.int .i64 (d.2.1.getD k 0)) := by rw [HNw.out.cell (p := ⟨b1, o1 + k, none⟩) hlb1]; exact HCS1.out k hlt
      have hkI : (k : Int) < 4 := by omega
      have HR : Hid (IsRow .i64 wr ra rn rc (d.1.getD k [])) := hr
      have HI : Hid (itemB d k = (riseB 0 3 (d.1.getD k []) && besideB (d.2.1.getD k 0) (d.1.getD k []))) := rfl
      have hxw : (Lit.int .i64 (d.2.1.getD k 0)).wf = true := (num_at HS.out.2.1).1.wf _ (getD_mem (by rw [L1.out]; exact hlt))
      generalize d.2.1.getD k 0 = x at hc1 HI hxw
      generalize d.1.getD k [] = zs at HR HI
      clear hr
      go_wp2_with fail
      refine (areRising ra rn rc zs _ HR.out).mono ?_
      rintro e w2 ⟨rfl, hb2⟩
      have BW2 : Hid (Below (w.alloc (.cells #[.slice (some ⟨b0, o0, none⟩) 4 c0, .slice (some ⟨b1, o1, none⟩) 4 c1, .slice a2 n2 c2] 26)).heap.size (w.alloc (.cells #[.slice (some ⟨b0, o0, none⟩) 4 c0, .slice (some ⟨b1, o1, none⟩) 4 c1, .slice a2 n2 c2] 26)) w2) := Frame.next HN.out hb2 HN.out.size
      have R2 : Hid (IsRow .i64 w2 ra rn rc zs) := IsRow.below HR.out hb2
      have s0 : w2.cell? ⟨w.heap.size, 1, none⟩ = some (.slice (some ⟨b1, o1, none⟩) 4 c1) := Frame.held_cell hb2 q1
      have s1 : w2.cell? ⟨b1, o1 + k, none⟩ = some (.int .i64 x) := Frame.held_cell hb2 hc1
      clear hb2 q0 q1 q2 hc hc1
      rcases Bool.eq_false_or_eq_true (riseB 0 3 zs) with hd | hd
      rotate_left
      · have F : Hid (goodK d = false) := by show _ = _; rw [HG1.out, range_no hlt (by rw [HI.out, hd]; rfl)]; rfl
        rw [hd]
        clear hd
        go_wp2
        go_ret
        exact ⟨ret_bool F.out.symm, Frame.next BP.out BW2.out BP.out.size⟩
      have HI2 : Hid (itemB d k = besideB x zs) := by show _ = _; rw [HI.out, hd]; rfl
      rw [hd]
      clear hd HI
      go_wp2_with fail
      refine (mayWrite x ra rn rc zs _ R2.out hxw).mono ?_
      rintro e w3 ⟨rfl, hb3⟩
      have BW3 : Hid (Below (w.alloc (.cells #[.slice (some ⟨b0, o0, none⟩) 4 c0, .slice (some ⟨b1, o1, none⟩) 4 c1, .slice a2 n2 c2] 26)).heap.size (w.alloc (.cells #[.slice (some ⟨b0, o0, none⟩) 4 c0, .slice (some ⟨b1, o1, none⟩) 4 c1, .slice a2 n2 c2] 26)) w3) := Frame.next BW2.out hb3 BW2.out.size
      clear hb3 s0 s1
      rcases Bool.eq_false_or_eq_true (besideB x zs) with hd | hd
      · have F : Hid ((List.range (k + 1)).all (itemB d) = true) := range_next HALL.out (by rw [HI2.out]; exact hd)
        rw [hd]
        clear hd
        go_wp2
        go_roundw
        case rel => exact ⟨k + 1, by omega, by go_num, F.out, BW3.out⟩
        case measure => simp [intOf]; omega
      · have F : Hid (goodK d = false) := by show _ = _; rw [HG1.out, range_no hlt (by rw [HI2.out]; exact hd)]; rfl
        rw [hd]
        clear hd
        go_wp2
        go_ret
        exact ⟨ret_bool F.out.symm, Frame.next BP.out BW3.out BP.out.size⟩
    · obtain rfl : k = 4 := by omega
      have HG2 : Hid (goodK d = d.2.2.all (noneB d)) := by show _ = _; rw [HG1.out, HALL.out, Bool.true_and]
      rename World => wo
      go_wp2_with fail
      clear q0 q1 q2
      go_loopw [48] (fun i wr => ∃ k : Nat, k ≤ n2 ∧ i = .int .i64 k ∧ (d.2.2.take k).all (noneB d) = true ∧ Below (w.alloc (.cells #[.slice (some ⟨b0, o0, none⟩) 4 c0, .slice (some ⟨b1, o1, none⟩) 4 c1, .slice a2 n2 c2] 26)).heap.size (w.alloc (.cells #[.slice (some ⟨b0, o0, none⟩) 4 c0, .slice (some ⟨b1, o1, none⟩) 4 c1, .slice a2 n2 c2] 26)) wr) (fun i _ => n2 - (intOf i).toNat)
      case atStart => exact ⟨0, by omega, rfl, rfl, HN.out⟩
      case round =>
        obtain ⟨k, hk, rfl, hall, hnx⟩ := hrel
        have HALL2 : Hid ((d.2.2.take k).all (noneB d) = true) := hall
        have HN2 : Hid (Below (w.alloc (.cells #[.slice (some ⟨b0, o0, none⟩) 4 c0, .slice (some ⟨b1, o1, none⟩) 4 c1, .slice a2 n2 c2] 26)).heap.size (w.alloc (.cells #[.slice (some ⟨b0, o0, none⟩) 4 c0, .slice (some ⟨b1, o1, none⟩) 4 c1, .slice a2 n2 c2] 26)) wr) := hnx
        have HN2w : Hid (Below w.heap.size w wr) := Frame.next BP.out hnx BP.out.size
        obtain ⟨q0, q1, q2⟩ := (show wr.cell? ⟨w.heap.size, 0, none⟩ = some (.slice (some ⟨b0, o0, none⟩) 4 c0) ∧ wr.cell? ⟨w.heap.size, 1, none⟩ = some (.slice (some ⟨b1, o1, none⟩) 4 c1) ∧ wr.cell? ⟨w.heap.size, 2, none⟩ = some (.slice a2 n2 c2) from ⟨Frame.held_cell hnx KP.out.1, Frame.held_cell hnx KP.out.2.1, Frame.held_cell hnx KP.out.2.2⟩)
        clear hall hnx
        by_cases hlt : k < n2
        · obtain ⟨b2, o2, rfl, hb2, hc2'⟩ := (num_at (iIs_below HS.out.2.2 HN2w.out)).1.cells (by omega)
          have hc2 := hc2' k hlt
          have hkl : k < d.2.2.length := by rw [L2.out]; exact hlt
          have HX : Hid ((noneB d (d.2.2.getD k 0) = true → (d.2.2.take (k + 1)).all (noneB d) = true) ∧ (noneB d (d.2.2.getD k 0) = false → goodK d = false)) :=
            ⟨fun e => allN_take hkl HALL2.out e, fun e => by rw [HG2.out]; exact Lst.all_take_false _ _ k hkl e⟩
          generalize d.2.2.getD k 0 = x at hc2 HX
          clear hc2' hkl
          go_wp2_with fail
          refine (items (some ⟨b0, o0, none⟩) (some ⟨b1, o1, none⟩) (some ⟨b2, o2, none⟩) c0 c1 n2 c2 x d _ (lIs_below HS.out.1 HN2w.out) (iIs_below HS.out.2.1 HN2w.out)).mono ?_
          rintro e w3 ⟨a', m, c', rfl, hm, ho, hb3⟩
          have BW3 : Hid (Below (w.alloc (.cells #[.slice (some ⟨b0, o0, none⟩) 4 c0, .slice (some ⟨b1, o1, none⟩) 4 c1, .slice (some ⟨b2, o2, none⟩) n2 c2] 26)).heap.size (w.alloc (.cells #[.slice (some ⟨b0, o0, none⟩) 4 c0, .slice (some ⟨b1, o1, none⟩) 4 c1, .slice (some ⟨b2, o2, none⟩) n2 c2] 26)) w3) := Frame.next HN2.out hb3 HN2.out.size
          have HM : Hid (noneB d x = decide (m = 0)) := by
            show _ = _
            have hl := ho.1
            rw [ints_length] at hl
            unfold noneB
            rw [decide_eq_decide]
            constructor
            · intro e; rw [e] at hl; simp at hl; omega
            · intro e; exact List.eq_nil_of_length_eq_zero (by omega)
          clear hb3 ho q0 q1 q2 hc2
          by_cases hm0 : m = 0
          · subst hm0
            have F : Hid ((d.2.2.take (k + 1)).all (noneB d) = true) := HX.out.1 (by rw [HM.out]; rfl)
            go_wp2
            go_roundw
            case rel =>
              refine ⟨_, _, _, _, _, _, _, _, _, _, _, _, _, ?_, rfl⟩
              exact ⟨k + 1, by omega, by go_num, F.out, BW3.out⟩
            case measure => simp [intOf]; omega
          · have hmI : (m : Int) > 0 := by omega
            have F : Hid (goodK d = false) := HX.out.2 (by rw [HM.out]; exact decide_eq_false hm0)
            go_wp2
            go_ret
            exact ⟨ret_bool F.out.symm, Frame.next BP.out BW3.out BP.out.size⟩
        · have F : Hid (goodK d = true) := by
            show _ = _
            rw [HG2.out]
            have h := HALL2.out
            rwa [List.take_of_length_le (by rw [L2.out]; omega)] at h
          go_wp2
          go_ret
          exact ⟨ret_bool F.out.symm, HN2w.out⟩

theorem iOwn_nil (w : World) (lo hi : Nat) : IOwn w lo hi (.slice none 0 0) [] := ⟨none, 0, 0, rfl, ⟨rfl, .inl ⟨rfl, rfl⟩⟩, by simp, by omega, by simp⟩
theorem heldN_wf (d : D) (who : Int) : ∀ z ∈ heldN d who, (Lit.int .i64 z).wf = true := fun z hz => by
  unfold heldN at hz
  have := four_mem.1 (List.mem_filter.1 hz).1
  exact int_wf z (by omega) (by omega)

set_option maxRecDepth 8000 in
set_option maxHeartbeats 1600000 in
theorem impl_HeldBy (u0 u1 u2 : Value) (d : D) (who : Int) (w : World) (h : SIs w u0 u1 u2 d) :
    Calls Try.prog 21 #[.agg #[u0, u1, u2], .int .i64 who] w fun e w' => ∃ u, e = .returned (.tuple #[u, .bool (heldG d who)]) ∧ IOwn w' w.heap.size w'.heap.size u (heldV d who) ∧ Below w.heap.size w w' := by
  obtain ⟨a0, n0, c0, e0⟩ := Krl.lIs_slice h.1; subst e0
  obtain ⟨a1, n1, c1, e1⟩ := Krl.iIs_slice h.2.1; subst e1
  obtain ⟨a2, n2, c2, e2⟩ := Krl.iIs_slice h.2.2; subst e2
  have HS : Hid (SIs w (.slice a0 n0 c0) (.slice a1 n1 c1) (.slice a2 n2 c2) d) := h
  have BP : Hid (Below w.heap.size w (w.alloc (.cells #[.slice a0 n0 c0, .slice a1 n1 c1, .slice a2 n2 c2] 26))) := (Below.refl _ _).alloc (Nat.le_refl _) _
  have HZ : Hid ((w.alloc (.cells #[.slice a0 n0 c0, .slice a1 n1 c1, .slice a2 n2 c2] 26)).heap.size = w.heap.size + 1) := by show _ = _; simp
  have KP : Hid ((w.alloc (.cells #[.slice a0 n0 c0, .slice a1 n1 c1, .slice a2 n2 c2] 26)).cell? ⟨w.heap.size, 0, none⟩ = some (.slice a0 n0 c0) ∧ (w.alloc (.cells #[.slice a0 n0 c0, .slice a1 n1 c1, .slice a2 n2 c2] 26)).cell? ⟨w.heap.size, 1, none⟩ = some (.slice a1 n1 c1) ∧ (w.alloc (.cells #[.slice a0 n0 c0, .slice a1 n1 c1, .slice a2 n2 c2] 26)).cell? ⟨w.heap.size, 2, none⟩ = some (.slice a2 n2 c2)) := by show _ ∧ _; refine ⟨?_, ?_, ?_⟩ <;> go_simp
  have HGG : Hid (heldG d who = (goodK d && Val.inB who 0 3)) := rfl
  have HNO : Hid (heldG d who = false → heldV d who = []) := fun e => by unfold heldV; rw [if_neg (by rw [e]; exact Bool.false_ne_true)]
  have HYES : Hid (heldG d who = true → heldV d who = heldN d who) := fun e => by unfold heldV; rw [if_pos e]
  clear h
  go_enter Try.func21, Try.ntmps21
  go_wp2_with fail
  refine (impl_Good a0 a1 a2 n0 c0 n1 c1 n2 c2 d _ (SLocks.sIs_below HS.out BP.out)).mono ?_
  rintro e w1 ⟨rfl, hb1⟩
  have BW1 : Hid (Below (w.alloc (.cells #[.slice a0 n0 c0, .slice a1 n1 c1, .slice a2 n2 c2] 26)).heap.size (w.alloc (.cells #[.slice a0 n0 c0, .slice a1 n1 c1, .slice a2 n2 c2] 26)) w1) := hb1
  have B1 : Hid (Below w.heap.size w w1) := Frame.next BP.out hb1 BP.out.size
  obtain ⟨q0, q1, q2⟩ := (show w1.cell? ⟨w.heap.size, 0, none⟩ = some (.slice a0 n0 c0) ∧ w1.cell? ⟨w.heap.size, 1, none⟩ = some (.slice a1 n1 c1) ∧ w1.cell? ⟨w.heap.size, 2, none⟩ = some (.slice a2 n2 c2) from ⟨Frame.held_cell hb1 KP.out.1, Frame.held_cell hb1 KP.out.2.1, Frame.held_cell hb1 KP.out.2.2⟩)
  clear hb1
  rcases Bool.eq_false_or_eq_true (goodK d) with hg | hg
  rotate_left
  · have F : Hid (heldG d who = false) := by show _ = _; rw [HGG.out, hg]; rfl
    rw [hg]
    clear hg q0 q1 q2
    go_wp2
    go_ret2
    exact ⟨.slice none 0 0, by rw [F.out]; rfl, by rw [HNO.out F.out]; exact iOwn_nil _ _ _, B1.out⟩
  have HG1 : Hid (heldG d who = Val.inB who 0 3) := by show _ = _; rw [HGG.out, hg]; rfl
  obtain ⟨g0, g1, _⟩ := good_parts hg
  have h40 : n0 = 4 := (row_at HS.out.1).1.symm.trans g0
  have h41 : n1 = 4 := (num_at HS.out.2.1).1.len.symm.trans g1
  subst h40 h41
  rw [hg]
  clear hg g0 g1
  go_wp2_with fail
  refine (isDealer who _).mono ?_
  rintro e w' ⟨rfl, hw'⟩; have hw'' := hw'.symm; clear hw'; subst hw''
  rcases Bool.eq_false_or_eq_true (Val.inB who 0 3) with hd | hd
  rotate_left
  · have F : Hid (heldG d who = false) := by show _ = _; rw [HG1.out, hd]
    rw [hd]
    clear hd q0 q1 q2
    go_wp2
    go_ret2
    exact ⟨.slice none 0 0, by rw [F.out]; rfl, by rw [HNO.out F.out]; exact iOwn_nil _ _ _, B1.out⟩
  have F : Hid (heldG d who = true) := by show _ = _; rw [HG1.out, hd]
  rw [hd]
  clear hd
  go_wp2_with fail
  refine (items a0 a1 a2 c0 c1 n2 c2 who d _ (lIs_below HS.out.1 B1.out) (iIs_below HS.out.2.1 B1.out)).mono ?_
  rintro e w3 ⟨a', m, c', rfl, hm, ho, hb3⟩
  have O3 : Hid (w3.ownsRow w.heap.size 3 1 (.slice a' m c') m (ints .i64 (heldN d who))) := own_base ho B1.out.size
  have B3 : Hid (Below w.heap.size w w3) := Frame.next B1.out hb3 B1.out.size
  clear ho hb3 q0 q1 q2
  go_wp2
  go_ret2
  exact ⟨.slice a' m c', by rw [F.out]; rfl, by rw [HYES.out F.out]; exact iOwn_of O3.out (heldN_wf d who) (by omega), B3.out⟩


end Go.Proofs.Ytkondmnkmbdncaa.Lkb
