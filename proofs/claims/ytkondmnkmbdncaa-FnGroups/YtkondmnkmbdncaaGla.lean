/-
  Contracts on links: GoodLinks of both, what is a node, ContainsFunc on lists of lists.
-/
import Derived.Test.YtkondmnkmbdncaaGpu
import Derived.Test.YtkondmnkmbdncaaKpi
import Derived.Test.YtkondmnkmbdncaaIhl
import Derived.Test.YtkondmnkmbdncaaOa
import Derived.Test.YtkondmnkmbdncaaSa
import Derived.Test.YtkondmnkmbdncaaKnl
import Derived.Test.YtkondmnkmbdncaaKrl
namespace Go.Proofs.Ytkondmnkmbdncaa.Gla
open Go.RowKit
open Go.Proofs.Ytkondmnkmbdncaa.Frame Go.Proofs.Ytkondmnkmbdncaa.Mem Go.Proofs.Ytkondmnkmbdncaa.Ints Go.Proofs.Ytkondmnkmbdncaa.Kep Go.Proofs.Ytkondmnkmbdncaa.Lls Go.Proofs.Ytkondmnkmbdncaa.Mis Go.Proofs.Ytkondmnkmbdncaa.Gpu
open Go.Proofs.Ytkondmnkmbdncaa.Kpi (Enters enters)
open Go.Proofs.Ytkondmnkmbdncaa.Knl hiding Ll
open Go.Proofs.Ytkondmnkmbdncaa.Rel

theorem rise_ends {cols : Int} {zs : List Int} (h0 : 0 < zs.length) : riseB 0 (cols - 1) zs = (decide (UpN zs) && decide (0 ≤ zs.getD 0 0) && decide (zs.getD (zs.length - 1) 0 < cols)) := by
  rw [Bool.eq_iff_iff]
  unfold riseB
  rw [Bool.and_eq_true, Bool.and_eq_true, Bool.and_eq_true, decide_eq_true_eq, decide_eq_true_eq, decide_eq_true_eq, allI_iff]
  constructor
  · rintro ⟨h1, h2⟩
    have a1 := h1 _ (getD_mem (zs := zs) (i := 0) h0)
    have a2 := h1 _ (getD_mem (zs := zs) (i := zs.length - 1) (by omega))
    exact ⟨⟨h2, a1.1⟩, by omega⟩
  · rintro ⟨⟨h1, h2⟩, h3⟩
    refine ⟨fun z hz => ?_, h1⟩
    obtain ⟨i, hi, rfl⟩ := List.getElem_of_mem hz
    have e : zs[i] = zs.getD i 0 := by simp [List.getD, hi]
    rw [e]
    have l1 : zs.getD 0 0 ≤ zs.getD i 0 := by
      by_cases h : 0 = i
      · rw [← h]; exact Int.le_refl _
      · have := upN_get h1 (i := 0) (j := i) (by omega) hi; omega
    have l2 : zs.getD i 0 ≤ zs.getD (zs.length - 1) 0 := by
      by_cases h : i = zs.length - 1
      · rw [← h]; exact Int.le_refl _
      · have := upN_get h1 (i := i) (j := zs.length - 1) (by omega) (by omega); omega
    omega

set_option maxHeartbeats 800000 in
theorem areColumns (cols : Int) (a : Option Addr) (n ca : Nat) (zs : List Int) (w : World) (ha : IsRow .i64 w a n ca zs) :
    Calls Try.prog 87 #[.int .i64 cols, .slice a n ca] w fun e w' => e = .returned (.bool (riseB 0 (cols - 1) zs)) ∧ Below w.heap.size w w' := by
  have hmaxn : n ≤ 9223372036854775807 := by have := ha.fits; have := ha.max; unfold maxLen at *; omega
  have HL : Hid (zs.length = n) := ha.len
  have HI : Hid (IsRow .i64 w a n ca zs) := ha
  clear ha
  by_cases h0 : n = 0
  · have hz : ((n : Int) == 0) = true := by rw [h0]; rfl
    have F : Hid (riseB 0 (cols - 1) zs = true) := by
      have : zs = [] := List.eq_nil_of_length_eq_zero (by rw [HL.out]; exact h0)
      show _ = _
      rw [this]
      simp [riseB, allI, UpN]
    clear h0
    go_enter Try.func87, Try.ntmps87
    go_wp2
    go_ret
    exact ⟨ret_bool F.out.symm, Below.refl _ _⟩
  · have hz : ((n : Int) == 0) = false := by rw [beq_eq_false_iff_ne]; omega
    obtain ⟨b, off, rfl, hbl, hc⟩ := HI.out.cells (by omega)
    obtain ⟨p, hp⟩ : ∃ p, p = n - 1 := ⟨_, rfl⟩
    have q0 : w.cell? ⟨b, off, none⟩ = some (.int .i64 (zs.getD 0 0)) := by have := hc 0 (by omega); rwa [Nat.add_zero] at this
    have q1 : w.cell? ⟨b, off + p, none⟩ = some (.int .i64 (zs.getD p 0)) := hc p (by omega)
    have HE : Hid (riseB 0 (cols - 1) zs = (decide (UpN zs) && decide (0 ≤ zs.getD 0 0) && decide (zs.getD p 0 < cols))) := by
      show _ = _
      rw [rise_ends (by rw [HL.out]; omega), HL.out, hp]
    have hwr : IntKind.i64.wrap ((n : Int) - 1) = (p : Int) := by simp [IntKind.wrap, IntKind.bits, IntKind.signed]; omega
    have hpn : (p : Int) < (n : Int) := by omega
    have hn0 : (0 : Int) < (n : Int) := by omega
    generalize zs.getD 0 0 = x at q0 HE
    generalize zs.getD p 0 = y at q1 HE
    clear hc h0 hp
    go_enter Try.func87, Try.ntmps87
    go_wp2_with fail
    refine (Oa.rises_int _ _ _ zs _ HI.out).mono ?_
    rintro e w1 ⟨rfl, hb1⟩
    have c0 : w1.cell? ⟨b, off, none⟩ = some (.int .i64 x) := Frame.held_cell hb1 q0
    have c1 : w1.cell? ⟨b, off + p, none⟩ = some (.int .i64 y) := Frame.held_cell hb1 q1
    have B1 : Hid (Below w.heap.size w w1) := hb1
    clear hb1 q0 q1
    generalize decide (UpN zs) = U at HE ⊢
    cases U
    · go_wp2
      go_ret
      exact ⟨ret_bool (by rw [HE.out]; rfl), B1.out⟩
    · by_cases hx : 0 ≤ x
      · have hxb : decide (0 ≤ x) = true := decide_eq_true hx
        go_wp2
        go_ret
        exact ⟨ret_bool (by rw [HE.out, hxb]; rfl), B1.out⟩
      · have hxb : decide (0 ≤ x) = false := decide_eq_false hx
        go_wp2
        go_ret
        exact ⟨ret_bool (by rw [HE.out, hxb]; rfl), B1.out⟩

set_option maxRecDepth 4000 in
set_option maxHeartbeats 1600000 in
theorem index_func (a : Option Addr) (n ca : Nat) (rs : List LV) (f : FuncId) (bs : Array Value) (p : List Int → Bool) (w : World) (h : IsLs w a n ca rs) (hen : Enters Try.prog f) (hcl : ∀ r ∈ rs, ∀ w1, Below w.heap.size w w1 → Calls Try.prog f (#[.slice r.a r.n r.c] ++ bs) w1 fun e w2 => e = .returned (.bool (p r.zs)) ∧ Below w1.heap.size w1 w2) :
    Calls Try.prog 132 #[.slice a n ca, .func (.func f) #[] bs] w fun e w' => (∃ i : Int, e = .returned (.int .i64 i) ∧ decide (0 ≤ i) = rs.any (fun r => p r.zs)) ∧ Below w.heap.size w w' := by
  have hn : n ≤ 9223372036854775807 := by have := h.fits; have := h.max; unfold maxLen at *; omega
  have HI : Hid (IsLs w a n ca rs) := h
  have HL : Hid (rs.length = n) := h.len
  have HCL : Hid (∀ r ∈ rs, ∀ w1, Below w.heap.size w w1 → Calls Try.prog f (#[.slice r.a r.n r.c] ++ bs) w1 fun e w2 => e = .returned (.bool (p r.zs)) ∧ Below w1.heap.size w1 w2) := hcl
  have HEN : Hid (Enters Try.prog f) := hen
  clear h hcl hen
  go_enter Try.func132, Try.ntmps132
  go_wp2_with fail
  go_loopw [8] (fun i wr => ∃ k : Nat, k ≤ n ∧ i = .int .i64 k ∧ (∀ r ∈ rs.take k, p r.zs = false) ∧ Below w.heap.size w wr) (fun i _ => n - (intOf i).toNat)
  case atStart => exact ⟨0, Nat.zero_le _, rfl, fun r hr => (by simp at hr), Below.refl _ _⟩
  case round =>
    obtain ⟨k, hk, rfl, hall, hnx⟩ := hrel
    have HA : Hid (∀ r ∈ rs.take k, p r.zs = false) := hall
    have HN : Hid (Below w.heap.size w wr) := hnx
    clear hall
    by_cases hlt : k < n
    · obtain ⟨b, off, rfl, hbl, hc⟩ := HI.out.cells (by omega)
      have hkl : k < rs.length := by rw [HL.out]; exact hlt
      have hck : wr.cell? ⟨b, off + k, none⟩ = some (.slice (rs.getD k ld).a (rs.getD k ld).n (rs.getD k ld).c) := by rw [hnx.cell (p := ⟨b, off + k, none⟩) hbl]; exact hc k hlt
      have CA := HCL.out _ (getD_mem_ld hkl) wr hnx
      have HM : Hid (rs.getD k ld ∈ rs) := getD_mem_ld hkl
      have HT : Hid (rs.take (k + 1) = rs.take k ++ [rs.getD k ld]) := by show _ = _; rw [List.take_succ_eq_append_getElem hkl]; simp [List.getD, hkl]
      generalize rs.getD k ld = x at hck CA HM HT
      have CALL : Hid (Calls Try.prog f (#[.slice x.a x.n x.c] ++ bs) wr fun e w2 => e = .returned (.bool (p x.zs)) ∧ Below wr.heap.size wr w2) := CA
      clear hc hnx hkl CA
      go_wp2_with fail
      rw [HEN.out]
      refine Calls.mono CALL.out ?_
      rintro e w2 ⟨rfl, hb2⟩
      have HN1 : Hid (Below w.heap.size w w2) := Frame.next HN.out hb2 HN.out.size
      clear hb2 CALL hck
      cases hv : p x.zs
      · have F : Hid (∀ r ∈ rs.take (k + 1), p r.zs = false) := fun r hr => by
          rw [HT.out] at hr
          rcases List.mem_append.1 hr with hr | hr
          · exact HA.out r hr
          · rw [List.mem_singleton.1 hr]; exact hv
        clear hv
        go_wp2_with fail
        go_roundw
        case rel => exact ⟨k + 1, by omega, by go_num, F.out, HN1.out⟩
        case measure => simp [intOf]; omega
      · have F : Hid (rs.any (fun r => p r.zs) = true) := List.any_eq_true.2 ⟨x, HM.out, hv⟩
        clear hv
        go_wp2
        go_ret
        exact ⟨⟨(k : Int), rfl, by rw [F.out]; exact decide_eq_true (by omega)⟩, HN1.out⟩
    · have F : Hid (rs.any (fun r => p r.zs) = false) := by
        have h := HA.out
        rw [List.take_of_length_le (by rw [HL.out]; omega)] at h
        show _ = _
        rw [List.any_eq_false]
        exact fun r hr => by rw [h r hr]; decide
      clear hnx
      go_wp2
      go_ret
      exact ⟨⟨-1, rfl, by rw [F.out]; rfl⟩, HN.out⟩

theorem contains_func (a : Option Addr) (n ca : Nat) (rs : List LV) (f : FuncId) (bs : Array Value) (p : List Int → Bool) (w : World) (h : IsLs w a n ca rs) (hen : Enters Try.prog f) (hcl : ∀ r ∈ rs, ∀ w1, Below w.heap.size w w1 → Calls Try.prog f (#[.slice r.a r.n r.c] ++ bs) w1 fun e w2 => e = .returned (.bool (p r.zs)) ∧ Below w1.heap.size w1 w2) :
    Calls Try.prog 88 #[.slice a n ca, .func (.func f) #[] bs] w fun e w' => e = .returned (.bool (rs.any (fun r => p r.zs))) ∧ Below w.heap.size w w' := by
  have HC := index_func a n ca rs f bs p w h hen hcl
  have C : Hid _ := HC
  clear h hen hcl HC
  go_enter Try.func88, Try.ntmps88
  go_wp2_with fail
  refine Calls.mono C.out ?_
  rintro e w1 ⟨⟨i, rfl, hi⟩, hb1⟩
  have B1 : Hid (Below w.heap.size w w1) := hb1
  have HI : Hid (decide (0 ≤ i) = rs.any (fun r => p r.zs)) := hi
  clear hb1 hi
  go_wp2
  go_ret
  refine ⟨?_, B1.out⟩
  rw [← HI.out]
  first | rfl | simp

set_option maxRecDepth 4000 in
set_option maxHeartbeats 800000 in
theorem bad_row (g : Nat) (la : Option Addr) (ln lc : Nat) (a : Option Addr) (n ca : Nat) (zs : List Int) (w : World) (h : IsRow .i64 w a n ca zs) (hg : w.cell? ⟨g, 0, none⟩ = some (.slice la ln lc)) :
    Calls Try.prog 86 #[.slice a n ca, .pointer (some ⟨g, 0, none⟩)] w fun e w' => e = .returned (.bool (!riseB 0 ((ln : Int) - 1) zs)) ∧ Below w.heap.size w w' := by
  have HI : Hid (IsRow .i64 w a n ca zs) := h
  clear h
  go_enter Try.func86, Try.ntmps86
  go_wp2_with fail
  refine (areColumns (ln : Int) a n ca zs _ HI.out).mono ?_
  rintro e w1 ⟨rfl, hb1⟩
  have B1 : Hid (Below w.heap.size w w1) := hb1
  clear hb1
  go_wp2
  go_ret
  exact ⟨rfl, B1.out⟩

theorem any_bad (rs : List LV) (m : Int) : (rs.any fun r => !riseB 0 m r.zs) = !((lplain rs).all (riseB 0 m)) := by
  unfold lplain
  rw [List.all_map, List.all_eq_not_any_not, Bool.not_not]
  rfl

set_option maxRecDepth 8000 in
set_option maxHeartbeats 1600000 in
theorem impl_GoodLinks (v : Value) (xs : Ll) (w : World) (h : LIs w v xs) :
    Calls Try.prog 33 #[v] w fun e w' => e = .returned (.bool (goodG xs)) ∧ Below w.heap.size w w' := by
  obtain ⟨a, n, c, rs, rfl, hr, rfl, ht⟩ := h
  have HI : Hid (IsLs w a n c rs) := hr
  have hlen : (lplain rs).length = n := by simp [lplain, hr.len]
  have HG : Hid (goodG (lplain rs) = (decide (n ≤ 12) && (lplain rs).all (riseB 0 ((n : Int) - 1)))) := by show _ = _; unfold goodG; rw [hlen]
  have HEN : Hid (Enters Try.prog 86) := enters Try.func86 (by kernel_rfl) rfl
  have hn : n ≤ 9223372036854775807 := by have := hr.fits; have := hr.max; unfold maxLen at *; omega
  clear hr ht hlen
  by_cases h12 : n ≤ 12
  · have hI : decide ((n : Int) ≤ 12) = true := decide_eq_true (by omega)
    have hI2 : (n : Int) ≤ 12 := by omega
    have F : Hid (goodG (lplain rs) = (lplain rs).all (riseB 0 ((n : Int) - 1))) := by show _ = _; rw [HG.out, decide_eq_true h12, Bool.true_and]
    go_enter Try.func33, Try.ntmps33
    go_wp2_with fail
    have B0 : Hid (Below w.heap.size w (w.alloc (.cells #[.slice a n c] 23))) := (Below.refl _ _).alloc (Nat.le_refl _) _
    have K0 : Hid ((w.alloc (.cells #[.slice a n c] 23)).cell? ⟨w.heap.size, 0, none⟩ = some (.slice a n c)) := by show _ = _; go_simp
    refine (contains_func a n c rs 86 #[.pointer (some ⟨w.heap.size, 0, none⟩)] (fun zs => !riseB 0 ((n : Int) - 1) zs) _ (IsLs.below HI.out B0.out) HEN.out (fun r hr w1 hb => bad_row w.heap.size a n c r.a r.n r.c r.zs w1 (IsRow.below (HI.out.rows r hr) (Frame.next B0.out hb B0.out.size)) (Frame.held_cell hb K0.out))).mono ?_
    rintro e w1 ⟨rfl, hb1⟩
    have B1 : Hid (Below w.heap.size w w1) := Frame.next B0.out hb1 B0.out.size
    rw [any_bad, ← F.out]
    clear hb1
    go_wp2
    go_ret
    exact ⟨by simp, B1.out⟩
  · have hI : decide ((n : Int) ≤ 12) = false := decide_eq_false (by omega)
    have F : Hid (goodG (lplain rs) = false) := by show _ = _; rw [HG.out, decide_eq_false h12, Bool.false_and]
    go_enter Try.func33, Try.ntmps33
    go_wp2_with fail
    go_ret
    exact ⟨ret_bool F.out.symm, (Below.refl _ _).alloc (Nat.le_refl _) _⟩

set_option maxRecDepth 8000 in
set_option maxHeartbeats 1600000 in
theorem spec_GoodLinks (v : Value) (xs : Ll) (w : World) (h : LIs w v xs) :
    Calls Try.prog 53 #[v] w fun e w' => e = .returned (.bool (goodG xs)) ∧ w' = w := by
  obtain ⟨a, n, c, rs, rfl, hr, rfl, ht⟩ := h
  have HI : Hid (IsLs w a n c rs) := hr
  have HL : Hid (rs.length = n) := hr.len
  have hlen : (lplain rs).length = n := by simp [lplain, hr.len]
  have HG : Hid (goodG (lplain rs) = (decide (n ≤ 12) && (lplain rs).all (riseB 0 ((n : Int) - 1)))) := by show _ = _; unfold goodG; rw [hlen]
  have hn : n ≤ 9223372036854775807 := by have := hr.fits; have := hr.max; unfold maxLen at *; omega
  clear hr ht hlen
  go_enter Try.func53, Try.ntmps53
  go_wp2
  go_loop [7] (fun i => ∃ k : Nat, k ≤ n ∧ i = .int .i64 k ∧ ∀ r ∈ rs.take k, riseB 0 ((n : Int) - 1) r.zs = true) (fun i => n - (intOf i).toNat)
  case atStart => exact ⟨0, Nat.zero_le _, rfl, fun r hr => (by simp at hr)⟩
  case round =>
    obtain ⟨k, hk, rfl, hall⟩ := hrel
    have HA : Hid (∀ r ∈ rs.take k, riseB 0 ((n : Int) - 1) r.zs = true) := hall
    clear hall
    by_cases hlt : k < n
    · obtain ⟨b, off, rfl, hbl, hc⟩ := HI.out.cells (by omega)
      have hkl : k < rs.length := by rw [HL.out]; exact hlt
      have hck := hc k hlt
      have HR : Hid (IsRow .i64 w (rs.getD k ld).a (rs.getD k ld).n (rs.getD k ld).c (rs.getD k ld).zs) := HI.out.rows _ (getD_mem_ld hkl)
      have HM : Hid (rs.getD k ld ∈ rs) := getD_mem_ld hkl
      have HT : Hid (rs.take (k + 1) = rs.take k ++ [rs.getD k ld]) := take_succ_ld hkl
      have hwr : IntKind.i64.wrap ((n : Int) - 1) = (n : Int) - 1 := by simp [IntKind.wrap, IntKind.bits, IntKind.signed]; omega
      generalize rs.getD k ld = x at hck HM HT HR
      clear hc hkl
      go_wp2_with fail
      refine (Sa.spec_l1Rising x.a x.n x.c x.zs 0 ((n : Int) - 1) _ HR.out).mono ?_
      rintro e w1 ⟨rfl, hw'⟩; have hw'' := hw'.symm; clear hw'; subst hw''
      cases hv : riseB 0 ((n : Int) - 1) x.zs
      · have F : Hid (goodG (lplain rs) = false) := by
          show _ = _
          rw [HG.out, show (lplain rs).all (riseB 0 ((n : Int) - 1)) = false from List.all_eq_false.2 ⟨x.zs, List.mem_map.2 ⟨x, HM.out, rfl⟩, by rw [hv]; decide⟩, Bool.and_false]
        clear hv
        go_wp2
        go_ret
        exact ⟨ret_bool F.out.symm, rfl⟩
      · have F : Hid (∀ r ∈ rs.take (k + 1), riseB 0 ((n : Int) - 1) r.zs = true) := fun r hr => by
          rw [HT.out] at hr
          rcases List.mem_append.1 hr with hr | hr
          · exact HA.out r hr
          · rw [List.mem_singleton.1 hr]; exact hv
        clear hv
        go_wp2
        go_round
        case rel => exact ⟨k + 1, by omega, by go_num, F.out⟩
        case measure => simp [intOf]; omega
    · have F : Hid (decide ((n : Int) ≤ 12) = goodG (lplain rs)) := by
        have h := HA.out
        rw [List.take_of_length_le (by rw [HL.out]; omega)] at h
        show _ = _
        rw [HG.out, show (lplain rs).all (riseB 0 ((n : Int) - 1)) = true from List.all_eq_true.2 (fun z hz => by obtain ⟨r, hr, rfl⟩ := List.mem_map.1 hz; exact h r hr), Bool.and_true, decide_eq_decide]
        omega
      go_wp2
      go_ret
      exact ⟨ret_bool F.out, rfl⟩


end Go.Proofs.Ytkondmnkmbdncaa.Gla
