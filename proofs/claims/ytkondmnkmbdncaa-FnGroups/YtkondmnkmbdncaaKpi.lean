/-
  kept on lists of numbers for any test (values bound in front or behind), slices.Equal and slices.Clone at []int.
-/
import Derived.Test.YtkondmnkmbdncaaMis
import Derived.Lib.SliceRun
namespace Go.Proofs.Ytkondmnkmbdncaa.Kpi
open Go.RowKit
open Go.Proofs.Ytkondmnkmbdncaa.Frame Go.Proofs.Ytkondmnkmbdncaa.Mem Go.Proofs.Ytkondmnkmbdncaa.Ints Go.Proofs.Ytkondmnkmbdncaa.Kep Go.Proofs.Ytkondmnkmbdncaa.Mis

/-- A call of the function enters it. -/
def Enters (P : Program) (f : FuncId) : Prop := ∀ (args : Array Value) (w : World), (callFunc f args).run P w = .ok (.enter f args) w
theorem enters {P : Program} {f : FuncId} {fn : Func} {c : Code} (hf : P.funcs[f]? = some fn) (hname : (fn.name == "runtime.NumGoroutine") = false) (hb : fn.body = some c) : Enters P f := fun args w => by
  have h1 : fn.name ≠ "runtime.NumGoroutine" := by simpa using hname
  simp [callFunc, hf, h1, hb]

theorem infoI : (Try.prog.info? 3).map (fun i => (i.zero, i.size, i.bytes)) = some (some (.int .i64 0), 1, 8) := by kernel_rfl

set_option maxRecDepth 4000 in
set_option maxHeartbeats 1600000 in
theorem kept_gen (a : Option Addr) (n ca : Nat) (rs : List Int) (f : FuncId) (fs bs : Array Value) (p : Int → Bool) (w : World) (h : IsRow .i64 w a n ca rs) (hn : n ≤ 100000) (hen : Enters Try.prog f) (hcl : ∀ x ∈ rs, ∀ w1, Below w.heap.size w w1 → Calls Try.prog f (fs ++ #[.int .i64 x] ++ bs) w1 fun e w2 => e = .returned (.bool (p x)) ∧ Below w1.heap.size w1 w2) :
    Calls Try.prog 91 #[.slice a n ca, .func (.func f) fs bs] w fun e w' => ∃ a' m c', e = .returned (.slice a' m c') ∧ m ≤ n ∧ w'.ownsRow w.heap.size 3 1 (.slice a' m c') m (ints .i64 (rs.filter p)) ∧ Below w.heap.size w w' := by
  obtain ⟨i0, hi, hz0, hz1, hz2⟩ := info_parts infoI
  have HI : Hid (IsRow .i64 w a n ca rs) := h
  have HL : Hid (rs.length = n) := h.len
  have HCL : Hid (∀ x ∈ rs, ∀ w1, Below w.heap.size w w1 → Calls Try.prog f (fs ++ #[.int .i64 x] ++ bs) w1 fun e w2 => e = .returned (.bool (p x)) ∧ Below w1.heap.size w1 w2) := hcl
  have HEN : Hid (Enters Try.prog f) := hen
  clear h hcl hen
  go_enter Try.func91, Try.ntmps91
  go_wp2_with (at_make; refine wpList_make_own _ rfl _ _ 24 rfl w.heap.size 3 i0 (.int .i64 0) 1 Try.underlying24 hi hz0 hz1 _ _ _ n rfl rfl rfl ?d2 ?d3 (Nat.le_refl _) ?_)
  case d2 => rw [hz2]; omega
  case d3 => unfold maxLen; omega
  intro w3 hown3 hgrow3
  have B3 : Hid (Below w.heap.size w w3) := below_make (Below.refl _ _) hgrow3 (Nat.le_refl _)
  have O3 : Hid (w3.ownsRow w.heap.size 3 1 (.slice (some ⟨w.heap.size, 0, none⟩) 0 n) 0 []) := hown3
  clear hown3 hgrow3
  go_wp2_with fail
  go_loopw [5, 13] (fun v i wr => ∃ (k m : Nat) (a' : Option Addr) (c' : Nat), k ≤ n ∧ m ≤ k ∧ i = .int .i64 k ∧ v = .slice a' m c' ∧ wr.ownsRow w.heap.size 3 1 (.slice a' m c') m (ints .i64 ((rs.take k).filter p)) ∧ Below w.heap.size w wr) (fun _ i _ => n - (intOf i).toNat)
  case atStart => exact ⟨0, 0, _, _, Nat.zero_le _, Nat.le_refl _, rfl, rfl, O3.out, B3.out⟩
  case round =>
    obtain ⟨k, m, a', c', hk, hmk, rfl, rfl, ho, hnx⟩ := hrel
    have HO : Hid (wr.ownsRow w.heap.size 3 1 (.slice a' m c') m (ints .i64 ((rs.take k).filter p))) := ho
    have HN : Hid (Below w.heap.size w wr) := hnx
    have hsr := hnx.size
    clear ho
    by_cases hlt : k < n
    · obtain ⟨b, off, rfl, hbl, hc⟩ := HI.out.cells (by omega)
      have hkl : k < rs.length := by rw [HL.out]; exact hlt
      have hck : wr.cell? ⟨b, off + k, none⟩ = some (.int .i64 (rs.getD k 0)) := by rw [hnx.cell (p := ⟨b, off + k, none⟩) hbl]; exact hc k hlt
      have HF : Hid ((rs.take (k + 1)).filter p = (rs.take k).filter p ++ (if p (rs.getD k 0) then [rs.getD k 0] else [])) := by
        show _ = _
        rw [take_succ_getD hkl, List.filter_append, List.filter_cons]
        rfl
      have CA := HCL.out _ (getD_mem hkl) wr hnx
      generalize rs.getD k 0 = x at hck HF CA
      have CALL : Hid (Calls Try.prog f (fs ++ #[.int .i64 x] ++ bs) wr fun e w2 => e = .returned (.bool (p x)) ∧ Below wr.heap.size wr w2) := CA
      clear hc hnx hkl CA
      go_wp2_with fail
      rw [HEN.out]
      refine Calls.mono CALL.out ?_
      rintro e w2 ⟨rfl, hb2⟩
      have hs2 := hb2.size
      have HO1 : Hid (w2.ownsRow w.heap.size 3 1 (.slice a' m c') m (ints .i64 ((rs.take k).filter p))) := own_below HO.out hb2
      have HN1 : Hid (Below w.heap.size w w2) := Frame.next HN.out hb2 HN.out.size
      have HO2 : Hid ((w2.alloc (.cells #[.int .i64 x] 3)).ownsRow w.heap.size 3 1 (.slice a' m c') m (ints .i64 ((rs.take k).filter p))) := own_below HO1.out ((Below.refl _ _).alloc (Nat.le_refl _) _)
      have HN2 : Hid (Below w.heap.size w (w2.alloc (.cells #[.int .i64 x] 3))) := HN1.out.alloc HN1.out.size _
      have S2 : Hid (0 < 1 → ∃ ad, (some ⟨w2.heap.size, 0, none⟩ : Option Addr) = some ad ∧ ∀ j u, ([.int .i64 x] : List Value)[j]? = some u → (w2.alloc (.cells #[.int .i64 x] 3)).cell? (ad.add j) = some u) := news_one w2 _ _
      clear hb2 CALL
      cases hv : p x
      · have F : Hid ((rs.take (k + 1)).filter p = (rs.take k).filter p) := by show _ = _; rw [HF.out, hv]; exact List.append_nil _
        clear hv HF HO2 HN2 S2
        go_wp2_with fail
        go_roundw
        case rel => exact ⟨k + 1, m, a', c', by omega, by omega, by go_num, rfl, by rw [F.out]; exact HO1.out, HN1.out⟩
        case measure => simp [intOf]; omega
      · have F : Hid ((rs.take (k + 1)).filter p = (rs.take k).filter p ++ [x]) := by show _ = _; rw [HF.out, hv]; rfl
        clear hv HF
        go_wp2_with (at_builtin; refine App.wpList_append_all _ rfl _ _ 24 rfl w.heap.size 3 i0 (.int .i64 0) 1 8 Try.underlying24 hi hz0 hz1 hz2 rfl (by decide) _ _ _ rfl HO2.out _ 1 _ [.int .i64 x] rfl rfl S2.out (by simp [Value.oneCell']) (by unfold maxLen; omega) (by omega) HN2.out.size ?_)
        intro a4 c4 w4 hown4 hgrow4
        have O4 : Hid (w4.ownsRow w.heap.size 3 1 (.slice a4 (m + 1) c4) (m + 1) (ints .i64 ((rs.take (k + 1)).filter p))) := by show World.ownsRow _ _ _ _ _ _ _; rw [F.out]; simpa [ints] using hown4
        have N4 : Hid (Below w.heap.size w w4) := below_app HN2.out HO2.out hgrow4 HN2.out.size (Nat.le_refl _)
        clear hown4 hgrow4
        go_wp2
        go_roundw
        case rel => exact ⟨k + 1, m + 1, a4, c4, by omega, by omega, by go_num, rfl, O4.out, N4.out⟩
        case measure => simp [intOf]; omega
    · have F : Hid (wr.ownsRow w.heap.size 3 1 (.slice a' m c') m (ints .i64 (rs.filter p))) := by have := HO.out; rwa [List.take_of_length_le (by rw [HL.out]; omega)] at this
      clear hnx
      go_wp2
      go_ret
      exact ⟨_, _, _, rfl, by omega, F.out, HN.out⟩

/-- No values are bound in front. -/
theorem kept_int (a : Option Addr) (n ca : Nat) (rs : List Int) (f : FuncId) (bs : Array Value) (p : Int → Bool) (w : World) (h : IsRow .i64 w a n ca rs) (hn : n ≤ 100000) (hen : Enters Try.prog f) (hcl : ∀ x ∈ rs, ∀ w1, Below w.heap.size w w1 → Calls Try.prog f (#[.int .i64 x] ++ bs) w1 fun e w2 => e = .returned (.bool (p x)) ∧ Below w1.heap.size w1 w2) :
    Calls Try.prog 91 #[.slice a n ca, .func (.func f) #[] bs] w fun e w' => ∃ a' m c', e = .returned (.slice a' m c') ∧ m ≤ n ∧ w'.ownsRow w.heap.size 3 1 (.slice a' m c') m (ints .i64 (rs.filter p)) ∧ Below w.heap.size w w' :=
  kept_gen a n ca rs f #[] bs p w h hn hen (fun x hx w1 hb => by rw [Array.empty_append]; exact hcl x hx w1 hb)

theorem below_drewN {B : Nat} {v w : World} (h : Below B v w) (n : Nat) : Below B v (w.drewN n) := ⟨h.os, h.tape, h.output, h.size, h.block⟩
theorem eq_take_z {xs ys : List Int} {k : Nat} (hx : k < xs.length) (hy : k < ys.length) (h : xs.take k = ys.take k) (e : xs.getD k 0 = ys.getD k 0) : xs.take (k + 1) = ys.take (k + 1) := by
  rw [take_succ_getD hx, take_succ_getD hy, h, e]

set_option maxRecDepth 4000 in
set_option maxHeartbeats 1600000 in
theorem equal_int (a b : Option Addr) (n m ca cb : Nat) (xs ys : List Int) (w : World) (ha : IsRow .i64 w a n ca xs) (hb : IsRow .i64 w b m cb ys) :
    Calls Try.prog 124 #[.slice a n ca, .slice b m cb] w fun e w' => e = .returned (.bool (decide (xs = ys))) ∧ Below w.heap.size w w' := by
  have hmaxn : n ≤ 9223372036854775807 := by have := ha.fits; have := ha.max; unfold maxLen at *; omega
  have HX : Hid (IsRow .i64 w a n ca xs) := ha
  have HY : Hid (IsRow .i64 w b m cb ys) := hb
  have LX : Hid (xs.length = n) := ha.len
  have LY : Hid (ys.length = m) := hb.len
  clear ha hb
  by_cases hnm : n = m
  · subst hnm
    go_enter Try.func124, Try.ntmps124
    go_wp2_with fail
    go_loopw [13] (fun i wr => ∃ k : Nat, k ≤ n ∧ i = .int .i64 k ∧ xs.take k = ys.take k ∧ Below w.heap.size w wr) (fun i _ => n - (intOf i).toNat)
    case atStart => exact ⟨0, Nat.zero_le _, rfl, rfl, Below.refl _ _⟩
    case round =>
      obtain ⟨k, hk, rfl, ht, hnx⟩ := hrel
      have HT : Hid (xs.take k = ys.take k) := ht
      have HN : Hid (Below w.heap.size w wr) := hnx
      clear ht
      by_cases hlt : k < n
      · obtain ⟨b1, o1, rfl, hl1, hc1⟩ := HX.out.cells (by omega)
        obtain ⟨b2, o2, rfl, hl2, hc2⟩ := HY.out.cells (by omega)
        have x0 : wr.cell? ⟨b1, o1 + k, none⟩ = some (.int .i64 (xs.getD k 0)) := by rw [hnx.cell (p := ⟨b1, o1 + k, none⟩) hl1]; exact hc1 k hlt
        have y0 : wr.cell? ⟨b2, o2 + k, none⟩ = some (.int .i64 (ys.getD k 0)) := by rw [hnx.cell (p := ⟨b2, o2 + k, none⟩) hl2]; exact hc2 k hlt
        have HE : Hid (xs.getD k 0 = ys.getD k 0 → xs.take (k + 1) = ys.take (k + 1)) := fun e => eq_take_z (by rw [LX.out]; exact hlt) (by rw [LY.out]; exact hlt) HT.out e
        have HF : Hid (¬ xs.getD k 0 = ys.getD k 0 → decide (xs = ys) = false) := fun e => decide_eq_false fun h => e (by rw [h])
        generalize xs.getD k 0 = x at x0 HE HF
        generalize ys.getD k 0 = y at y0 HE HF
        have hi0 : (0 : Int) ≤ (k : Int) := by omega
        have hi1 : (k : Int) < (n : Int) := by omega
        clear hc1 hc2 hnx hl1 hl2
        by_cases he : x = y
        · subst he
          have F : Hid (xs.take (k + 1) = ys.take (k + 1)) := HE.out rfl
          clear HE HF
          go_wp2_with fail
          go_quiet (fail)
          go_wp2
          go_roundw
          case rel => exact ⟨k + 1, by omega, by go_num, F.out, below_drewN HN.out _⟩
          case measure => simp [intOf]; omega
        · have F : Hid (decide (xs = ys) = false) := HF.out he
          have hxy : (x == y) = false := by rw [beq_eq_false_iff_ne]; exact he
          clear HE HF he
          go_wp2_with fail
          go_quiet (fail)
          go_wp2
          go_ret
          rw [F.out]
          exact ⟨rfl, below_drewN HN.out _⟩
      · have F : Hid (decide (xs = ys) = true) := by
          have := HT.out
          rw [List.take_of_length_le (by rw [LX.out]; omega), List.take_of_length_le (by rw [LY.out]; omega)] at this
          exact decide_eq_true this
        clear hnx
        go_wp2
        go_ret
        rw [F.out]
        exact ⟨rfl, HN.out⟩
  · have F : Hid (decide (xs = ys) = false) := decide_eq_false fun h => hnm (by rw [← LX.out, ← LY.out, h])
    have hne : ((n : Int) == (m : Int)) = false := by rw [beq_eq_false_iff_ne]; omega
    clear hnm
    go_enter Try.func124, Try.ntmps124
    go_wp2
    go_ret
    rw [F.out]
    exact ⟨rfl, Below.refl _ _⟩

set_option maxRecDepth 4000 in
set_option maxHeartbeats 1600000 in
theorem clone_int (a : Option Addr) (n ca : Nat) (zs : List Int) (w : World) (ha : IsRow .i64 w a n ca zs) (h0 : 0 < n) (hn : n ≤ 100000) :
    Calls Try.prog 141 #[.slice a n ca] w fun e w' => ∃ g c', e = .returned (.slice (some ⟨g, 0, none⟩) n c') ∧ w'.ownsRow w.heap.size 3 1 (.slice (some ⟨g, 0, none⟩) n c') n (ints .i64 zs) ∧ w.heap.size ≤ g ∧ Below w.heap.size w w' := by
  obtain ⟨i0, hi, hz0, hz1, hz2⟩ := info_parts Ints.info
  have HA : Hid (IsRow .i64 w a n ca zs) := ha
  have HL : Hid ((ints .i64 zs).length = n * 1) := by show _ = _; rw [ints_length, ha.len]; omega
  obtain ⟨b, off, rfl, hbl, hc⟩ := ha.cells h0
  have BA : Hid (Below w.heap.size w (w.alloc (.cells #[] 3))) := (Below.refl _ _).alloc (Nat.le_refl _) _
  have OA : Hid ((w.alloc (.cells #[] 3)).ownsRow w.heap.size 3 1 (.slice (some ⟨w.heap.size, 0, none⟩) 0 0) 0 []) := own_zero _ _ _ _ _ rfl (Nat.le_refl _)
  have S2 : Hid (0 < n → ∃ ad, (some ⟨b, off, none⟩ : Option Addr) = some ad ∧ ∀ j u, (ints .i64 zs)[j]? = some u → (w.alloc (.cells #[] 3)).cell? (ad.add j) = some u) := news_row (IsRow.below HA.out BA.out)
  have e0 : ∀ w, (binOp .eql 24 (.slice (some ⟨b, off, none⟩) n ca) (.slice none 0 0)).run Try.prog w = .ok (.bool false) w := fun w => Lib.run_eql_slice_nil w _ _ _ _ _ _ _ Try.underlying24
  clear ha hc
  go_enter Try.func141, Try.ntmps141
  go_wp2_with (at_builtin; refine App.wpList_append_all _ rfl _ _ 24 rfl w.heap.size 3 i0 (.int .i64 0) 1 8 Try.underlying24 hi hz0 hz1 hz2 rfl (by decide) _ _ _ rfl OA.out _ n _ (ints .i64 zs) rfl HL.out S2.out (one_int zs) (by unfold maxLen; omega) (by omega) BA.out.size ?_)
  intro a4 c4 w4 hown4 hgrow4
  have N4 : Hid (Below w.heap.size w w4) := below_app BA.out OA.out hgrow4 BA.out.size (Nat.le_refl _)
  have O4 : Hid (w4.ownsRow w.heap.size 3 1 (.slice a4 n c4) n (ints .i64 zs)) := by show World.ownsRow _ _ _ _ _ _ _; simpa using hown4
  clear hown4 hgrow4
  go_wp2
  go_ret
  obtain ⟨h1, h2⟩ := O4.out
  rcases h2 with ⟨_, hz⟩ | ⟨g, cap, cur, hv, hg, hrest⟩
  · omega
  · obtain ⟨ha4, hc4⟩ : a4 = some ⟨g, 0, none⟩ ∧ c4 = cap := by simpa using hv
    subst ha4 hc4
    exact ⟨g, c4, rfl, O4.out, hg, N4.out⟩

set_option maxRecDepth 4000 in
set_option maxHeartbeats 1600000 in
/-- A copy of a list, of an empty one, too. -/
theorem clone_any (a : Option Addr) (n ca : Nat) (zs : List Int) (w : World) (ha : IsRow .i64 w a n ca zs) (hn : n ≤ 100000) :
    Calls Try.prog 141 #[.slice a n ca] w fun e w' => ∃ a' c', e = .returned (.slice a' n c') ∧ w'.ownsRow w.heap.size 3 1 (.slice a' n c') n (ints .i64 zs) ∧ (a' = none → n = 0 ∧ c' = 0) ∧ (∀ x, a' = some x → x.off = 0) ∧ Below w.heap.size w w' := by
  by_cases h0 : 0 < n
  · refine (clone_int a n ca zs w ha h0 hn).mono ?_
    rintro e w' ⟨g, c', rfl, ho, _, hb⟩
    exact ⟨_, _, rfl, ho, (fun h => by cases h), (fun x hx => by cases hx; rfl), hb⟩
  · obtain rfl : n = 0 := by omega
    obtain ⟨i0, hi, hz0, hz1, hz2⟩ := info_parts Ints.info
    have hz : zs = [] := List.eq_nil_of_length_eq_zero ha.len
    subst hz
    clear ha
    cases a with
    | none =>
      have e0 : ∀ w, (binOp .eql 24 (.slice none 0 ca) (.slice none 0 0)).run Try.prog w = .ok (.bool true) w := fun w => Lib.run_eql_slice_nil w _ _ _ _ _ _ _ Try.underlying24
      go_enter Try.func141, Try.ntmps141
      go_wp2
      go_ret
      exact ⟨none, 0, rfl, World.ownsRow_nil _ _ _ _, (fun _ => by simp), (fun x hx => by cases hx), Below.refl _ _⟩
    | some x =>
      have BA : Hid (Below w.heap.size w (w.alloc (.cells #[] 3))) := (Below.refl _ _).alloc (Nat.le_refl _) _
      have OA : Hid ((w.alloc (.cells #[] 3)).ownsRow w.heap.size 3 1 (.slice (some ⟨w.heap.size, 0, none⟩) 0 0) 0 []) := own_zero _ _ _ _ _ rfl (Nat.le_refl _)
      have e0 : ∀ w, (binOp .eql 24 (.slice (some x) 0 ca) (.slice none 0 0)).run Try.prog w = .ok (.bool false) w := fun w => Lib.run_eql_slice_nil w _ _ _ _ _ _ _ Try.underlying24
      go_enter Try.func141, Try.ntmps141
      go_wp2_with (at_builtin; refine App.wpList_append_all _ rfl _ _ 24 rfl w.heap.size 3 i0 (.int .i64 0) 1 8 Try.underlying24 hi hz0 hz1 hz2 rfl (by decide) _ _ _ rfl OA.out _ 0 _ [] rfl rfl (fun h => absurd h (by omega)) (by simp) (by unfold maxLen; omega) (by omega) BA.out.size ?_)
      intro a4 c4 w4 hown4 hgrow4
      have N4 : Hid (Below w.heap.size w w4) := below_app BA.out OA.out hgrow4 BA.out.size (Nat.le_refl _)
      have O4 : Hid (w4.ownsRow w.heap.size 3 1 (.slice a4 0 c4) 0 (ints .i64 [])) := by show World.ownsRow _ _ _ _ _ _ _; simpa [ints] using hown4
      clear hown4 hgrow4
      go_wp2
      go_ret
      obtain ⟨h1, h2⟩ := O4.out
      rcases h2 with ⟨hv, _⟩ | ⟨g, cap, cur, hv, hg, hrest⟩
      · obtain ⟨ha4, hc4⟩ : a4 = none ∧ c4 = 0 := by simpa using hv
        subst ha4 hc4
        exact ⟨_, _, rfl, O4.out, (fun _ => by simp), (fun x hx => by cases hx), N4.out⟩
      · obtain ⟨ha4, hc4⟩ : a4 = some ⟨g, 0, none⟩ ∧ c4 = cap := by simpa using hv
        subst ha4 hc4
        exact ⟨_, _, rfl, O4.out, (fun h => by cases h), (fun x hx => by cases hx; rfl), N4.out⟩


end Go.Proofs.Ytkondmnkmbdncaa.Kpi
