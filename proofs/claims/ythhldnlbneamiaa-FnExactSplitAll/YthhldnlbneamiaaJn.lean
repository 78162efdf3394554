/-
  What the program's JoinTwo is made of: kept and Concat on numbers, Equal.
-/
import Derived.Test.YthhldnlbneamiaaOi
import Derived.Test.YthhldnlbneamiaaOg
import Derived.Test.YthhldnlbneamiaaOk
import Derived.Test.YthhldnlbneamiaaOf
namespace Go.Proofs.Ythhldnlbneamiaa.Jn
open Go.RowKit
open Go.Proofs.Ythhldnlbneamiaa.Frame Go.Proofs.Ythhldnlbneamiaa.Mem Go.Proofs.Ythhldnlbneamiaa.Ints Go.Proofs.Ythhldnlbneamiaa.Kep Go.Proofs.Ythhldnlbneamiaa.Lls Go.Proofs.Ythhldnlbneamiaa.Rpu Go.Proofs.Ythhldnlbneamiaa.Krl Go.Proofs.Ythhldnlbneamiaa.Oa Go.Proofs.Ythhldnlbneamiaa.Ob Go.Proofs.Ythhldnlbneamiaa.Oe Go.Proofs.Ythhldnlbneamiaa.Og Go.Proofs.Ythhldnlbneamiaa.Mis Go.Proofs.Ythhldnlbneamiaa.Told Go.Proofs.Ythhldnlbneamiaa.Rel

/-- A call of the function enters it. -/
def Enters (P : Program) (f : FuncId) : Prop := ∀ (args : Array Value) (w : World), (callFunc f args).run P w = .ok (.enter f args) w
theorem enters {P : Program} {f : FuncId} {fn : Func} {c : Code} (hf : P.funcs[f]? = some fn) (hname : (fn.name == "runtime.NumGoroutine") = false) (hb : fn.body = some c) : Enters P f := fun args w => by
  have h1 : fn.name ≠ "runtime.NumGoroutine" := by simpa using hname
  simp [callFunc, hf, h1, hb]

theorem infoI : (Try.prog.info? 3).map (fun i => (i.zero, i.size, i.bytes)) = some (some (.int .i64 0), 1, 8) := by kernel_rfl

set_option maxRecDepth 4000 in
set_option maxHeartbeats 1600000 in
theorem kept_int (a : Option Addr) (n ca : Nat) (rs : List Int) (f : FuncId) (bs : Array Value) (p : Int → Bool) (w : World) (h : IsRow .i64 w a n ca rs) (hn : n ≤ 100000) (hen : Enters Try.prog f) (hcl : ∀ x ∈ rs, ∀ w1, Below w.heap.size w w1 → Calls Try.prog f (#[.int .i64 x] ++ bs) w1 fun e w2 => e = .returned (.bool (p x)) ∧ Below w1.heap.size w1 w2) :
    Calls Try.prog 165 #[.slice a n ca, .func (.func f) #[] bs] w fun e w' => ∃ a' m c', e = .returned (.slice a' m c') ∧ m ≤ n ∧ w'.ownsRow w.heap.size 3 1 (.slice a' m c') m (ints .i64 (rs.filter p)) ∧ Below w.heap.size w w' := by
  obtain ⟨i0, hi, hz0, hz1, hz2⟩ := info_parts infoI
  have HI : Hid (IsRow .i64 w a n ca rs) := h
  have HL : Hid (rs.length = n) := h.len
  have HCL : Hid (∀ x ∈ rs, ∀ w1, Below w.heap.size w w1 → Calls Try.prog f (#[.int .i64 x] ++ bs) w1 fun e w2 => e = .returned (.bool (p x)) ∧ Below w1.heap.size w1 w2) := hcl
  have HEN : Hid (Enters Try.prog f) := hen
  clear h hcl hen
  go_enter Try.func165, Try.ntmps165
  go_wp2_with (at_make; refine wpList_make_own _ rfl _ _ 24 rfl w.heap.size 3 i0 (.int .i64 0) 1 Try.underlying24 hi hz0 hz1 _ _ _ n rfl rfl rfl ?d2 ?d3 (Nat.le_refl _) ?_)
  case d2 => rw [hz2]; omega
  case d3 => unfold maxLen; omega
  intro w3 hown3 hgrow3
  have B3 : Hid (Below w.heap.size w w3) := below_make (Below.refl _ _) hgrow3 (Nat.le_refl _)
  have O3 : Hid (w3.ownsRow w.heap.size 3 1 (.slice (some ⟨w.heap.size, 0, none⟩) 0 n) 0 []) := hown3
  clear hown3 hgrow3
  go_wp2_with fail
  go_loopw [5, 13] (fun v i wr => ∃ (k m : Nat) (a' : Option Addr) (c' : Nat), k ≤ n ∧ m ≤ k ∧ i = .int .i64 k ∧ v = .slice a' m c' ∧ wr.ownsRow w.heap.size 3 1 (.slice a' m c') m (ints .i64 ((rs.take k).filter p)) ∧ Below w.heap.size w wr) (fun _ i _ => n - (intOf i).toNat)
  case atStart => exact ⟨0, 0, _, _, Nat.zero_le _, Nat.le_refl _, rfl, rfl, O3.out, B3.out⟩
  case round =>
    obtain ⟨k, m, a', c', hk, hmk, rfl, rfl, ho, hnx⟩ := hrel
    have HO : Hid (wr.ownsRow w.heap.size 3 1 (.slice a' m c') m (ints .i64 ((rs.take k).filter p))) := ho
    have HN : Hid (Below w.heap.size w wr) := hnx
    have hsr := hnx.size
    clear ho
    by_cases hlt : k < n
    · obtain ⟨b, off, rfl, hbl, hc⟩ := HI.out.cells (by omega)
      have hkl : k < rs.length := by rw [HL.out]; exact hlt
      have hck : wr.cell? ⟨b, off + k, none⟩ = some (.int .i64 (rs.getD k 0)) := by rw [hnx.cell (p := ⟨b, off + k, none⟩) hbl]; exact hc k hlt
      have HF : Hid ((rs.take (k + 1)).filter p = (rs.take k).filter p ++ (if p (rs.getD k 0) then [rs.getD k 0] else [])) := by
        show _ = _
        rw [take_succ_getD hkl, List.filter_append, List.filter_cons]
        rfl
      have CA := HCL.out _ (getD_mem hkl) wr hnx
      generalize rs.getD k 0 = x at hck HF CA
      have CALL : Hid (Calls Try.prog f (#[.int .i64 x] ++ bs) wr fun e w2 => e = .returned (.bool (p x)) ∧ Below wr.heap.size wr w2) := CA
      clear hc hnx hkl CA
      go_wp2_with fail
      rw [HEN.out]
      refine Calls.mono CALL.out ?_
      rintro e w2 ⟨rfl, hb2⟩
      have hs2 := hb2.size
      have HO1 : Hid (w2.ownsRow w.heap.size 3 1 (.slice a' m c') m (ints .i64 ((rs.take k).filter p))) := own_below HO.out hb2
      have HN1 : Hid (Below w.heap.size w w2) := Frame.next HN.out hb2 HN.out.size
      have HO2 : Hid ((w2.alloc (.cells #[.int .i64 x] 3)).ownsRow w.heap.size 3 1 (.slice a' m c') m (ints .i64 ((rs.take k).filter p))) := own_below HO1.out ((Below.refl _ _).alloc (Nat.le_refl _) _)
      have HN2 : Hid (Below w.heap.size w (w2.alloc (.cells #[.int .i64 x] 3))) := HN1.out.alloc HN1.out.size _
      have S2 : Hid (0 < 1 → ∃ ad, (some ⟨w2.heap.size, 0, none⟩ : Option Addr) = some ad ∧ ∀ j u, ([.int .i64 x] : List Value)[j]? = some u → (w2.alloc (.cells #[.int .i64 x] 3)).cell? (ad.add j) = some u) := news_one w2 _ _
      clear hb2 CALL
      cases hv : p x
      · have F : Hid ((rs.take (k + 1)).filter p = (rs.take k).filter p) := by show _ = _; rw [HF.out, hv]; exact List.append_nil _
        clear hv HF HO2 HN2 S2
        go_wp2_with fail
        go_roundw
        case rel => exact ⟨k + 1, m, a', c', by omega, by omega, by go_num, rfl, by rw [F.out]; exact HO1.out, HN1.out⟩
        case measure => simp [intOf]; omega
      · have F : Hid ((rs.take (k + 1)).filter p = (rs.take k).filter p ++ [x]) := by show _ = _; rw [HF.out, hv]; rfl
        clear hv HF
        go_wp2_with (at_builtin; refine App.wpList_append_all _ rfl _ _ 24 rfl w.heap.size 3 i0 (.int .i64 0) 1 8 Try.underlying24 hi hz0 hz1 hz2 rfl (by decide) _ _ _ rfl HO2.out _ 1 _ [.int .i64 x] rfl rfl S2.out (by simp [Value.oneCell']) (by unfold maxLen; omega) (by omega) HN2.out.size ?_)
        intro a4 c4 w4 hown4 hgrow4
        have O4 : Hid (w4.ownsRow w.heap.size 3 1 (.slice a4 (m + 1) c4) (m + 1) (ints .i64 ((rs.take (k + 1)).filter p))) := by show World.ownsRow _ _ _ _ _ _ _; rw [F.out]; simpa [ints] using hown4
        have N4 : Hid (Below w.heap.size w w4) := below_app HN2.out HO2.out hgrow4 HN2.out.size (Nat.le_refl _)
        clear hown4 hgrow4
        go_wp2
        go_roundw
        case rel => exact ⟨k + 1, m + 1, a4, c4, by omega, by omega, by go_num, rfl, O4.out, N4.out⟩
        case measure => simp [intOf]; omega
    · have F : Hid (wr.ownsRow w.heap.size 3 1 (.slice a' m c') m (ints .i64 (rs.filter p))) := by have := HO.out; rwa [List.take_of_length_le (by rw [HL.out]; omega)] at this
      clear hnx
      go_wp2
      go_ret
      exact ⟨_, _, _, rfl, by omega, F.out, HN.out⟩

set_option maxRecDepth 20000 in
set_option maxHeartbeats 1600000 in
theorem grow_nil (n : Nat) (w : World) (hn : n ≤ 100000) :
    Calls Try.prog 179 #[.slice none 0 0, .int .i64 n] w fun e w' => ∃ a' c', e = .returned (.slice a' 0 c') ∧ w'.ownsRow w.heap.size 3 1 (.slice a' 0 c') 0 [] ∧ Below w.heap.size w w' := by
  obtain ⟨i0, hi, hz0, hz1, hz2⟩ := info_parts infoI
  by_cases h0 : n = 0
  · subst h0
    go_enter Try.func179, Try.ntmps179
    go_wp2
    go_ret
    exact ⟨none, 0, rfl, World.ownsRow_nil _ _ _ _, Below.refl _ _⟩
  · have hold : (Builtin.firstCells i0.size 0 (.slice none 0 0)).run Try.prog w.drew = .ok ([] : List Value).toArray w.drew := by simp [Builtin.firstCells]
    have hrz : ∀ ty, (Builtin.append_ #[24, 3] ty #[.slice none 0 0, .int .i64 n]).run Try.prog w = .ok (.slice (some ⟨w.heap.size, 0, none⟩) n (grownCap w n 0 3)) (w.drew.alloc (.cells (([] : List Value).toArray ++ Builtin.zeroCells (Value.int .i64 0).cells n ++ Builtin.zeroCells (Value.int .i64 0).cells (grownCap w n 0 3 - n)) 3)) := fun ty => by
      have h := Lib.run_append_grow_zeros w 24 3 ty 3 i0 (.int .i64 0) .i64 .i64 Try.underlying24 Try.underlying3 hi hz0 none 0 0 [] hold n (by omega) (by omega) (by omega) (by omega) (by rw [hz2]; omega) (by rw [hz2]; exact growslice_fits (by omega) (by omega))
      rw [Nat.zero_add] at h
      exact h
    have hGn : n ≤ grownCap w n 0 3 := grownCap_ge w _ _ _
    have hGm : grownCap w n 0 3 ≤ maxLen := grownCap_le_maxLen w _ _ _ (by unfold maxLen; omega)
    generalize grownCap w n 0 3 = G at hrz hGn hGm
    have hOW : Hid ((w.drew.alloc (.cells (([] : List Value).toArray ++ Builtin.zeroCells (Value.int .i64 0).cells n ++ Builtin.zeroCells (Value.int .i64 0).cells (G - n)) 3)).ownsRow w.heap.size 3 1 (.slice (some ⟨w.heap.size, 0, none⟩) 0 G) 0 []) :=
      ⟨rfl, .inr ⟨w.heap.size, G, _, rfl, Nat.le_refl _, heap_alloc_new w.drew _, Nat.zero_le _, hGm, by simp [Builtin.zeroCells, Value.cells]; omega, by simp⟩⟩
    have hBW : Hid (Below w.heap.size w (w.drew.alloc (.cells (([] : List Value).toArray ++ Builtin.zeroCells (Value.int .i64 0).cells n ++ Builtin.zeroCells (Value.int .i64 0).cells (G - n)) 3))) := ((Below.refl _ _).drew).alloc (Nat.le_refl _) _
    generalize w.drew.alloc (.cells (([] : List Value).toArray ++ Builtin.zeroCells (Value.int .i64 0).cells n ++ Builtin.zeroCells (Value.int .i64 0).cells (G - n)) 3) = w9 at hrz hOW hBW
    have h1 : ¬ ((n : Int) < 0) := by omega
    have h4 : (n : Int) > 0 := by omega
    have hG63 : G ≤ 9223372036854775807 := by unfold maxLen at hGm; omega
    clear hold
    go_enter Try.func179, Try.ntmps179
    go_wp2_with (at_builtin; refine Lib.wpList_append_run _ rfl _ _ _ _ rfl _ _ rfl rfl _ _ (hrz _) ?_)
    go_ret
    exact ⟨_, _, rfl, hOW.out, hBW.out⟩

set_option maxRecDepth 4000 in
set_option maxHeartbeats 1600000 in
theorem concat_int (pb : Nat) (ta sa : Option Addr) (tn tc sn sc : Nat) (rs qs : List Int) (w : World) (hc0 : w.cell? ⟨pb, 0, none⟩ = some (.slice ta tn tc)) (hc1 : w.cell? ⟨pb, 1, none⟩ = some (.slice sa sn sc)) (ht : IsRow .i64 w ta tn tc rs) (hs : IsRow .i64 w sa sn sc qs) (htn : tn ≤ 1000) (hsn : sn ≤ 1000) :
    Calls Try.prog 169 #[.slice (some ⟨pb, 0, none⟩) 2 2] w fun e w' => ∃ a' c', e = .returned (.slice a' (tn + sn) c') ∧ w'.ownsRow w.heap.size 3 1 (.slice a' (tn + sn) c') (tn + sn) (ints .i64 (rs ++ qs)) ∧ Below w.heap.size w w' := by
  obtain ⟨i0, hi, hz0, hz1, hz2⟩ := info_parts infoI
  have HT : Hid (IsRow .i64 w ta tn tc rs) := ht
  have HS : Hid (IsRow .i64 w sa sn sc qs) := hs
  have HRL : Hid ((ints .i64 rs).length = tn * 1) := by show _ = _; rw [ints_length, ht.len]; omega
  have HQL : Hid ((ints .i64 qs).length = sn * 1) := by show _ = _; rw [ints_length, hs.len]; omega
  have HC : Hid (w.cell? ⟨pb, 0, none⟩ = some (.slice ta tn tc) ∧ w.cell? ⟨pb, 1, none⟩ = some (.slice sa sn sc)) := ⟨hc0, hc1⟩
  clear ht hs
  go_enter Try.func169, Try.ntmps169
  go_wp2_with fail
  go_loopw [3, 11] (fun s i wr => ((i = .int .i64 0 ∧ s = .int .i64 0) ∨ (i = .int .i64 1 ∧ s = .int .i64 tn) ∨ (i = .int .i64 2 ∧ s = .int .i64 ((tn + sn : Nat) : Int))) ∧ w = wr) (fun _ i _ => 2 - (intOf i).toNat)
  case atStart => exact ⟨Or.inl ⟨rfl, rfl⟩, rfl⟩
  case round =>
    obtain ⟨hcase, rfl⟩ := hrel
    rcases hcase with ⟨rfl, rfl⟩ | ⟨rfl, rfl⟩ | ⟨rfl, rfl⟩
    · go_wp2_with fail
      go_roundw
      case rel => exact ⟨Or.inr (Or.inl ⟨by go_num, by go_num⟩), trivial⟩
      case measure => simp [intOf]
    · go_wp2_with fail
      go_roundw
      case rel => exact ⟨Or.inr (Or.inr ⟨by go_num, by go_num⟩), trivial⟩
      case measure => simp [intOf]
    · clear hc0 hc1
      go_wp2_with fail
      refine (grow_nil (tn + sn) _ (by omega)).mono ?_
      rintro e w1 ⟨a1, c1, rfl, ho1, hb1⟩
      have O1 : Hid (w1.ownsRow w.heap.size 3 1 (.slice a1 0 c1) 0 ((ints .i64 []))) := ho1
      have B1 : Hid (Below w.heap.size w w1) := hb1
      clear ho1 hb1
      go_wp2_with fail
      go_loopw [6, 27] (fun v i wr => ∃ (m : Nat) (a' : Option Addr) (c' : Nat) (xs : List Int), ((i = .int .i64 0 ∧ m = 0 ∧ xs = []) ∨ (i = .int .i64 1 ∧ m = tn ∧ xs = rs) ∨ (i = .int .i64 2 ∧ m = tn + sn ∧ xs = rs ++ qs)) ∧ v = .slice a' m c' ∧ wr.ownsRow w.heap.size 3 1 (.slice a' m c') m (ints .i64 xs) ∧ Below w.heap.size w wr) (fun _ i _ => 2 - (intOf i).toNat)
      case atStart => exact ⟨0, a1, c1, [], Or.inl ⟨rfl, rfl, rfl⟩, rfl, O1.out, B1.out⟩
      case round =>
        obtain ⟨m, a', c', xs, hcase, rfl, ho, hnx⟩ := hrel
        have HN : Hid (Below w.heap.size w wr) := hnx
        rcases hcase with ⟨rfl, hm, hx⟩ | ⟨rfl, hm, hx⟩ | ⟨rfl, hm, hx⟩
        · skip
          have HO : Hid (wr.ownsRow w.heap.size 3 1 (.slice a' (0) c') (0) (ints .i64 ([]))) := by have := ho; rw [hm, hx] at this; exact this
          rw [hm]
          clear ho hm hx
          have p0 : wr.cell? ⟨pb, 0, none⟩ = some (.slice ta tn tc) := Frame.held_cell hnx HC.out.1
          have S2 : Hid (0 < tn → ∃ ad, ta = some ad ∧ ∀ j u, (ints .i64 rs)[j]? = some u → wr.cell? (ad.add j) = some u) := news_row (IsRow.below HT.out HN.out)
          clear hnx
          go_wp2_with (at_builtin; refine App.wpList_append_all _ rfl _ _ 24 rfl w.heap.size 3 i0 (.int .i64 0) 1 8 Try.underlying24 hi hz0 hz1 hz2 rfl (by decide) _ _ _ rfl HO.out _ tn _ (ints .i64 rs) rfl HRL.out S2.out (one_int rs) (by unfold maxLen; omega) (by omega) HN.out.size ?_)
          intro a4 c4 w4 hown4 hgrow4
          have O4 : Hid (w4.ownsRow w.heap.size 3 1 (.slice a4 (tn) c4) (tn) (ints .i64 (rs))) := by have := hown4; rw [show ints .i64 [] = [] from rfl, List.nil_append] at this; exact this
          have N4 : Hid (Below w.heap.size w w4) := below_app HN.out HO.out hgrow4 HN.out.size (Nat.le_refl _)
          clear hown4 hgrow4
          go_wp2
          go_roundw
          case rel => exact ⟨_, a4, c4, _, Or.inr (Or.inl ⟨by go_num, rfl, rfl⟩), rfl, O4.out, N4.out⟩
          case measure => simp [intOf]
        · skip
          have HO : Hid (wr.ownsRow w.heap.size 3 1 (.slice a' (tn) c') (tn) (ints .i64 (rs))) := by have := ho; rw [hm, hx] at this; exact this
          rw [hm]
          clear ho hm hx
          have p0 : wr.cell? ⟨pb, 1, none⟩ = some (.slice sa sn sc) := Frame.held_cell hnx HC.out.2
          have S2 : Hid (0 < sn → ∃ ad, sa = some ad ∧ ∀ j u, (ints .i64 qs)[j]? = some u → wr.cell? (ad.add j) = some u) := news_row (IsRow.below HS.out HN.out)
          clear hnx
          go_wp2_with (at_builtin; refine App.wpList_append_all _ rfl _ _ 24 rfl w.heap.size 3 i0 (.int .i64 0) 1 8 Try.underlying24 hi hz0 hz1 hz2 rfl (by decide) _ _ _ rfl HO.out _ sn _ (ints .i64 qs) rfl HQL.out S2.out (one_int qs) (by unfold maxLen; omega) (by omega) HN.out.size ?_)
          intro a4 c4 w4 hown4 hgrow4
          have O4 : Hid (w4.ownsRow w.heap.size 3 1 (.slice a4 (tn + sn) c4) (tn + sn) (ints .i64 (rs ++ qs))) := by have := hown4; unfold ints at *; rw [List.map_append]; exact this
          have N4 : Hid (Below w.heap.size w w4) := below_app HN.out HO.out hgrow4 HN.out.size (Nat.le_refl _)
          clear hown4 hgrow4
          go_wp2
          go_roundw
          case rel => exact ⟨_, a4, c4, _, Or.inr (Or.inr ⟨by go_num, rfl, rfl⟩), rfl, O4.out, N4.out⟩
          case measure => simp [intOf]
        · skip
          have HO : Hid (wr.ownsRow w.heap.size 3 1 (.slice a' (tn + sn) c') (tn + sn) (ints .i64 (rs ++ qs))) := by have := ho; rw [hm, hx] at this; exact this
          rw [hm]
          clear ho hm hx
          clear hnx
          go_wp2
          go_ret
          exact ⟨_, _, rfl, HO.out, HN.out⟩

theorem below_drewN {B : Nat} {v w : World} (h : Below B v w) (n : Nat) : Below B v (w.drewN n) := ⟨h.os, h.tape, h.output, h.size, h.block⟩
theorem eq_take_z {xs ys : List Int} {k : Nat} (hx : k < xs.length) (hy : k < ys.length) (h : xs.take k = ys.take k) (e : xs.getD k 0 = ys.getD k 0) : xs.take (k + 1) = ys.take (k + 1) := by
  rw [take_succ_getD hx, take_succ_getD hy, h, e]

set_option maxRecDepth 4000 in
set_option maxHeartbeats 1600000 in
theorem equal_int (a b : Option Addr) (n m ca cb : Nat) (xs ys : List Int) (w : World) (ha : IsRow .i64 w a n ca xs) (hb : IsRow .i64 w b m cb ys) :
    Calls Try.prog 167 #[.slice a n ca, .slice b m cb] w fun e w' => e = .returned (.bool (decide (xs = ys))) ∧ Below w.heap.size w w' := by
  have hmaxn : n ≤ 9223372036854775807 := by have := ha.fits; have := ha.max; unfold maxLen at *; omega
  have HX : Hid (IsRow .i64 w a n ca xs) := ha
  have HY : Hid (IsRow .i64 w b m cb ys) := hb
  have LX : Hid (xs.length = n) := ha.len
  have LY : Hid (ys.length = m) := hb.len
  clear ha hb
  by_cases hnm : n = m
  · subst hnm
    go_enter Try.func167, Try.ntmps167
    go_wp2_with fail
    go_loopw [13] (fun i wr => ∃ k : Nat, k ≤ n ∧ i = .int .i64 k ∧ xs.take k = ys.take k ∧ Below w.heap.size w wr) (fun i _ => n - (intOf i).toNat)
    case atStart => exact ⟨0, Nat.zero_le _, rfl, rfl, Below.refl _ _⟩
    case round =>
      obtain ⟨k, hk, rfl, ht, hnx⟩ := hrel
      have HT : Hid (xs.take k = ys.take k) := ht
      have HN : Hid (Below w.heap.size w wr) := hnx
      clear ht
      by_cases hlt : k < n
      · obtain ⟨b1, o1, rfl, hl1, hc1⟩ := HX.out.cells (by omega)
        obtain ⟨b2, o2, rfl, hl2, hc2⟩ := HY.out.cells (by omega)
        have x0 : wr.cell? ⟨b1, o1 + k, none⟩ = some (.int .i64 (xs.getD k 0)) := by rw [hnx.cell (p := ⟨b1, o1 + k, none⟩) hl1]; exact hc1 k hlt
        have y0 : wr.cell? ⟨b2, o2 + k, none⟩ = some (.int .i64 (ys.getD k 0)) := by rw [hnx.cell (p := ⟨b2, o2 + k, none⟩) hl2]; exact hc2 k hlt
        have HE : Hid (xs.getD k 0 = ys.getD k 0 → xs.take (k + 1) = ys.take (k + 1)) := fun e => eq_take_z (by rw [LX.out]; exact hlt) (by rw [LY.out]; exact hlt) HT.out e
        have HF : Hid (¬ xs.getD k 0 = ys.getD k 0 → decide (xs = ys) = false) := fun e => decide_eq_false fun h => e (by rw [h])
        generalize xs.getD k 0 = x at x0 HE HF
        generalize ys.getD k 0 = y at y0 HE HF
        have hi0 : (0 : Int) ≤ (k : Int) := by omega
        have hi1 : (k : Int) < (n : Int) := by omega
        clear hc1 hc2 hnx hl1 hl2
        by_cases he : x = y
        · subst he
          have F : Hid (xs.take (k + 1) = ys.take (k + 1)) := HE.out rfl
          clear HE HF
          go_wp2_with fail
          go_quiet (fail)
          go_wp2
          go_roundw
          case rel => exact ⟨k + 1, by omega, by go_num, F.out, below_drewN HN.out _⟩
          case measure => simp [intOf]; omega
        · have F : Hid (decide (xs = ys) = false) := HF.out he
          have hxy : (x == y) = false := by rw [beq_eq_false_iff_ne]; exact he
          clear HE HF he
          go_wp2_with fail
          go_quiet (fail)
          go_wp2
          go_ret
          rw [F.out]
          exact ⟨rfl, below_drewN HN.out _⟩
      · have F : Hid (decide (xs = ys) = true) := by
          have := HT.out
          rw [List.take_of_length_le (by rw [LX.out]; omega), List.take_of_length_le (by rw [LY.out]; omega)] at this
          exact decide_eq_true this
        clear hnx
        go_wp2
        go_ret
        rw [F.out]
        exact ⟨rfl, HN.out⟩
  · have F : Hid (decide (xs = ys) = false) := decide_eq_false fun h => hnm (by rw [← LX.out, ← LY.out, h])
    have hne : ((n : Int) == (m : Int)) = false := by rw [beq_eq_false_iff_ne]; omega
    clear hnm
    go_enter Try.func167, Try.ntmps167
    go_wp2
    go_ret
    rw [F.out]
    exact ⟨rfl, Below.refl _ _⟩

theorem join_closure (x : Int) (pb vn vc : Nat) (va : Option Addr) (ns : List Int) (w : World) (hc : w.cell? ⟨pb, 0, none⟩ = some (.slice va vn vc)) (hv : IsRow .i64 w va vn vc ns) (hn : vn ≤ 1048576) (hu : UpN ns) :
    Calls Try.prog 166 #[.int .i64 x, .pointer (some ⟨pb, 0, none⟩)] w fun e w' => e = .returned (.bool (decide (x ∈ ns))) ∧ Below w.heap.size w w' := by
  have HV : Hid (IsRow .i64 w va vn vc ns) := hv
  have HU : Hid (UpN ns) := hu
  clear hv hu
  go_enter Try.func166, Try.ntmps166
  go_wp2_with fail
  refine (Of.has_int _ _ _ ns x _ HV.out hn HU.out).mono ?_
  rintro e w' ⟨rfl, hw'⟩; have hw'' := hw'.symm; clear hw'; subst hw''
  go_wp2
  go_ret
  exact ⟨rfl, Below.refl _ _⟩


end Go.Proofs.Ythhldnlbneamiaa.Jn
