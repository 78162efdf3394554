/-
  Lists of values: whether all are good; kept for any test: contracts of the program and of the model.
-/
import Derived.Test.YtdlcjcobfckncaaDoorVals
import Derived.Test.YtdlcjcobfckncaaDoorApp
import Derived.Test.YtdlcjcobfckncaaDoorMis
namespace Go.Proofs.YtdlcjcobfckncaaDoor.Sv
open Go.RowKit
open Go.Proofs.YtdlcjcobfckncaaDoor.Frame Go.Proofs.YtdlcjcobfckncaaDoor.Mem Go.Proofs.YtdlcjcobfckncaaDoor.Val Go.Proofs.YtdlcjcobfckncaaDoor.Vals Go.Proofs.YtdlcjcobfckncaaDoor.Mis

def allGood (vs : List (Bool × Int)) : Bool := vs.all fun v => goodV v.1 v.2
def sumB (vs : List (Bool × Int)) : Bool := decide (vs.length ≤ 40) && allGood vs
theorem allGood_no {vs : List (Bool × Int)} {k : Nat} (hk : k < vs.length) (h : goodV (vs.getD k vd).1 (vs.getD k vd).2 = false) : allGood vs = false := by
  cases hh : allGood vs
  · rfl
  · have := (List.all_eq_true.1 hh) _ (getD_mem_vd hk)
    rw [h] at this
    cases this
theorem allGood_next {vs : List (Bool × Int)} {k : Nat} (hk : k < vs.length) (h0 : allGood (vs.take k) = true) (h : goodV (vs.getD k vd).1 (vs.getD k vd).2 = true) : allGood (vs.take (k + 1)) = true := by
  unfold allGood at *
  rw [take_succ_vd hk, List.all_append, h0, Bool.true_and, List.all_cons, h]
  rfl

set_option maxRecDepth 4000 in
set_option maxHeartbeats 1600000 in
theorem areSummable (a : Option Addr) (n c : Nat) (vs : List (Bool × Int)) (w : World) (h : IsVals w a n c vs) : Calls Tryd.prog 52 #[.slice a n c] w fun e w' => e = .returned (.bool (sumB vs)) ∧ Below w.heap.size w w' := by
  have hmaxn : n ≤ 9223372036854775807 := by have := h.fits; have := h.max; unfold maxLen at *; omega
  have HL : Hid (vs.length = n) := h.len
  have HI : Hid (IsVals w a n c vs) := h
  clear h
  by_cases h40 : n ≤ 40
  · have hni : (n : Int) ≤ 40 := by omega
    have FS : Hid (sumB vs = allGood vs) := by show _ = _; unfold sumB; rw [HL.out, decide_eq_true h40, Bool.true_and]
    clear h40
    go_enter Tryd.func52, Tryd.ntmps52
    go_wp2_with fail
    go_loopw [10] (fun i wr => ∃ k : Nat, k ≤ n ∧ i = .int .i64 k ∧ allGood (vs.take k) = true ∧ Below w.heap.size w wr) (fun i _ => n - (intOf i).toNat)
    case atStart => exact ⟨0, Nat.zero_le _, rfl, rfl, Below.refl _ _⟩
    case round =>
      obtain ⟨k, hk, rfl, ha, hnx⟩ := hrel
      have HA : Hid (allGood (vs.take k) = true) := ha
      have HN : Hid (Below w.heap.size w wr) := hnx
      have hsr := hnx.size
      clear ha
      by_cases hlt : k < n
      · obtain ⟨b, off, rfl, hbl, hc⟩ := HI.out.cells (by omega)
        have hkl : k < vs.length := by rw [HL.out]; exact hlt
        have h0 : wr.cell? ⟨b, off + k * 2, none⟩ = some (.bool (vs.getD k vd).1) := by rw [hnx.cell (p := ⟨b, off + k * 2, none⟩) hbl]; exact (hc k hlt).1
        have h1 : wr.cell? ⟨b, off + k * 2 + 1, none⟩ = some (.int .i64 (vs.getD k vd).2) := by rw [hnx.cell (p := ⟨b, off + k * 2 + 1, none⟩) hbl]; exact (hc k hlt).2
        have HNO : Hid (goodV (vs.getD k vd).1 (vs.getD k vd).2 = false → allGood vs = false) := fun e => allGood_no hkl e
        have HYES : Hid (goodV (vs.getD k vd).1 (vs.getD k vd).2 = true → allGood (vs.take (k + 1)) = true) := fun e => allGood_next hkl HA.out e
        generalize vs.getD k vd = x at h0 h1 HNO HYES
        obtain ⟨xb, xn⟩ := x
        simp only at h0 h1
        have HNO' : Hid (goodV xb xn = false → allGood vs = false) := HNO.out
        have HYES' : Hid (goodV xb xn = true → allGood (vs.take (k + 1)) = true) := HYES.out
        clear hc hnx hkl HNO HYES hbl
        go_wp2_with fail
        refine (impl_GoodValue xb xn _).mono ?_
        rintro e w1 ⟨rfl, hb1⟩
        have N1 : Hid (Below w.heap.size w w1) := Frame.next (HN.out.alloc hsr _) hb1 (by simp; omega)
        clear hb1
        cases hg : goodV xb xn
        · have F : Hid (sumB vs = false) := by show _ = _; rw [FS.out]; exact HNO'.out hg
          clear hg
          go_wp2
          go_ret
          rw [F.out]
          exact ⟨rfl, N1.out⟩
        · have F : Hid (allGood (vs.take (k + 1)) = true) := HYES'.out hg
          clear hg
          go_wp2
          go_roundw
          case rel => exact ⟨k + 1, by omega, by go_num, F.out, N1.out⟩
          case measure => simp [intOf]; omega
      · have F : Hid (sumB vs = true) := by
          show _ = _
          rw [FS.out]
          have := HA.out
          rwa [List.take_of_length_le (by rw [HL.out]; omega)] at this
        clear hnx
        go_wp2
        go_ret
        rw [F.out]
        exact ⟨rfl, HN.out⟩
  · have hni : (40 : Int) < (n : Int) := by omega
    have F : Hid (sumB vs = false) := by show _ = _; unfold sumB; rw [HL.out, decide_eq_false h40, Bool.false_and]
    clear h40
    go_enter Tryd.func52, Tryd.ntmps52
    go_wp2
    go_ret
    rw [F.out]
    exact ⟨rfl, Below.refl _ _⟩

set_option maxRecDepth 4000 in
set_option maxHeartbeats 1600000 in
theorem l4Values (a : Option Addr) (n c : Nat) (vs : List (Bool × Int)) (w : World) (h : IsVals w a n c vs) : Calls Tryd.prog 55 #[.slice a n c] w fun e w' => e = .returned (.bool (sumB vs)) ∧ Below w.heap.size w w' := by
  have hmaxn : n ≤ 9223372036854775807 := by have := h.fits; have := h.max; unfold maxLen at *; omega
  have HL : Hid (vs.length = n) := h.len
  have HI : Hid (IsVals w a n c vs) := h
  clear h
  go_enter Tryd.func55, Tryd.ntmps55
  go_wp2_with fail
  go_loopw [7] (fun i wr => ∃ k : Nat, k ≤ n ∧ i = .int .i64 k ∧ allGood (vs.take k) = true ∧ Below w.heap.size w wr) (fun i _ => n - (intOf i).toNat)
  case atStart => exact ⟨0, Nat.zero_le _, rfl, rfl, Below.refl _ _⟩
  case round =>
    obtain ⟨k, hk, rfl, ha, hnx⟩ := hrel
    have HA : Hid (allGood (vs.take k) = true) := ha
    have HN : Hid (Below w.heap.size w wr) := hnx
    have hsr := hnx.size
    clear ha
    by_cases hlt : k < n
    · obtain ⟨b, off, rfl, hbl, hc⟩ := HI.out.cells (by omega)
      have hkl : k < vs.length := by rw [HL.out]; exact hlt
      have h0 : wr.cell? ⟨b, off + k * 2, none⟩ = some (.bool (vs.getD k vd).1) := by rw [hnx.cell (p := ⟨b, off + k * 2, none⟩) hbl]; exact (hc k hlt).1
      have h1 : wr.cell? ⟨b, off + k * 2 + 1, none⟩ = some (.int .i64 (vs.getD k vd).2) := by rw [hnx.cell (p := ⟨b, off + k * 2 + 1, none⟩) hbl]; exact (hc k hlt).2
      have HNO : Hid (goodV (vs.getD k vd).1 (vs.getD k vd).2 = false → allGood vs = false) := fun e => allGood_no hkl e
      have HYES : Hid (goodV (vs.getD k vd).1 (vs.getD k vd).2 = true → allGood (vs.take (k + 1)) = true) := fun e => allGood_next hkl HA.out e
      generalize vs.getD k vd = x at h0 h1 HNO HYES
      obtain ⟨xb, xn⟩ := x
      simp only at h0 h1
      have HNO' : Hid (goodV xb xn = false → allGood vs = false) := HNO.out
      have HYES' : Hid (goodV xb xn = true → allGood (vs.take (k + 1)) = true) := HYES.out
      clear hc hnx hkl HNO HYES hbl
      go_wp2_with fail
      refine (spec_GoodValue xb xn _).mono ?_
      rintro e w1 ⟨rfl, hb1⟩
      have N1 : Hid (Below w.heap.size w w1) := Frame.next (HN.out.alloc hsr _) hb1 (by simp; omega)
      clear hb1
      cases hg : goodV xb xn
      · have F : Hid (sumB vs = false) := by show _ = _; unfold sumB; rw [HNO'.out hg, Bool.and_false]
        clear hg
        go_wp2
        go_ret
        rw [F.out]
        exact ⟨rfl, N1.out⟩
      · have F : Hid (allGood (vs.take (k + 1)) = true) := HYES'.out hg
        clear hg
        go_wp2
        go_roundw
        case rel => exact ⟨k + 1, by omega, by go_num, F.out, N1.out⟩
        case measure => simp [intOf]; omega
    · have F : Hid (sumB vs = decide ((n : Int) ≤ 40)) := by
        show _ = _
        have := HA.out
        rw [List.take_of_length_le (by rw [HL.out]; omega)] at this
        unfold sumB
        rw [this, Bool.and_true, HL.out]
        exact decide_eq_decide.2 (by omega)
      clear hnx
      go_wp2
      go_ret
      rw [F.out]
      exact ⟨rfl, HN.out⟩

/-- A call of the function enters it. -/
def Enters (P : Program) (f : FuncId) : Prop := ∀ (args : Array Value) (w : World), (callFunc f args).run P w = .ok (.enter f args) w
theorem enters {P : Program} {f : FuncId} {fn : Func} {c : Code} (hf : P.funcs[f]? = some fn) (hname : (fn.name == "runtime.NumGoroutine") = false) (hb : fn.body = some c) : Enters P f := fun args w => by
  have h1 : fn.name ≠ "runtime.NumGoroutine" := by simpa using hname
  simp [callFunc, hf, h1, hb]

theorem news_val (w : World) (x : Bool) (y : Int) (t : TypeId) : 0 < 1 → ∃ ad, (some ⟨w.heap.size, 0, none⟩ : Option Addr) = some ad ∧ ∀ j u, ([.bool x, .int .i64 y] : List Value)[j]? = some u → (w.alloc (.cells #[.bool x, .int .i64 y] t)).cell? (ad.add j) = some u := fun _ => ⟨_, rfl, fun j u hu => by
  rw [add_at, Nat.zero_add]
  rw [World.cell?_alloc_at _ _ _ _ rfl]
  match j, hu with
  | 0, hu => simpa using hu
  | 1, hu => simpa using hu⟩
theorem info_parts2 {i : Option TypeInfo} {z : Value} {s b : Nat} (h : i.map (fun i => (i.zero, i.size, i.bytes)) = some (some z, s, b)) : ∃ i0, i = some i0 ∧ i0.zero = some z ∧ i0.size = s ∧ i0.bytes = b := by
  cases i with
  | none => cases h
  | some i0 => simp at h; exact ⟨i0, rfl, h.1, h.2.1, h.2.2⟩

set_option maxRecDepth 4000 in
set_option maxHeartbeats 1600000 in
theorem kept_vals (a : Option Addr) (n ca : Nat) (vs : List (Bool × Int)) (f : FuncId) (bs : Array Value) (p : Bool × Int → Bool) (w : World) (h : IsVals w a n ca vs) (hn : n ≤ 100000) (hen : Enters Tryd.prog f) (hcl : ∀ x ∈ vs, ∀ w1, Below w.heap.size w w1 → Calls Tryd.prog f (#[.agg #[.bool x.1, .int .i64 x.2]] ++ bs) w1 fun e w2 => e = .returned (.bool (p x)) ∧ Below w1.heap.size w1 w2) :
    Calls Tryd.prog 81 #[.slice a n ca, .func (.func f) #[] bs] w fun e w' => ∃ a' m c', e = .returned (.slice a' m c') ∧ m ≤ n ∧ m = (vs.filter p).length ∧ w'.ownsRow w.heap.size 26 2 (.slice a' m c') m (vcells (vs.filter p)) ∧ Below w.heap.size w w' := by
  obtain ⟨i0, hi, hz0, hz1, hz2⟩ := info_parts2 infoV
  have HI : Hid (IsVals w a n ca vs) := h
  have HL : Hid (vs.length = n) := h.len
  have HCL : Hid (∀ x ∈ vs, ∀ w1, Below w.heap.size w w1 → Calls Tryd.prog f (#[.agg #[.bool x.1, .int .i64 x.2]] ++ bs) w1 fun e w2 => e = .returned (.bool (p x)) ∧ Below w1.heap.size w1 w2) := hcl
  have HEN : Hid (Enters Tryd.prog f) := hen
  clear h hcl hen
  go_enter Tryd.func81, Tryd.ntmps81
  go_wp2_with (at_make; refine wpList_make_own _ rfl _ _ 23 rfl w.heap.size 26 i0 (.agg #[.bool false, .int .i64 0]) 2 Tryd.underlying23 hi hz0 hz1 _ _ _ n rfl rfl rfl ?d2 ?d3 (Nat.le_refl _) ?_)
  case d2 => rw [hz2]; omega
  case d3 => unfold maxLen; omega
  intro w3 hown3 hgrow3
  have B3 : Hid (Below w.heap.size w w3) := below_make (Below.refl _ _) hgrow3 (Nat.le_refl _)
  have O3 : Hid (w3.ownsRow w.heap.size 26 2 (.slice (some ⟨w.heap.size, 0, none⟩) 0 n) 0 []) := hown3
  clear hown3 hgrow3
  go_wp2_with fail
  go_loopw [5, 13] (fun v i wr => ∃ (k m : Nat) (a' : Option Addr) (c' : Nat), k ≤ n ∧ m ≤ k ∧ i = .int .i64 k ∧ v = .slice a' m c' ∧ wr.ownsRow w.heap.size 26 2 (.slice a' m c') m (vcells ((vs.take k).filter p)) ∧ Below w.heap.size w wr) (fun _ i _ => n - (intOf i).toNat)
  case atStart => exact ⟨0, 0, _, _, Nat.zero_le _, Nat.le_refl _, rfl, rfl, O3.out, B3.out⟩
  case round =>
    obtain ⟨k, m, a', c', hk, hmk, rfl, rfl, ho, hnx⟩ := hrel
    have HO : Hid (wr.ownsRow w.heap.size 26 2 (.slice a' m c') m (vcells ((vs.take k).filter p))) := ho
    have HN : Hid (Below w.heap.size w wr) := hnx
    have hsr := hnx.size
    clear ho
    by_cases hlt : k < n
    · obtain ⟨b, off, rfl, hbl, hc⟩ := HI.out.cells (by omega)
      have hkl : k < vs.length := by rw [HL.out]; exact hlt
      have h0 : wr.cell? ⟨b, off + k * 2, none⟩ = some (.bool (vs.getD k vd).1) := by rw [hnx.cell (p := ⟨b, off + k * 2, none⟩) hbl]; exact (hc k hlt).1
      have h1 : wr.cell? ⟨b, off + k * 2 + 1, none⟩ = some (.int .i64 (vs.getD k vd).2) := by rw [hnx.cell (p := ⟨b, off + k * 2 + 1, none⟩) hbl]; exact (hc k hlt).2
      have HF : Hid ((vs.take (k + 1)).filter p = (vs.take k).filter p ++ (if p (vs.getD k vd) then [vs.getD k vd] else [])) := by
        show _ = _
        rw [take_succ_vd hkl, List.filter_append, List.filter_cons]
        rfl
      have CA := HCL.out _ (getD_mem_vd hkl)
      generalize vs.getD k vd = x at h0 h1 HF CA
      obtain ⟨xb, xn⟩ := x
      simp only at h0 h1 CA
      have CALL : Hid (Calls Tryd.prog f (#[.agg #[.bool xb, .int .i64 xn]] ++ bs) (wr.alloc (.cells #[.bool xb, .int .i64 xn] 26)) fun e w2 => e = .returned (.bool (p (xb, xn))) ∧ Below (wr.alloc (.cells #[.bool xb, .int .i64 xn] 26)).heap.size (wr.alloc (.cells #[.bool xb, .int .i64 xn] 26)) w2) := CA _ (hnx.alloc hsr _)
      clear hc hnx hkl CA hbl
      go_wp2_with fail
      rw [HEN.out]
      refine Calls.mono CALL.out ?_
      rintro e w2 ⟨rfl, hb2⟩
      have bc := Frame.bcell hb2
      have hs2 := bc.2.2
      rw [World.size_alloc] at hs2
      have x0 : w2.cell? ⟨wr.heap.size, 0, none⟩ = some (.bool xb) := by rw [bc.1 _ _ (by simp)]; go_simp
      have x1 : w2.cell? ⟨wr.heap.size, 1, none⟩ = some (.int .i64 xn) := by rw [bc.1 _ _ (by simp)]; go_simp
      have HO1 : Hid (w2.ownsRow w.heap.size 26 2 (.slice a' m c') m (vcells ((vs.take k).filter p))) := own_below (own_below HO.out ((Below.refl _ _).alloc (Nat.le_refl _) _)) hb2
      have HN1 : Hid (Below w.heap.size w w2) := Frame.next (HN.out.alloc hsr _) hb2 (by simp; omega)
      have HO2 : Hid ((w2.alloc (.cells #[.bool xb, .int .i64 xn] 26)).ownsRow w.heap.size 26 2 (.slice a' m c') m (vcells ((vs.take k).filter p))) := own_below HO1.out ((Below.refl _ _).alloc (Nat.le_refl _) _)
      have HN2 : Hid (Below w.heap.size w (w2.alloc (.cells #[.bool xb, .int .i64 xn] 26))) := HN1.out.alloc HN1.out.size _
      have S2 : Hid (0 < 1 → ∃ ad, (some ⟨w2.heap.size, 0, none⟩ : Option Addr) = some ad ∧ ∀ j u, ([.bool xb, .int .i64 xn] : List Value)[j]? = some u → (w2.alloc (.cells #[.bool xb, .int .i64 xn] 26)).cell? (ad.add j) = some u) := news_val w2 _ _ _
      clear hb2 CALL bc
      cases hv : p (xb, xn)
      · have F : Hid ((vs.take (k + 1)).filter p = (vs.take k).filter p) := by show _ = _; rw [HF.out, hv]; exact List.append_nil _
        clear hv HF HO2 HN2 S2 x0 x1
        go_wp2_with fail
        go_roundw
        case rel => exact ⟨k + 1, m, a', c', by omega, by omega, by go_num, rfl, by rw [F.out]; exact HO1.out, HN1.out⟩
        case measure => simp [intOf]; omega
      · have F : Hid ((vs.take (k + 1)).filter p = (vs.take k).filter p ++ [(xb, xn)]) := by show _ = _; rw [HF.out, hv]; rfl
        clear hv HF
        go_wp2_with (at_builtin; refine App.wpList_append_all _ rfl _ _ 23 rfl w.heap.size 26 i0 (.agg #[.bool false, .int .i64 0]) 2 16 Tryd.underlying23 hi hz0 hz1 hz2 rfl (by decide) _ _ _ rfl HO2.out _ 1 _ [.bool xb, .int .i64 xn] rfl rfl S2.out (by simp [Value.oneCell']) (by unfold maxLen; omega) (by omega) HN2.out.size ?_)
        intro a4 c4 w4 hown4 hgrow4
        have O4 : Hid (w4.ownsRow w.heap.size 26 2 (.slice a4 (m + 1) c4) (m + 1) (vcells ((vs.take (k + 1)).filter p))) := by show World.ownsRow _ _ _ _ _ _ _; rw [F.out, vcells_append]; exact hown4
        have N4 : Hid (Below w.heap.size w w4) := below_app HN2.out HO2.out hgrow4 HN2.out.size (Nat.le_refl _)
        clear hown4 hgrow4 x0 x1
        go_wp2
        go_roundw
        case rel => exact ⟨k + 1, m + 1, a4, c4, by omega, by omega, by go_num, rfl, O4.out, N4.out⟩
        case measure => simp [intOf]; omega
    · have F : Hid (wr.ownsRow w.heap.size 26 2 (.slice a' m c') m (vcells (vs.filter p))) := by have := HO.out; rwa [List.take_of_length_le (by rw [HL.out]; omega)] at this
      have hm : m = (vs.filter p).length := by have := F.out.1; rw [vcells_length] at this; omega
      have HM : Hid (m = (vs.filter p).length) := hm
      clear hnx hm
      go_wp2
      go_ret
      exact ⟨_, _, _, rfl, by omega, HM.out, F.out, HN.out⟩


end Go.Proofs.YtdlcjcobfckncaaDoor.Sv
