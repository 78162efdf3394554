/-
  Contracts of CountWhere, of the program and of the model.
-/
import Derived.Test.YtdlcjcobfckncaaDoorSv
import Derived.Test.YtdlcjcobfckncaaDoorCmp
namespace Go.Proofs.YtdlcjcobfckncaaDoor.Cw
open Go.RowKit
open Go.Proofs.YtdlcjcobfckncaaDoor.Frame Go.Proofs.YtdlcjcobfckncaaDoor.Mem Go.Proofs.YtdlcjcobfckncaaDoor.Val Go.Proofs.YtdlcjcobfckncaaDoor.Vals Go.Proofs.YtdlcjcobfckncaaDoor.Mis Go.Proofs.YtdlcjcobfckncaaDoor.Sv

def told (kind : Int) (vb : Bool) (vn : Int) (x : Bool × Int) : Bool := Cmp.cmpT kind x.1 x.2 vb vn == 2
def countB (vs : List (Bool × Int)) (kind : Int) (vb : Bool) (vn : Int) : Bool := sumB vs && (inB kind 0 2 && goodV vb vn)
def countN (vs : List (Bool × Int)) (kind : Int) (vb : Bool) (vn : Int) : Int := if countB vs kind vb vn then ((vs.filter (told kind vb vn)).length : Int) else 0

set_option maxRecDepth 4000 in
theorem count_closure (xb : Bool) (xn : Int) (kb qb : Nat) (kind : Int) (vb : Bool) (vn : Int) (w : World) (hk : w.cell? ⟨kb, 0, none⟩ = some (.int .i64 kind)) (h0 : w.cell? ⟨qb, 0, none⟩ = some (.bool vb)) (h1 : w.cell? ⟨qb, 1, none⟩ = some (.int .i64 vn)) (hT : Cmp.CmpTab w)
    (hK : inB kind 0 2 = true) (hx : goodV xb xn = true) (hv : goodV vb vn = true) :
    Calls Tryd.prog 82 #[.agg #[.bool xb, .int .i64 xn], .pointer (some ⟨kb, 0, none⟩), .pointer (some ⟨qb, 0, none⟩)] w fun e w' => e = .returned (.bool (told kind vb vn (xb, xn))) ∧ Below w.heap.size w w' := by
  have E : Hid ((Cmp.cmpV kind xb xn vb vn == 2) = told kind vb vn (xb, xn)) := by
    show _ = _
    have hb : Cmp.cmpB kind xb xn vb vn = true := by unfold Cmp.cmpB; rw [hK, hx, hv]; rfl
    unfold Cmp.cmpV told
    rw [if_pos hb]
  have hbb : Below w.heap.size w (w.alloc (.cells #[.bool xb, .int .i64 xn] 26)) := (Below.refl _ _).alloc (Nat.le_refl _) _
  have HT : Hid (Cmp.CmpTab (w.alloc (.cells #[.bool xb, .int .i64 xn] 26))) := hT.below hbb
  have g0 := Frame.held_cell hbb hk
  have g1 := Frame.held_cell hbb h0
  have g2 := Frame.held_cell hbb h1
  clear hT hK hx hv hk h0 h1 hbb
  go_enter Tryd.func82, Tryd.ntmps82
  go_wp2_with fail
  refine (Cmp.impl_Compare kind xb vb xn vn _ HT.out).mono ?_
  rintro e w1 ⟨rfl, hb1⟩
  have B1 : Hid (Below w.heap.size w w1) := Frame.next ((Below.refl _ _).alloc (Nat.le_refl _) _) hb1 (by simp)
  clear hb1 g0 g1 g2
  go_wp2
  go_ret
  rw [E.out]
  exact ⟨rfl, B1.out⟩

theorem count_no {vs : List (Bool × Int)} {kind : Int} {vb : Bool} {vn : Int} (h : countB vs kind vb vn = false) : countN vs kind vb vn = 0 := if_neg (by rw [h]; exact Bool.false_ne_true)

set_option maxRecDepth 4000 in
set_option maxHeartbeats 1600000 in
theorem impl_CountWhere (a : Option Addr) (n c : Nat) (vs : List (Bool × Int)) (kind : Int) (vb : Bool) (vn : Int) (w : World) (h : IsVals w a n c vs) (hT : Cmp.CmpTab w) :
    Calls Tryd.prog 31 #[.slice a n c, .int .i64 kind, .agg #[.bool vb, .int .i64 vn]] w fun e w' => e = .returned (.tuple #[.int .i64 (countN vs kind vb vn), .bool (countB vs kind vb vn)]) ∧ Below w.heap.size w w' := by
  have HI : Hid (IsVals w a n c vs) := h
  have HL : Hid (vs.length = n) := h.len
  have HT : Hid (Cmp.CmpTab w) := hT
  have B0 : Hid (Below w.heap.size w ((w.alloc (.cells #[.int .i64 kind] 3)).alloc (.cells #[.bool vb, .int .i64 vn] 26))) := ((Below.refl _ _).alloc (Nat.le_refl _) _).alloc (by simp) _
  have hs0 : ((w.alloc (.cells #[.int .i64 kind] 3)).alloc (.cells #[.bool vb, .int .i64 vn] 26)).heap.size = w.heap.size + 2 := by simp
  clear h hT
  cases hs : sumB vs
  · have HS : Hid (sumB vs = false) := hs
    have e : countB vs kind vb vn = false := by unfold countB; rw [hs]; rfl
    rw [count_no e, e]
    clear hs e
    go_enter Tryd.func31, Tryd.ntmps31
    go_wp2_with fail
    refine (areSummable _ _ _ vs _ (HI.out.below B0.out)).mono ?_
    rintro e w1 ⟨rfl, hb1⟩
    rw [HS.out]
    have B1 : Hid (Below w.heap.size w w1) := Frame.next B0.out hb1 (by rw [hs0]; omega)
    clear hb1
    go_wp2_with fail
    go_ret2
    exact ⟨rfl, B1.out⟩
  have HS : Hid (sumB vs = true) := hs
  cases hk : inB kind 0 2
  · have HK : Hid (inB kind 0 2 = false) := hk
    have e : countB vs kind vb vn = false := by unfold countB; rw [hk, Bool.false_and, Bool.and_false]
    rw [count_no e, e]
    clear hs hk e
    go_enter Tryd.func31, Tryd.ntmps31
    go_wp2_with fail
    refine (areSummable _ _ _ vs _ (HI.out.below B0.out)).mono ?_
    rintro e w1 ⟨rfl, hb1⟩
    rw [HS.out]
    have bc := Frame.bcell hb1
    rw [hs0] at bc
    have k0 : w1.cell? ⟨w.heap.size, 0, none⟩ = some (.int .i64 kind) := by rw [bc.1 _ _ (by omega)]; go_simp
    have B1 : Hid (Below w.heap.size w w1) := Frame.next B0.out hb1 (by rw [hs0]; omega)
    clear hb1 bc
    go_wp2_with fail
    refine (Cmp.impl_isKind kind _).mono ?_
    rintro e w' ⟨rfl, hw'⟩; have hw'' := hw'.symm; clear hw'; subst hw''
    rw [HK.out]
    go_wp2_with fail
    go_ret2
    exact ⟨rfl, B1.out⟩
  have HK : Hid (inB kind 0 2 = true) := hk
  have hn40 : n ≤ 40 := by
    unfold sumB at hs
    rw [Bool.and_eq_true, decide_eq_true_eq, HL.out] at hs
    exact hs.1
  have HAG : Hid (∀ x ∈ vs, goodV x.1 x.2 = true) := by
    unfold sumB at hs
    rw [Bool.and_eq_true] at hs
    exact List.all_eq_true.1 hs.2
  cases hv : goodV vb vn
  · have HV : Hid (goodV vb vn = false) := hv
    have e : countB vs kind vb vn = false := by unfold countB; rw [hv, Bool.and_false, Bool.and_false]
    rw [count_no e, e]
    clear hs hk hv e
    go_enter Tryd.func31, Tryd.ntmps31
    go_wp2_with fail
    refine (areSummable _ _ _ vs _ (HI.out.below B0.out)).mono ?_
    rintro e w1 ⟨rfl, hb1⟩
    rw [HS.out]
    have bc := Frame.bcell hb1
    rw [hs0] at bc
    have k0 : w1.cell? ⟨w.heap.size, 0, none⟩ = some (.int .i64 kind) := by rw [bc.1 _ _ (by omega)]; go_simp
    have q0 : w1.cell? ⟨w.heap.size + 1, 0, none⟩ = some (.bool vb) := by rw [bc.1 _ _ (by omega)]; go_simp
    have q1 : w1.cell? ⟨w.heap.size + 1, 1, none⟩ = some (.int .i64 vn) := by rw [bc.1 _ _ (by omega)]; go_simp
    have B1 : Hid (Below w.heap.size w w1) := Frame.next B0.out hb1 (by rw [hs0]; omega)
    clear hb1 bc
    go_wp2_with fail
    refine (Cmp.impl_isKind kind _).mono ?_
    rintro e w' ⟨rfl, hw'⟩; have hw'' := hw'.symm; clear hw'; subst hw''
    rw [HK.out]
    go_wp2_with fail
    refine (impl_GoodValue vb vn _).mono ?_
    rintro e w2 ⟨rfl, hb2⟩
    rw [HV.out]
    have B2 : Hid (Below w.heap.size w w2) := Frame.next B1.out hb2 B1.out.size
    clear hb2 k0 q0 q1
    go_wp2_with fail
    go_ret2
    exact ⟨rfl, B2.out⟩
  have HV : Hid (goodV vb vn = true) := hv
  have e : countB vs kind vb vn = true := by unfold countB; rw [hs, hk, hv]; rfl
  have e2 : countN vs kind vb vn = ((vs.filter (told kind vb vn)).length : Int) := if_pos e
  rw [e2, e]
  clear hs hk hv e e2
  go_enter Tryd.func31, Tryd.ntmps31
  go_wp2_with fail
  refine (areSummable _ _ _ vs _ (HI.out.below B0.out)).mono ?_
  rintro e w1 ⟨rfl, hb1⟩
  rw [HS.out]
  have bc := Frame.bcell hb1
  rw [hs0] at bc
  have k0 : w1.cell? ⟨w.heap.size, 0, none⟩ = some (.int .i64 kind) := by rw [bc.1 _ _ (by omega)]; go_simp
  have q0 : w1.cell? ⟨w.heap.size + 1, 0, none⟩ = some (.bool vb) := by rw [bc.1 _ _ (by omega)]; go_simp
  have q1 : w1.cell? ⟨w.heap.size + 1, 1, none⟩ = some (.int .i64 vn) := by rw [bc.1 _ _ (by omega)]; go_simp
  have B1 : Hid (Below w.heap.size w w1) := Frame.next B0.out hb1 (by rw [hs0]; omega)
  clear hb1 bc
  go_wp2_with fail
  refine (Cmp.impl_isKind kind _).mono ?_
  rintro e w' ⟨rfl, hw'⟩; have hw'' := hw'.symm; clear hw'; subst hw''
  rw [HK.out]
  go_wp2_with fail
  refine (impl_GoodValue vb vn _).mono ?_
  rintro e w2 ⟨rfl, hb2⟩
  rw [HV.out]
  have B2 : Hid (Below w.heap.size w w2) := Frame.next B1.out hb2 B1.out.size
  have K2 : Hid (w2.cell? ⟨w.heap.size, 0, none⟩ = some (.int .i64 kind) ∧ w2.cell? ⟨w.heap.size + 1, 0, none⟩ = some (.bool vb) ∧ w2.cell? ⟨w.heap.size + 1, 1, none⟩ = some (.int .i64 vn)) := ⟨Frame.held_cell hb2 k0, Frame.held_cell hb2 q0, Frame.held_cell hb2 q1⟩
  clear hb2 k0 q0 q1
  have HCL : Hid (∀ x ∈ vs, ∀ w3, Below w2.heap.size w2 w3 → Calls Tryd.prog 82 (#[.agg #[.bool x.1, .int .i64 x.2]] ++ #[.pointer (some ⟨w.heap.size, 0, none⟩), .pointer (some ⟨w.heap.size + 1, 0, none⟩)]) w3 fun e w4 => e = .returned (.bool (told kind vb vn x)) ∧ Below w3.heap.size w3 w4) := fun x hx w3 hb3 =>
    count_closure x.1 x.2 w.heap.size (w.heap.size + 1) kind vb vn w3 (Frame.held_cell hb3 K2.out.1) (Frame.held_cell hb3 K2.out.2.1) (Frame.held_cell hb3 K2.out.2.2) (HT.out.below (Frame.next B2.out hb3 B2.out.size)) HK.out (HAG.out x hx) HV.out
  go_wp2_with fail
  refine (kept_vals _ _ _ vs 82 _ (told kind vb vn) _ (HI.out.below B2.out) (by omega) (enters Tryd.func82 (by kernel_rfl) rfl) HCL.out).mono ?_
  rintro e w3 ⟨a3, m3, c3, rfl, hm3, hmm, ho3, hb3⟩
  have HM : Hid (m3 = (vs.filter (told kind vb vn)).length) := hmm
  have B3 : Hid (Below w.heap.size w w3) := Frame.next B2.out hb3 B2.out.size
  clear hmm ho3 hb3
  go_wp2_with fail
  go_ret2
  rw [HM.out]
  exact ⟨rfl, B3.out⟩

theorem filter_in {vs : List (Bool × Int)} {p : Bool × Int → Bool} {k : Nat} (h : k < vs.length) : (vs.take (k + 1)).filter p = (vs.take k).filter p ++ (if p (vs.getD k vd) then [vs.getD k vd] else []) := by
  rw [take_succ_vd h, List.filter_append, List.filter_cons]
  rfl

set_option maxRecDepth 4000 in
set_option maxHeartbeats 1600000 in
theorem spec_CountWhere (a : Option Addr) (n c : Nat) (vs : List (Bool × Int)) (kind : Int) (vb : Bool) (vn : Int) (w : World) (h : IsVals w a n c vs) :
    Calls Tryd.prog 32 #[.slice a n c, .int .i64 kind, .agg #[.bool vb, .int .i64 vn]] w fun e w' => e = .returned (.tuple #[.int .i64 (countN vs kind vb vn), .bool (countB vs kind vb vn)]) ∧ Below w.heap.size w w' := by
  have HI : Hid (IsVals w a n c vs) := h
  have HL : Hid (vs.length = n) := h.len
  have B0 : Hid (Below w.heap.size w (w.alloc (.cells #[.bool vb, .int .i64 vn] 26))) := (Below.refl _ _).alloc (Nat.le_refl _) _
  have hs0 : (w.alloc (.cells #[.bool vb, .int .i64 vn] 26)).heap.size = w.heap.size + 1 := by simp
  clear h
  cases hs : sumB vs
  · have HS : Hid (sumB vs = false) := hs
    have e : countB vs kind vb vn = false := by unfold countB; rw [hs]; rfl
    rw [count_no e, e]
    clear hs e
    go_enter Tryd.func32, Tryd.ntmps32
    go_wp2_with fail
    refine (l4Values _ _ _ vs _ (HI.out.below B0.out)).mono ?_
    rintro e w1 ⟨rfl, hb1⟩
    rw [HS.out]
    have B1 : Hid (Below w.heap.size w w1) := Frame.next B0.out hb1 (by rw [hs0]; omega)
    clear hb1
    go_wp2_with fail
    go_ret2
    exact ⟨rfl, B1.out⟩
  have HS : Hid (sumB vs = true) := hs
  cases hk : inB kind 0 2
  · have HK : Hid (inB kind 0 2 = false) := hk
    have e : countB vs kind vb vn = false := by unfold countB; rw [hk, Bool.false_and, Bool.and_false]
    rw [count_no e, e]
    clear hs hk e
    go_enter Tryd.func32, Tryd.ntmps32
    go_wp2_with fail
    refine (l4Values _ _ _ vs _ (HI.out.below B0.out)).mono ?_
    rintro e w1 ⟨rfl, hb1⟩
    rw [HS.out]
    have B1 : Hid (Below w.heap.size w w1) := Frame.next B0.out hb1 (by rw [hs0]; omega)
    clear hb1
    go_wp2_with fail
    refine (spec_In kind 0 2 _).mono ?_
    rintro e w' ⟨rfl, hw'⟩; have hw'' := hw'.symm; clear hw'; subst hw''
    rw [HK.out]
    go_wp2_with fail
    go_ret2
    exact ⟨rfl, B1.out⟩
  have HK : Hid (inB kind 0 2 = true) := hk
  have hn40 : n ≤ 40 := by
    unfold sumB at hs
    rw [Bool.and_eq_true, decide_eq_true_eq, HL.out] at hs
    exact hs.1
  cases hv : goodV vb vn
  · have HV : Hid (goodV vb vn = false) := hv
    have e : countB vs kind vb vn = false := by unfold countB; rw [hv, Bool.and_false, Bool.and_false]
    rw [count_no e, e]
    clear hs hk hv e
    go_enter Tryd.func32, Tryd.ntmps32
    go_wp2_with fail
    refine (l4Values _ _ _ vs _ (HI.out.below B0.out)).mono ?_
    rintro e w1 ⟨rfl, hb1⟩
    rw [HS.out]
    have bc := Frame.bcell hb1
    rw [hs0] at bc
    have q0 : w1.cell? ⟨w.heap.size, 0, none⟩ = some (.bool vb) := by rw [bc.1 _ _ (by omega)]; go_simp
    have q1 : w1.cell? ⟨w.heap.size, 1, none⟩ = some (.int .i64 vn) := by rw [bc.1 _ _ (by omega)]; go_simp
    have B1 : Hid (Below w.heap.size w w1) := Frame.next B0.out hb1 (by rw [hs0]; omega)
    clear hb1 bc
    go_wp2_with fail
    refine (spec_In kind 0 2 _).mono ?_
    rintro e w' ⟨rfl, hw'⟩; have hw'' := hw'.symm; clear hw'; subst hw''
    rw [HK.out]
    go_wp2_with fail
    refine (spec_GoodValue vb vn _).mono ?_
    rintro e w2 ⟨rfl, hb2⟩
    rw [HV.out]
    have B2 : Hid (Below w.heap.size w w2) := Frame.next B1.out hb2 B1.out.size
    clear hb2 q0 q1
    go_wp2_with fail
    go_ret2
    exact ⟨rfl, B2.out⟩
  have HV : Hid (goodV vb vn = true) := hv
  have e : countB vs kind vb vn = true := by unfold countB; rw [hs, hk, hv]; rfl
  have e2 : countN vs kind vb vn = ((vs.filter (told kind vb vn)).length : Int) := if_pos e
  rw [e2, e]
  clear hs hk hv e e2
  go_enter Tryd.func32, Tryd.ntmps32
  go_wp2_with fail
  refine (l4Values _ _ _ vs _ (HI.out.below B0.out)).mono ?_
  rintro e w1 ⟨rfl, hb1⟩
  rw [HS.out]
  have bc := Frame.bcell hb1
  rw [hs0] at bc
  have q0 : w1.cell? ⟨w.heap.size, 0, none⟩ = some (.bool vb) := by rw [bc.1 _ _ (by omega)]; go_simp
  have q1 : w1.cell? ⟨w.heap.size, 1, none⟩ = some (.int .i64 vn) := by rw [bc.1 _ _ (by omega)]; go_simp
  have B1 : Hid (Below w.heap.size w w1) := Frame.next B0.out hb1 (by rw [hs0]; omega)
  clear hb1 bc
  go_wp2_with fail
  refine (spec_In kind 0 2 _).mono ?_
  rintro e w' ⟨rfl, hw'⟩; have hw'' := hw'.symm; clear hw'; subst hw''
  rw [HK.out]
  go_wp2_with fail
  refine (spec_GoodValue vb vn _).mono ?_
  rintro e w2 ⟨rfl, hb2⟩
  rw [HV.out]
  have B2 : Hid (Below w.heap.size w w2) := Frame.next B1.out hb2 B1.out.size
  have K2 : Hid (w2.cell? ⟨w.heap.size, 0, none⟩ = some (.bool vb) ∧ w2.cell? ⟨w.heap.size, 1, none⟩ = some (.int .i64 vn)) := ⟨Frame.held_cell hb2 q0, Frame.held_cell hb2 q1⟩
  clear hb2 q0 q1
  go_wp2_with fail
  go_loopw [8, 26] (fun s i wr => ∃ k : Nat, k ≤ n ∧ i = .int .i64 k ∧ s = .int .i64 (((vs.take k).filter (told kind vb vn)).length : Int) ∧ Below w2.heap.size w2 wr) (fun _ i _ => n - (intOf i).toNat)
  case atStart => exact ⟨0, Nat.zero_le _, rfl, rfl, Below.refl _ _⟩
  case round =>
    obtain ⟨k, hk, rfl, rfl, hnx⟩ := hrel
    have HN : Hid (Below w2.heap.size w2 wr) := hnx
    have HNW : Hid (Below w.heap.size w wr) := Frame.next B2.out hnx B2.out.size
    have hsr := hnx.size
    by_cases hlt : k < n
    · obtain ⟨b, off, rfl, hbl, hc⟩ := HI.out.cells (by omega)
      have hkl : k < vs.length := by rw [HL.out]; exact hlt
      have h0 : wr.cell? ⟨b, off + k * 2, none⟩ = some (.bool (vs.getD k vd).1) := by rw [HNW.out.cell (p := ⟨b, off + k * 2, none⟩) hbl]; exact (hc k hlt).1
      have h1 : wr.cell? ⟨b, off + k * 2 + 1, none⟩ = some (.int .i64 (vs.getD k vd).2) := by rw [HNW.out.cell (p := ⟨b, off + k * 2 + 1, none⟩) hbl]; exact (hc k hlt).2
      have HF : Hid ((vs.take (k + 1)).filter (told kind vb vn) = (vs.take k).filter (told kind vb vn) ++ (if told kind vb vn (vs.getD k vd) then [vs.getD k vd] else [])) := filter_in hkl
      have hlen : ((vs.take k).filter (told kind vb vn)).length ≤ k := Nat.le_trans (List.length_filter_le _ _) (by rw [List.length_take]; omega)
      generalize vs.getD k vd = x at h0 h1 HF
      obtain ⟨xb, xn⟩ := x
      simp only at h0 h1
      have c0 := Frame.held_cell ((Below.refl wr.heap.size wr).alloc (Nat.le_refl _) (.cells #[.bool xb, .int .i64 xn] 26)) (Frame.held_cell hnx K2.out.1)
      have c1 := Frame.held_cell ((Below.refl wr.heap.size wr).alloc (Nat.le_refl _) (.cells #[.bool xb, .int .i64 xn] 26)) (Frame.held_cell hnx K2.out.2)
      clear hc hnx hkl hbl
      generalize hq : ((vs.take k).filter (told kind vb vn)).length = q at hlen ⊢
      have HQ : Hid (((vs.take k).filter (told kind vb vn)).length = q) := hq
      clear hq
      go_wp2_with fail
      refine (Cmp.spec_l1Compare kind xb vb xn vn _ HK.out).mono ?_
      rintro e w3 ⟨rfl, hb3⟩
      have N3 : Hid (Below w2.heap.size w2 w3) := Frame.next (HN.out.alloc hsr _) hb3 (by simp; omega)
      clear hb3 c0 c1 h0 h1
      cases hv : told kind vb vn (xb, xn)
      · have F : Hid (((vs.take (k + 1)).filter (told kind vb vn)).length = q) := by show _ = _; rw [HF.out, hv, List.length_append, HQ.out]; rfl
        have hq2 : (Cmp.cmpT kind xb xn vb vn == 2) = false := hv
        clear hv HF
        go_wp2
        go_roundw
        case rel => exact ⟨k + 1, by omega, by go_num, by rw [F.out], N3.out⟩
        case measure => simp [intOf]; omega
      · have F : Hid (((vs.take (k + 1)).filter (told kind vb vn)).length = q + 1) := by show _ = _; rw [HF.out, hv, List.length_append, HQ.out]; rfl
        have hq2 : (Cmp.cmpT kind xb xn vb vn == 2) = true := hv
        clear hv HF
        go_wp2
        go_roundw
        case rel => exact ⟨k + 1, by omega, by go_num, by rw [F.out]; go_num, N3.out⟩
        case measure => simp [intOf]; omega
    · have F : Hid (((vs.take k).filter (told kind vb vn)).length = (vs.filter (told kind vb vn)).length) := by show _ = _; rw [List.take_of_length_le (by rw [HL.out]; omega)]
      clear hnx
      go_wp2
      go_ret2
      rw [F.out]
      exact ⟨rfl, HNW.out⟩


end Go.Proofs.YtdlcjcobfckncaaDoor.Cw
