/-
  SumOf, of the program and of the model.
-/
import Derived.Test.YtdlcjcobfckncaaDoorSgh
import Derived.Test.YtdlcjcobfckncaaDoorSgg
namespace Go.Proofs.YtdlcjcobfckncaaDoor.Sgi
open Go.RowKit
open Go.Proofs.YtdlcjcobfckncaaDoor.Frame Go.Proofs.YtdlcjcobfckncaaDoor.Mem Go.Proofs.YtdlcjcobfckncaaDoor.Val Go.Proofs.YtdlcjcobfckncaaDoor.Vals Go.Proofs.YtdlcjcobfckncaaDoor.Sma Go.Proofs.YtdlcjcobfckncaaDoor.Flt Go.Proofs.YtdlcjcobfckncaaDoor.Sga Go.Proofs.YtdlcjcobfckncaaDoor.Sgb Go.Proofs.YtdlcjcobfckncaaDoor.Sgd Go.Proofs.YtdlcjcobfckncaaDoor.Sge Go.Proofs.YtdlcjcobfckncaaDoor.Sgf Go.Proofs.YtdlcjcobfckncaaDoor.Sgg Go.Proofs.YtdlcjcobfckncaaDoor.Sgh Go.Proofs.YtdlcjcobfckncaaDoor.Sv

structure WF (s : Sm) (n : Nat) : Prop where
  r : s.r = (n : Int)
  k0 : 0 ≤ s.k
  kn : s.k ≤ (n : Int)
  e : (s.k = 0 ∧ s.lb = true ∧ s.l = 0 ∧ s.hb = true ∧ s.h = 0 ∧ s.t = 0) ∨ (0 < s.k ∧ s.lb = false ∧ s.hb = false ∧ -1000 ≤ s.l ∧ s.l ≤ s.h ∧ s.h ≤ 1000 ∧ s.k * s.l ≤ s.t ∧ s.t ≤ s.k * s.h)
theorem WF.tot {s : Sm} {n : Nat} (h : WF s n) : -1000 * (n : Int) ≤ s.t ∧ s.t ≤ 1000 * (n : Int) := by
  obtain ⟨_, k0, kn, e⟩ := h
  rcases e with ⟨_, _, _, _, _, ht⟩ | ⟨_, _, _, h1, h2, h3, h4, h5⟩
  · omega
  · have a1 : s.k * (-1000) ≤ s.k * s.l := Int.mul_le_mul_of_nonneg_left h1 k0
    have a2 : s.k * s.h ≤ s.k * 1000 := Int.mul_le_mul_of_nonneg_left h3 k0
    omega
theorem WF.ends {s : Sm} {n : Nat} (h : WF s n) : goodV s.lb s.l = true ∧ goodV s.hb s.h = true := by
  rcases h.e with ⟨_, a, b, c, d, _⟩ | ⟨_, a, c, h1, h2, h3, _, _⟩
  · rw [a, b, c, d]; exact ⟨rfl, rfl⟩
  · rw [a, c]
    unfold goodV inB
    simp
    omega
theorem good_null {n : Int} (h : goodV true n = true) : n = 0 := by unfold goodV at h; simp at h; exact h.2
theorem wf_none : WF noneS 0 := ⟨rfl, Int.le_refl _, Int.le_refl _, Or.inl ⟨rfl, rfl, rfl, rfl, rfl, rfl⟩⟩
theorem add_null {s : Sm} {vn : Int} : addS s (true, vn) = ⟨s.r + 1, s.k, s.t, s.lb, s.l, s.hb, s.h⟩ := if_pos rfl
theorem add_known {s : Sm} {vn : Int} : addS s (false, vn) = ⟨s.r + 1, s.k + 1, s.t + vn, if lowA s vn then false else s.lb, if lowA s vn then vn else s.l, if highA s vn then false else s.hb, if highA s vn then vn else s.h⟩ := if_neg Bool.false_ne_true
theorem wf_add {s : Sm} {n : Nat} {v : Bool × Int} (h : WF s n) (hv : goodV v.1 v.2 = true) : WF (addS s v) (n + 1) := by
  obtain ⟨vb, vn⟩ := v
  obtain ⟨hr, k0, kn, e⟩ := h
  cases vb
  · have hb := goodV_bound hv
    simp only at hb
    rw [add_known]
    refine ⟨by show s.r + 1 = _; rw [hr]; simp, by show 0 ≤ s.k + 1; omega, by show s.k + 1 ≤ _; simp; omega, Or.inr ?_⟩
    rcases e with ⟨h0, _, _, _, _, ht⟩ | ⟨hp, hlb, hhb, h1, h2, h3, h4, h5⟩
    · have el : lowA s vn = true := by unfold lowA; simp [h0]
      have eh : highA s vn = true := by unfold highA; simp [h0]
      simp only [el, eh, if_true, h0, ht]
      refine ⟨by omega, trivial, trivial, by omega, by omega, by omega, by omega, by omega⟩
    · have nk : ¬ s.k = 0 := by omega
      have hle : (if lowA s vn then vn else s.l) ≤ s.l ∧ (if lowA s vn then vn else s.l) ≤ vn ∧ -1000 ≤ (if lowA s vn then vn else s.l) := by
        unfold lowA
        by_cases hl : vn < s.l <;> simp [hl, nk] <;> omega
      have hge : s.h ≤ (if highA s vn then vn else s.h) ∧ vn ≤ (if highA s vn then vn else s.h) ∧ (if highA s vn then vn else s.h) ≤ 1000 := by
        unfold highA
        by_cases hl : s.h < vn <;> simp [hl, nk] <;> omega
      have b1 : (if lowA s vn then false else s.lb) = false := by rw [hlb]; split <;> rfl
      have b2 : (if highA s vn then false else s.hb) = false := by rw [hhb]; split <;> rfl
      refine ⟨by show 0 < s.k + 1; omega, b1, b2, hle.2.2, ?_, hge.2.2, ?_, ?_⟩
      · show (if lowA s vn then vn else s.l) ≤ (if highA s vn then vn else s.h)
        omega
      · show (s.k + 1) * (if lowA s vn then vn else s.l) ≤ s.t + vn
        generalize (if lowA s vn then vn else s.l) = x at hle
        have a1 : s.k * x ≤ s.k * s.l := Int.mul_le_mul_of_nonneg_left hle.1 k0
        rw [Int.add_mul, Int.one_mul]
        omega
      · show s.t + vn ≤ (s.k + 1) * (if highA s vn then vn else s.h)
        generalize (if highA s vn then vn else s.h) = x at hge
        have a1 : s.k * s.h ≤ s.k * x := Int.mul_le_mul_of_nonneg_left hge.1 k0
        rw [Int.add_mul, Int.one_mul]
        omega
  · rw [add_null]
    exact ⟨by show s.r + 1 = _; rw [hr]; simp, k0, by show s.k ≤ _; simp; omega, e⟩
theorem tog_add {s : Sm} {n : Nat} {v : Bool × Int} (h : WF s n) (hn : n ≤ 1000) (hv : goodV v.1 v.2 = true) : tog s (oneS v) = addS s v := by
  obtain ⟨vb, vn⟩ := v
  have ht := h.tot
  have hg := h.ends
  have hb := goodV_bound hv
  simp only at hv hb
  have e3 : IntKind.i64.wrap (s.t + vn) = s.t + vn := by rw [IntKind.wrap_i64]; omega
  unfold tog oneS endN
  simp only
  rw [end_less hg.1 hv, end_more hg.2 hv, e3]
  cases vb
  · rw [add_known]
    rcases h.e with ⟨h0, a, b, c, d, _⟩ | ⟨hp, a, c, _, _, _, _, _⟩
    · have el : lowA s vn = true := by unfold lowA; simp [h0]
      have eh : highA s vn = true := by unfold highA; simp [h0]
      rw [el, eh, a, c]
      rfl
    · have nk : (s.k == 0) = false := by rw [beq_eq_false_iff_ne]; omega
      have el : lowA s vn = decide (vn < s.l) := by unfold lowA; rw [nk, Bool.false_or]
      have eh : highA s vn = decide (s.h < vn) := by unfold highA; rw [nk, Bool.false_or]
      rw [el, eh, a, c]
      by_cases h1 : vn < s.l <;> by_cases h2 : s.h < vn <;> simp [h1, h2, kn]
  · rw [add_null]
    have hz := good_null hv
    subst hz
    rcases h.e with ⟨h0, a, b, c, d, _⟩ | ⟨hp, a, c, _, _, _, _, _⟩
    · rw [a, b, c, d]
      simp [kn]
    · rw [a, c]
      simp [kn]
theorem wf_good {s : Sm} {n : Nat} (h : WF s n) (hn : n ≤ 1000) : s.good = true := by
  have ht := h.tot
  have hg := h.ends
  have hr := h.r
  have hk0 := h.k0
  have hkn := h.kn
  unfold Sm.good goodS
  rw [hg.1, hg.2, inB_yes (n := s.r) (by omega), inB_yes (n := s.k) (by omega), inB_yes (n := s.t) (by omega)]
  simp only [Bool.true_and]
  rcases h.e with ⟨h0, a, _, c, _, t0⟩ | ⟨hp, a, c, _, h2, _, h4, h5⟩
  · rw [if_pos h0, a, c, t0]
    rfl
  · rw [if_neg (by omega), a, c]
    unfold liesB
    simp [h2, h4, h5]
def sumA (vs : List (Bool × Int)) : Sm := vs.foldl addS noneS
theorem sumA_snoc (l : List (Bool × Int)) (v : Bool × Int) : sumA (l ++ [v]) = addS (sumA l) v := by unfold sumA; rw [List.foldl_append]; rfl
theorem sum_wf (l : List (Bool × Int)) : l.length ≤ 1000 → allGood l = true → WF (sumA l) l.length ∧ sumL l = sumA l := by
  refine take_ind (P := fun l => l.length ≤ 1000 → allGood l = true → WF (sumA l) l.length ∧ sumL l = sumA l) (fun _ _ => ⟨wf_none, rfl⟩) (fun l v ih hl hg => ?_) l
  unfold allGood at hg ih
  rw [List.all_append, Bool.and_eq_true] at hg
  rw [List.length_append] at hl
  simp only [List.length_singleton] at hl
  have hv : goodV v.1 v.2 = true := by have := hg.2; simp at this; exact this
  obtain ⟨i1, i2⟩ := ih (by omega) hg.1
  rw [sumA_snoc, sumL_snoc, List.length_append, i2]
  exact ⟨wf_add i1 hv, tog_add i1 (by omega) hv⟩
theorem sum_parts {vs : List (Bool × Int)} (h : sumB vs = true) : vs.length ≤ 40 ∧ allGood vs = true := by
  unfold sumB at h
  rw [Bool.and_eq_true, decide_eq_true_eq] at h
  exact h
def sumV (vs : List (Bool × Int)) : Sm := if sumB vs then sumA vs else zeroS

set_option maxRecDepth 8000 in
set_option maxHeartbeats 3200000 in
theorem impl_SumOf (a : Option Addr) (n ca : Nat) (vs : List (Bool × Int)) (w : World) (h : IsVals w a n ca vs) (hT : Cmp.CmpTab w) : Calls Tryd.prog 11 #[.slice a n ca] w fun e w' => e = .returned (.tuple #[.agg #[.int .i64 (sumV vs).r, .int .i64 (sumV vs).k, .int .i64 (sumV vs).t, .bool (sumV vs).lb, .int .i64 (sumV vs).l, .bool (sumV vs).hb, .int .i64 (sumV vs).h], .bool (sumB vs)]) ∧ Below w.heap.size w w' := by
  have HI : Hid (IsVals w a n ca vs) := h
  have HL : Hid (vs.length = n) := h.len
  have HT : Hid (Cmp.CmpTab w) := hT
  have B0 : Hid (Below w.heap.size w (w.alloc (.cells #[.int .i64 0, .int .i64 0, .int .i64 0, .bool false, .int .i64 0, .bool false, .int .i64 0] 28))) := (Below.refl _ _).alloc (Nat.le_refl _) _
  have R0 : Hid (Own7 (w.alloc (.cells #[.int .i64 0, .int .i64 0, .int .i64 0, .bool false, .int .i64 0, .bool false, .int .i64 0] 28)) w.heap.size zeroS) := Own7.new w zeroS
  have hr := Nat.le_refl w.heap.size
  clear h hT
  cases hs : sumB vs
  · have HS : Hid (sumB vs = false) := hs
    have e : sumV vs = zeroS := if_neg (by rw [hs]; exact Bool.false_ne_true)
    rw [e]
    clear e hs
    go_enter Tryd.func11, Tryd.ntmps11
    go_wp2_with fail
    refine (areSummable _ _ _ vs _ (HI.out.below B0.out)).mono ?_
    rintro e w1 ⟨rfl, hb1⟩
    rw [HS.out]
    obtain ⟨c0, c1, c2, c3, c4, c5, c6⟩ := (R0.out.call hb1).c
    have g := (R0.out.call hb1).f
    have B1 : Hid (Below w.heap.size w w1) := Frame.next B0.out hb1 B0.out.size
    clear hb1
    go_wp2
    refine bodyPost_ret (v := .tuple #[.agg #[.int .i64 0, .int .i64 0, .int .i64 0, .bool false, .int .i64 0, .bool false, .int .i64 0], .bool false]) (by simp [results, Tryd.results11, go_sem, c0, c1, c2, c3, c4, c5, c6]) rfl ?_
    exact ⟨rfl, (((((((B1.out.setCell hr _).setCell hr _).setCell hr _).setCell hr _).setCell hr _).setCell hr _).setCell hr _)⟩
  · have HS : Hid (sumB vs = true) := hs
    obtain ⟨h40, hag⟩ := sum_parts hs
    obtain ⟨wf, hsl⟩ := sum_wf vs (by omega) hag
    have e : sumV vs = sumA vs := if_pos hs
    have HG : Hid (fit (sumL vs) = sumA vs ∧ (sumL vs).good = true) := by rw [hsl]; exact ⟨if_pos (wf_good wf (by omega)), wf_good wf (by omega)⟩
    have hn : n ≤ 100000 := by rw [HL.out] at h40; omega
    rw [e]
    clear e hs h40 hag wf hsl
    go_enter Tryd.func11, Tryd.ntmps11
    go_wp2_with fail
    refine (areSummable _ _ _ vs _ (HI.out.below B0.out)).mono ?_
    rintro e w1 ⟨rfl, hb1⟩
    rw [HS.out]
    have R1 : Hid (Own7 w1 w.heap.size zeroS) := R0.out.call hb1
    have B1 : Hid (Below w.heap.size w w1) := Frame.next B0.out hb1 B0.out.size
    clear hb1
    go_wp2_with fail
    refine (summed _ _ _ vs _ (HI.out.below B1.out) hn (HT.out.below B1.out)).mono ?_
    rintro e w2 ⟨rfl, hb2⟩
    have R2 : Hid (Own7 w2 w.heap.size zeroS) := R1.out.call hb2
    have B2 : Hid (Below w.heap.size w w2) := Frame.next B1.out hb2 B1.out.size
    clear hb2
    go_wp2_with fail
    refine (fitted (sumL vs) _).mono ?_
    rintro e w3 ⟨rfl, hb3⟩
    rw [HG.out.1, HG.out.2]
    obtain ⟨c0, c1, c2, c3, c4, c5, c6⟩ := (R2.out.call hb3).c
    have g := (R2.out.call hb3).f
    have B3 : Hid (Below w.heap.size w w3) := Frame.next B2.out hb3 B2.out.size
    clear hb3
    go_wp2
    refine bodyPost_ret (v := .tuple #[.agg #[.int .i64 (sumA vs).r, .int .i64 (sumA vs).k, .int .i64 (sumA vs).t, .bool (sumA vs).lb, .int .i64 (sumA vs).l, .bool (sumA vs).hb, .int .i64 (sumA vs).h], .bool true]) (by simp [results, Tryd.results11, go_sem, c0, c1, c2, c3, c4, c5, c6]) rfl ?_
    exact ⟨rfl, (((((((B3.out.setCell hr _).setCell hr _).setCell hr _).setCell hr _).setCell hr _).setCell hr _).setCell hr _)⟩

set_option maxRecDepth 8000 in
set_option maxHeartbeats 6400000 in
theorem spec_SumOf (a : Option Addr) (n ca : Nat) (vs : List (Bool × Int)) (w : World) (h : IsVals w a n ca vs) : Calls Tryd.prog 12 #[.slice a n ca] w fun e w' => e = .returned (.tuple #[.agg #[.int .i64 (sumV vs).r, .int .i64 (sumV vs).k, .int .i64 (sumV vs).t, .bool (sumV vs).lb, .int .i64 (sumV vs).l, .bool (sumV vs).hb, .int .i64 (sumV vs).h], .bool (sumB vs)]) ∧ Below w.heap.size w w' := by
  have HI : Hid (IsVals w a n ca vs) := h
  have HL : Hid (vs.length = n) := h.len
  have B0 : Hid (Below w.heap.size w (w.alloc (.cells #[.int .i64 0, .int .i64 0, .int .i64 0, .bool false, .int .i64 0, .bool false, .int .i64 0] 28))) := (Below.refl _ _).alloc (Nat.le_refl _) _
  have R0 : Hid (Own7 (w.alloc (.cells #[.int .i64 0, .int .i64 0, .int .i64 0, .bool false, .int .i64 0, .bool false, .int .i64 0] 28)) w.heap.size zeroS) := Own7.new w zeroS
  have hr := Nat.le_refl w.heap.size
  clear h
  cases hs : sumB vs
  · have HS : Hid (sumB vs = false) := hs
    have e : sumV vs = zeroS := if_neg (by rw [hs]; exact Bool.false_ne_true)
    rw [e]
    clear e hs
    go_enter Tryd.func12, Tryd.ntmps12
    go_wp2_with fail
    refine (l4Values _ _ _ vs _ (HI.out.below B0.out)).mono ?_
    rintro e w1 ⟨rfl, hb1⟩
    rw [HS.out]
    obtain ⟨c0, c1, c2, c3, c4, c5, c6⟩ := (R0.out.call hb1).c
    have g := (R0.out.call hb1).f
    have B1 : Hid (Below w.heap.size w w1) := Frame.next B0.out hb1 B0.out.size
    clear hb1
    go_wp2
    refine bodyPost_ret (v := .tuple #[.agg #[.int .i64 0, .int .i64 0, .int .i64 0, .bool false, .int .i64 0, .bool false, .int .i64 0], .bool false]) (by simp [results, Tryd.results12, go_sem, c0, c1, c2, c3, c4, c5, c6]) rfl ?_
    exact ⟨rfl, (((((((B1.out.setCell hr _).setCell hr _).setCell hr _).setCell hr _).setCell hr _).setCell hr _).setCell hr _)⟩
  · have HS : Hid (sumB vs = true) := hs
    obtain ⟨h40, hag⟩ := sum_parts hs
    have HA : Hid (allGood vs = true) := hag
    have e : sumV vs = sumA vs := if_pos hs
    have hn : n ≤ 40 := by rw [HL.out] at h40; exact h40
    rw [e]
    clear e hs h40 hag
    go_enter Tryd.func12, Tryd.ntmps12
    go_wp2_with fail
    refine (l4Values _ _ _ vs _ (HI.out.below B0.out)).mono ?_
    rintro e w1 ⟨rfl, hb1⟩
    rw [HS.out]
    have R1 : Hid (Own7 w1 w.heap.size zeroS) := R0.out.call hb1
    have B1 : Hid (Below w.heap.size w w1) := Frame.next B0.out hb1 B0.out.size
    clear hb1
    go_wp2_with fail
    refine (l4None _).mono ?_
    rintro e w2 ⟨rfl, hb2⟩
    have ba : Below w2.heap.size w2 (w2.alloc (.cells #[.int .i64 0, .int .i64 0, .int .i64 0, .bool true, .int .i64 0, .bool true, .int .i64 0] 28)) := (Below.refl _ _).alloc (Nat.le_refl _) _
    have B2' : Below w.heap.size w w2 := Frame.next B1.out hb2 B1.out.size
    have R2 : Hid (Own7 (w2.alloc (.cells #[.int .i64 0, .int .i64 0, .int .i64 0, .bool true, .int .i64 0, .bool true, .int .i64 0] 28)) w.heap.size zeroS) := (R1.out.call hb2).call ba
    have S2 : Hid (Own7 (w2.alloc (.cells #[.int .i64 0, .int .i64 0, .int .i64 0, .bool true, .int .i64 0, .bool true, .int .i64 0] 28)) w2.heap.size noneS) := Own7.new w2 noneS
    have B2 : Hid (Below w.heap.size w (w2.alloc (.cells #[.int .i64 0, .int .i64 0, .int .i64 0, .bool true, .int .i64 0, .bool true, .int .i64 0] 28))) := Frame.next B2' ba B2'.size
    have hwc : w.heap.size < w2.heap.size := (R1.out.call hb2).c.lt
    clear hb2 ba B2'
    go_wp2_with fail
    go_loopw [14] (fun i wr => ∃ k : Nat, k ≤ n ∧ i = .int .i64 k ∧ Own7 wr w2.heap.size (sumA (vs.take k)) ∧ Own7 wr w.heap.size zeroS ∧ Below w.heap.size w wr) (fun i _ => n - (intOf i).toNat)
    case atStart => exact ⟨0, Nat.zero_le _, rfl, S2.out, R2.out, B2.out⟩
    case round =>
      obtain ⟨k, hk, rfl, hS, hR, hB⟩ := hrel
      have HR : Hid (Own7 wr w.heap.size zeroS) := hR
      have HB : Hid (Below w.heap.size w wr) := hB
      by_cases hlt : k < n
      · obtain ⟨b, off, rfl, hbl, hc⟩ := HI.out.cells (by omega)
        have hkl : k < vs.length := by rw [HL.out]; exact hlt
        have h0 : wr.cell? ⟨b, off + k * 2, none⟩ = some (.bool (vs.getD k vd).1) := by rw [hB.cell (p := ⟨b, off + k * 2, none⟩) hbl]; exact (hc k hlt).1
        have h1 : wr.cell? ⟨b, off + k * 2 + 1, none⟩ = some (.int .i64 (vs.getD k vd).2) := by rw [hB.cell (p := ⟨b, off + k * 2 + 1, none⟩) hbl]; exact (hc k hlt).2
        have HX : Hid (sumA (vs.take (k + 1)) = addS (sumA (vs.take k)) (vs.getD k vd)) := by show _ = _; rw [take_succ_vd hkl, sumA_snoc]
        have gv : goodV (vs.getD k vd).1 (vs.getD k vd).2 = true := List.all_eq_true.1 HA.out _ (getD_mem_vd hkl)
        have hgt : allGood (vs.take k) = true := List.all_eq_true.2 fun x hx => List.all_eq_true.1 HA.out x (List.mem_of_mem_take hx)
        have hlen : (vs.take k).length ≤ 40 := by rw [List.length_take]; omega
        have wf := (sum_wf (vs.take k) (by omega) hgt).1
        generalize vs.getD k vd = x at h0 h1 HX gv
        obtain ⟨vb, vn⟩ := x
        simp only at h0 h1 gv
        have HO : Hid (Own7 wr w2.heap.size (sumA (vs.take k))) := hS
        have tt := wf.tot
        have ADD : Hid (∀ W : World, Calls Tryd.prog 57 #[.agg #[.int .i64 (sumA (vs.take k)).r, .int .i64 (sumA (vs.take k)).k, .int .i64 (sumA (vs.take k)).t, .bool (sumA (vs.take k)).lb, .int .i64 (sumA (vs.take k)).l, .bool (sumA (vs.take k)).hb, .int .i64 (sumA (vs.take k)).h], .agg #[.bool vb, .int .i64 vn]] W fun e w' => e = .returned (.agg #[.int .i64 (sumA (vs.take (k + 1))).r, .int .i64 (sumA (vs.take (k + 1))).k, .int .i64 (sumA (vs.take (k + 1))).t, .bool (sumA (vs.take (k + 1))).lb, .int .i64 (sumA (vs.take (k + 1))).l, .bool (sumA (vs.take (k + 1))).hb, .int .i64 (sumA (vs.take (k + 1))).h]) ∧ Below W.heap.size W w') := fun W => by
          have hkk := wf.kn
          have hrr := wf.r
          have hk0 := wf.k0
          rw [HX.out]
          exact l4Add _ vb vn W ⟨by omega, by omega⟩ ⟨by omega, by omega⟩ ⟨by omega, by omega⟩ (goodV_bound gv)
        clear hc hkl hbl HX hS hR hlen wf tt hgt gv
        generalize hTT : sumA (vs.take (k + 1)) = T at ADD
        have HTT : Hid (sumA (vs.take (k + 1)) = T) := hTT
        clear hTT
        generalize sumA (vs.take k) = S at ADD HO
        have hcr : w2.heap.size < wr.heap.size := HO.out.c.lt
        have bv : Below wr.heap.size wr (wr.alloc (.cells #[.bool vb, .int .i64 vn] 26)) := (Below.refl _ _).alloc (Nat.le_refl _) _
        have HO' : Hid (Own7 (wr.alloc (.cells #[.bool vb, .int .i64 vn] 26)) w2.heap.size S) := HO.out.call bv
        have HR' : Hid (Own7 (wr.alloc (.cells #[.bool vb, .int .i64 vn] 26)) w.heap.size zeroS) := HR.out.call bv
        have HB' : Hid (Below w.heap.size w (wr.alloc (.cells #[.bool vb, .int .i64 vn] 26))) := Frame.next HB.out bv HB.out.size
        obtain ⟨e0, e1, e2, e3, e4, e5, e6⟩ := HO'.out.c
        clear bv hB
        go_wp2_with fail
        refine (ADD.out _).mono ?_
        rintro e w3 ⟨rfl, hb3⟩
        have O3 : Hid (Own7 w3 w2.heap.size S) := HO'.out.call hb3
        have R3 : Hid (Own7 w3 w.heap.size zeroS) := HR'.out.call hb3
        have B3 : Hid (Below w.heap.size w w3) := Frame.next HB'.out hb3 HB'.out.size
        clear hb3 e0 e1 e2 e3 e4 e5 e6
        obtain ⟨c0, c1, c2, c3, c4, c5, c6⟩ := O3.out.c
        have g := O3.out.f
        go_wp2_with fail
        go_roundw
        case rel => exact ⟨k + 1, by omega, by go_num, by rw [HTT.out]; exact ⟨(mkC B3.out O3.out.c (Nat.le_of_lt hwc)).2, fro7 O3.out.f⟩, ⟨At.far (Nat.ne_of_lt hwc) R3.out.c, fro7 R3.out.f⟩, (mkC (s := T) B3.out O3.out.c (Nat.le_of_lt hwc)).1⟩
        case measure => simp [intOf]; omega
      · have F : Hid (Own7 wr w2.heap.size (sumA vs)) := by have := hS; rwa [List.take_of_length_le (by rw [HL.out]; omega)] at this
        obtain ⟨c0, c1, c2, c3, c4, c5, c6⟩ := F.out.c
        obtain ⟨d0, d1, d2, d3, d4, d5, d6⟩ := HR.out.c
        have g := HR.out.f
        clear hS hR hB
        go_wp2
        refine bodyPost_ret (v := .tuple #[.agg #[.int .i64 (sumA vs).r, .int .i64 (sumA vs).k, .int .i64 (sumA vs).t, .bool (sumA vs).lb, .int .i64 (sumA vs).l, .bool (sumA vs).hb, .int .i64 (sumA vs).h], .bool true]) (by simp [results, Tryd.results12, go_sem, d0, d1, d2, d3, d4, d5, d6]) rfl ?_
        exact ⟨rfl, (((((((HB.out.setCell hr _).setCell hr _).setCell hr _).setCell hr _).setCell hr _).setCell hr _).setCell hr _)⟩


end Go.Proofs.YtdlcjcobfckncaaDoor.Sgi
