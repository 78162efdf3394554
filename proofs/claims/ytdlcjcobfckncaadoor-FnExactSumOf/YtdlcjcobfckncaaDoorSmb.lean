/-
  A Sum argument opened; contracts of MeanOf, of the program and of the model.
-/
import Derived.Test.YtdlcjcobfckncaaDoorSma
import Derived.Deep.Slices
namespace Go.Proofs.YtdlcjcobfckncaaDoor.Smb
open Go.ChangeShapes Go.WideShapes Go.ChangeAt Go.RowKit Go.Deep
open Go.Proofs.YtdlcjcobfckncaaDoor.Val Go.Proofs.YtdlcjcobfckncaaDoor.Sma

theorem array7 {α : Type} {cs : Array α} (h : cs.size = 7) : ∃ c0 c1 c2 c3 c4 c5 c6, cs = #[c0, c1, c2, c3, c4, c5, c6] := by
  obtain ⟨l⟩ := cs
  match l, h with
  | [c0, c1, c2, c3, c4, c5, c6], _ => exact ⟨c0, c1, c2, c3, c4, c5, c6, rfl⟩
theorem pair_of {H : Type} {enc : TypeId × Value → H} {W : World} {fuel : Nat} {c d : Value} {x : DataW H × List MemPlace} (h : DataW.trod enc Tryd.prog W 0 (fun _ => true) true fuel 73 [c, d] = some x) :
    ∃ b n, c = .bool b ∧ d = .int .i64 n ∧ (Lit.int .i64 n).wf = true := by
  obtain ⟨y0, y1, n, _, _, h0, h1⟩ := trod_struct2 Tryd.underlying73 h
  obtain ⟨b, e0, _⟩ := DataW.trod_bool Tryd.underlying4 h0
  obtain ⟨n, e1, _, wn⟩ := DataW.trod_int Tryd.underlying3 h1
  have k1 : Tryd.prog.cellsOf 3 = 1 := by kernel_rfl
  have k2 : Tryd.prog.cellsOf 4 = 1 := by kernel_rfl
  simp [k1, k2] at e0 e1
  exact ⟨b, n, e0, e1, wn⟩

set_option maxRecDepth 20000 in
theorem sum_of {H : Type} {enc : TypeId × Value → H} {W : World} {base : Nat} {v : Value} {d : DataW H} {p : List MemPlace} (hv : Value.okWide Tryd.prog W .any base 75 v) (hd : DataW.Trod enc Tryd.prog W 0 (fun _ => true) true 75 v d p) :
    ∃ (r k t : Int) (lb : Bool) (l : Int) (hb : Bool) (h : Int), v = .agg #[.int .i64 r, .int .i64 k, .int .i64 t, .bool lb, .int .i64 l, .bool hb, .int .i64 h] ∧ (Lit.int .i64 r).wf = true ∧ (Lit.int .i64 k).wf = true ∧ (Lit.int .i64 t).wf = true ∧ (Lit.int .i64 l).wf = true ∧ (Lit.int .i64 h).wf = true := by
  obtain ⟨cs, rfl, hsz⟩ := okWide_struct Tryd.underlying75 hv
  have hC : Tryd.prog.cellsOf 75 = 7 := by kernel_rfl
  obtain ⟨c0, c1, c2, c3, c4, c5, c6, rfl⟩ := array7 (hsz.trans hC)
  obtain ⟨fuel, hf⟩ := hd
  have k1 : Tryd.prog.cellsOf 3 = 1 := by kernel_rfl
  have k2 : Tryd.prog.cellsOf 73 = 2 := by kernel_rfl
  obtain ⟨xs, n, _, _, hl, hlen, hff⟩ := DataW.trod_struct Tryd.underlying75 hf
  have g0 := hff 0 _ rfl
  have g1 := hff 1 _ rfl
  have g2 := hff 2 _ rfl
  have g3 := hff 3 _ rfl
  have g4 := hff 4 _ rfl
  simp only [Value.cells] at g0 g1 g2 g3 g4
  have hxl : xs.length = 5 := hlen
  obtain ⟨x0, x1, x2, x3, x4, rfl⟩ : ∃ x0 x1 x2 x3 x4, xs = [x0, x1, x2, x3, x4] := by
    match xs, hxl with
    | [x0, x1, x2, x3, x4], _ => exact ⟨x0, x1, x2, x3, x4, rfl⟩
  simp [k1, k2] at g0 g1 g2 g3 g4
  obtain ⟨r, e0, _, w0⟩ := DataW.trod_int Tryd.underlying3 g0
  obtain ⟨k, e1, _, w1⟩ := DataW.trod_int Tryd.underlying3 g1
  obtain ⟨t, e2, _, w2⟩ := DataW.trod_int Tryd.underlying3 g2
  obtain ⟨lb, l, rfl, rfl, w3⟩ := pair_of g3
  obtain ⟨hb, h, rfl, rfl, w4⟩ := pair_of g4
  simp at e0 e1 e2
  subst e0 e1 e2
  exact ⟨r, k, t, lb, l, hb, h, rfl, w0, w1, w2, w3, w4⟩

def meanOf (r k t : Int) (lb : Bool) (l : Int) (hb : Bool) (h : Int) : Bool × Int := if goodS r k t lb l hb h then (if k = 0 then (true, 0) else (false, meanN t k)) else (false, 0)
theorem good_known {r k t : Int} {lb : Bool} {l : Int} {hb : Bool} {h : Int} (hg : goodS r k t lb l hb h = true) : 0 ≤ k ∧ k ≤ 10000 := by
  unfold goodS at hg
  simp only [Bool.and_eq_true] at hg
  have h1 := (of_decide_eq_true hg.1 : 0 ≤ r ∧ r ≤ 10000)
  have h2 := (of_decide_eq_true hg.2.1 : 0 ≤ k ∧ k ≤ r)
  omega
theorem start_sum {w w1 : World} {r k t : Int} {lb : Bool} {l : Int} {hb : Bool} {h : Int} (hw : Below ((w.alloc (.cells #[.int .i64 r, .int .i64 k, .int .i64 t, .bool lb, .int .i64 l, .bool hb, .int .i64 h] 28)).alloc (.cells #[.bool false, .int .i64 0] 26)).heap.size ((w.alloc (.cells #[.int .i64 r, .int .i64 k, .int .i64 t, .bool lb, .int .i64 l, .bool hb, .int .i64 h] 28)).alloc (.cells #[.bool false, .int .i64 0] 26)) w1) :
    (w1.cell? ⟨w.heap.size, 1, none⟩ = some (.int .i64 k) ∧ w1.cell? ⟨w.heap.size, 2, none⟩ = some (.int .i64 t)) ∧ (w1.cell? ⟨w.heap.size + 1, 0, none⟩ = some (.bool false) ∧ w1.cell? ⟨w.heap.size + 1, 1, none⟩ = some (.int .i64 0) ∧ w1.frozen? ⟨w.heap.size + 1, 0, none⟩ = false ∧ w1.frozen? ⟨w.heap.size + 1, 1, none⟩ = false) ∧ Below w.heap.size w w1 := by
  have bc := Frame.bcell hw
  have hsz : ((w.alloc (.cells #[.int .i64 r, .int .i64 k, .int .i64 t, .bool lb, .int .i64 l, .bool hb, .int .i64 h] 28)).alloc (.cells #[.bool false, .int .i64 0] 26)).heap.size = w.heap.size + 2 := by simp
  rw [hsz] at bc
  refine ⟨⟨?_, ?_⟩, ⟨?_, ?_, ?_, ?_⟩, Frame.next (((Below.refl _ _).alloc (Nat.le_refl _) _).alloc (by simp) _) hw (by rw [hsz]; omega)⟩
  · rw [bc.1 _ _ (by omega)]; go_simp
  · rw [bc.1 _ _ (by omega)]; go_simp
  · rw [bc.1 _ _ (by omega)]; go_simp
  · rw [bc.1 _ _ (by omega)]; go_simp
  · rw [bc.2.1 _ _ (by omega)]; go_simp
  · rw [bc.2.1 _ _ (by omega)]; go_simp

set_option maxRecDepth 4000 in
set_option maxHeartbeats 1600000 in
theorem impl_MeanOf (r k t : Int) (lb : Bool) (l : Int) (hb : Bool) (h : Int) (w : World) : Calls Tryd.prog 15 #[.agg #[.int .i64 r, .int .i64 k, .int .i64 t, .bool lb, .int .i64 l, .bool hb, .int .i64 h]] w fun e w' => e = .returned (.tuple #[.agg #[.bool (meanOf r k t lb l hb h).1, .int .i64 (meanOf r k t lb l hb h).2], .bool (goodS r k t lb l hb h)]) ∧ Below w.heap.size w w' := by
  cases hg : goodS r k t lb l hb h
  · have HG : Hid (goodS r k t lb l hb h = false) := hg
    have e : meanOf r k t lb l hb h = (false, 0) := if_neg (by rw [hg]; exact Bool.false_ne_true)
    rw [e]
    clear e hg
    go_enter Tryd.func15, Tryd.ntmps15
    go_wp2_with fail
    refine (impl_GoodSum r k t lb l hb h _).mono ?_
    rintro e w1 ⟨rfl, hb1⟩
    rw [HG.out]
    obtain ⟨⟨p1, p2⟩, ⟨c0, c1, f0, f1⟩, b1⟩ := start_sum hb1
    have B1 : Hid (Below w.heap.size w w1) := b1
    clear hb1 b1
    go_wp2
    refine bodyPost_ret (v := .tuple #[.agg #[.bool false, .int .i64 (0)], .bool false]) (by simp [results, Tryd.results15, go_sem, c0, c1]) rfl ?_
    exact ⟨rfl, (B1.out.setCell (by show w.heap.size ≤ w.heap.size + 1; omega) _).setCell (by show w.heap.size ≤ w.heap.size + 1; omega) _⟩
  have HG : Hid (goodS r k t lb l hb h = true) := hg
  have hk := good_known hg
  by_cases h0 : k = 0
  · have e : meanOf r k t lb l hb h = (true, 0) := by unfold meanOf; rw [if_pos hg, if_pos h0]
    rw [e]
    have hk2 : (k == 0) = true := by rw [beq_iff_eq]; exact h0
    clear e hg h0 hk
    go_enter Tryd.func15, Tryd.ntmps15
    go_wp2_with fail
    refine (impl_GoodSum r k t lb l hb h _).mono ?_
    rintro e w1 ⟨rfl, hb1⟩
    rw [HG.out]
    obtain ⟨⟨p1, p2⟩, ⟨c0, c1, f0, f1⟩, b1⟩ := start_sum hb1
    have B1 : Hid (Below w.heap.size w w1) := b1
    clear hb1 b1
    go_wp2
    refine bodyPost_ret (v := .tuple #[.agg #[.bool true, .int .i64 (0)], .bool true]) (by simp [results, Tryd.results15, go_sem, c0, c1]) rfl ?_
    exact ⟨rfl, (B1.out.setCell (by show w.heap.size ≤ w.heap.size + 1; omega) _).setCell (by show w.heap.size ≤ w.heap.size + 1; omega) _⟩
  · have e : meanOf r k t lb l hb h = (false, meanN t k) := by unfold meanOf; rw [if_pos hg, if_neg h0]
    rw [e]
    have hk2 : (k == 0) = false := by rw [beq_eq_false_iff_ne]; exact h0
    have hk0 : 0 < k := by omega
    clear e hg h0 hk
    go_enter Tryd.func15, Tryd.ntmps15
    go_wp2_with fail
    refine (impl_GoodSum r k t lb l hb h _).mono ?_
    rintro e w1 ⟨rfl, hb1⟩
    rw [HG.out]
    obtain ⟨⟨p1, p2⟩, ⟨c0, c1, f0, f1⟩, b1⟩ := start_sum hb1
    have B1 : Hid (Below w.heap.size w w1) := b1
    clear hb1 b1
    go_wp2_with fail
    refine (down t k _ hk0).mono ?_
    rintro e w' ⟨rfl, hw'⟩; have hw'' := hw'.symm; clear hw'; subst hw''
    go_wp2
    refine bodyPost_ret (v := .tuple #[.agg #[.bool false, .int .i64 (meanN t k)], .bool true]) (by simp [results, Tryd.results15, go_sem, c0, c1]) rfl ?_
    exact ⟨rfl, (B1.out.setCell (by show w.heap.size ≤ w.heap.size + 1; omega) _).setCell (by show w.heap.size ≤ w.heap.size + 1; omega) _⟩

set_option maxRecDepth 4000 in
set_option maxHeartbeats 1600000 in
theorem spec_MeanOf (r k t : Int) (lb : Bool) (l : Int) (hb : Bool) (h : Int) (w : World) : Calls Tryd.prog 20 #[.agg #[.int .i64 r, .int .i64 k, .int .i64 t, .bool lb, .int .i64 l, .bool hb, .int .i64 h]] w fun e w' => e = .returned (.tuple #[.agg #[.bool (meanOf r k t lb l hb h).1, .int .i64 (meanOf r k t lb l hb h).2], .bool (goodS r k t lb l hb h)]) ∧ Below w.heap.size w w' := by
  cases hg : goodS r k t lb l hb h
  · have HG : Hid (goodS r k t lb l hb h = false) := hg
    have e : meanOf r k t lb l hb h = (false, 0) := if_neg (by rw [hg]; exact Bool.false_ne_true)
    rw [e]
    clear e hg
    go_enter Tryd.func20, Tryd.ntmps20
    go_wp2_with fail
    refine (spec_GoodSum r k t lb l hb h _).mono ?_
    rintro e w1 ⟨rfl, hb1⟩
    rw [HG.out]
    obtain ⟨⟨p1, p2⟩, ⟨c0, c1, f0, f1⟩, b1⟩ := start_sum hb1
    have B1 : Hid (Below w.heap.size w w1) := b1
    clear hb1 b1
    go_wp2
    refine bodyPost_ret (v := .tuple #[.agg #[.bool false, .int .i64 (0)], .bool false]) (by simp [results, Tryd.results20, go_sem, c0, c1]) rfl ?_
    exact ⟨rfl, (B1.out.setCell (by show w.heap.size ≤ w.heap.size + 1; omega) _).setCell (by show w.heap.size ≤ w.heap.size + 1; omega) _⟩
  have HG : Hid (goodS r k t lb l hb h = true) := hg
  have hk := good_known hg
  by_cases h0 : k = 0
  · have e : meanOf r k t lb l hb h = (true, 0) := by unfold meanOf; rw [if_pos hg, if_pos h0]
    rw [e]
    have hk2 : (k == 0) = true := by rw [beq_iff_eq]; exact h0
    clear e hg h0 hk
    go_enter Tryd.func20, Tryd.ntmps20
    go_wp2_with fail
    refine (spec_GoodSum r k t lb l hb h _).mono ?_
    rintro e w1 ⟨rfl, hb1⟩
    rw [HG.out]
    obtain ⟨⟨p1, p2⟩, ⟨c0, c1, f0, f1⟩, b1⟩ := start_sum hb1
    have B1 : Hid (Below w.heap.size w w1) := b1
    clear hb1 b1
    go_wp2
    refine bodyPost_ret (v := .tuple #[.agg #[.bool true, .int .i64 (0)], .bool true]) (by simp [results, Tryd.results20, go_sem, c0, c1]) rfl ?_
    exact ⟨rfl, (B1.out.setCell (by show w.heap.size ≤ w.heap.size + 1; omega) _).setCell (by show w.heap.size ≤ w.heap.size + 1; omega) _⟩
  · have e : meanOf r k t lb l hb h = (false, meanN t k) := by unfold meanOf; rw [if_pos hg, if_neg h0]
    rw [e]
    have hk2 : (k == 0) = false := by rw [beq_eq_false_iff_ne]; exact h0
    have hk0 : 0 < k := by omega
    clear e hg h0 hk
    by_cases hd : t.tmod k < 0
    · have e : meanN t k = wrap64 (wrap64 (t.tdiv k) - 1) := if_pos (decide_eq_true hd)
      rw [e]
      go_enter Tryd.func20, Tryd.ntmps20
      go_wp2_with fail
      refine (spec_GoodSum r k t lb l hb h _).mono ?_
      rintro e w1 ⟨rfl, hb1⟩
      rw [HG.out]
      obtain ⟨⟨p1, p2⟩, ⟨c0, c1, f0, f1⟩, b1⟩ := start_sum hb1
      have B1 : Hid (Below w.heap.size w w1) := b1
      clear hb1 b1
      go_wp2
      refine bodyPost_ret (v := .tuple #[.agg #[.bool false, .int .i64 (wrap64 (wrap64 (t.tdiv k) - 1))], .bool true]) (by simp [results, Tryd.results20, go_sem, c0, c1]) rfl ?_
      exact ⟨rfl, (B1.out.setCell (by show w.heap.size ≤ w.heap.size + 1; omega) _).setCell (by show w.heap.size ≤ w.heap.size + 1; omega) _⟩
    · have e : meanN t k = wrap64 (t.tdiv k) := if_neg (by unfold downB; simp; omega)
      rw [e]
      go_enter Tryd.func20, Tryd.ntmps20
      go_wp2_with fail
      refine (spec_GoodSum r k t lb l hb h _).mono ?_
      rintro e w1 ⟨rfl, hb1⟩
      rw [HG.out]
      obtain ⟨⟨p1, p2⟩, ⟨c0, c1, f0, f1⟩, b1⟩ := start_sum hb1
      have B1 : Hid (Below w.heap.size w w1) := b1
      clear hb1 b1
      go_wp2
      refine bodyPost_ret (v := .tuple #[.agg #[.bool false, .int .i64 (wrap64 (t.tdiv k))], .bool true]) (by simp [results, Tryd.results20, go_sem, c0, c1]) rfl ?_
      exact ⟨rfl, (B1.out.setCell (by show w.heap.size ≤ w.heap.size + 1; omega) _).setCell (by show w.heap.size ≤ w.heap.size + 1; omega) _⟩


end Go.Proofs.YtdlcjcobfckncaaDoor.Smb
