/-
  The parts of a sum: ends, counts, and the sum with them: contracts of the program.
-/
import Derived.Test.YtdlcjcobfckncaaDoorSmb
import Derived.Test.YtdlcjcobfckncaaDoorCmp
import Derived.Test.YtdlcjcobfckncaaDoorFlt
namespace Go.Proofs.YtdlcjcobfckncaaDoor.Sga
open Go.RowKit
open Go.Proofs.YtdlcjcobfckncaaDoor.Frame Go.Proofs.YtdlcjcobfckncaaDoor.Mem Go.Proofs.YtdlcjcobfckncaaDoor.Val Go.Proofs.YtdlcjcobfckncaaDoor.Sma Go.Proofs.YtdlcjcobfckncaaDoor.Flt

def endB (kind : Int) (ab : Bool) (an : Int) (bb : Bool) (bn : Int) : Bool := ab || (Cmp.cmpV kind bb bn ab an == 2)
def endN (kind : Int) (ab : Bool) (an : Int) (bb : Bool) (bn : Int) : Bool × Int := if endB kind ab an bb bn then (bb, bn) else (ab, an)

theorem start3 {w w1 : World} {ab bb : Bool} {an bn : Int} (hw : Below (((w.alloc (.cells #[.bool ab, .int .i64 an] 26)).alloc (.cells #[.bool bb, .int .i64 bn] 26)).alloc (.cells #[.bool false, .int .i64 0] 26)).heap.size (((w.alloc (.cells #[.bool ab, .int .i64 an] 26)).alloc (.cells #[.bool bb, .int .i64 bn] 26)).alloc (.cells #[.bool false, .int .i64 0] 26)) w1) :
    (w1.cell? ⟨w.heap.size, 0, none⟩ = some (.bool ab) ∧ w1.cell? ⟨w.heap.size, 1, none⟩ = some (.int .i64 an) ∧ w1.cell? ⟨w.heap.size + 1, 0, none⟩ = some (.bool bb) ∧ w1.cell? ⟨w.heap.size + 1, 1, none⟩ = some (.int .i64 bn)) ∧ (w1.cell? ⟨w.heap.size + 1 + 1, 0, none⟩ = some (.bool false) ∧ w1.cell? ⟨w.heap.size + 1 + 1, 1, none⟩ = some (.int .i64 0) ∧ w1.frozen? ⟨w.heap.size + 1 + 1, 0, none⟩ = false ∧ w1.frozen? ⟨w.heap.size + 1 + 1, 1, none⟩ = false) ∧ Below w.heap.size w w1 := by
  have bc := Frame.bcell hw
  have hsz : (((w.alloc (.cells #[.bool ab, .int .i64 an] 26)).alloc (.cells #[.bool bb, .int .i64 bn] 26)).alloc (.cells #[.bool false, .int .i64 0] 26)).heap.size = w.heap.size + 3 := by simp
  rw [hsz] at bc
  refine ⟨⟨?_, ?_, ?_, ?_⟩, ⟨?_, ?_, ?_, ?_⟩, Frame.next ((((Below.refl _ _).alloc (Nat.le_refl _) _).alloc (by simp) _).alloc (by simp; omega) _) hw (by rw [hsz]; omega)⟩
  · rw [bc.1 _ _ (by omega)]; go_simp
  · rw [bc.1 _ _ (by omega)]; go_simp
  · rw [bc.1 _ _ (by omega)]; go_simp
  · rw [bc.1 _ _ (by omega)]; go_simp
  · rw [bc.1 _ _ (by omega)]; go_simp
  · rw [bc.1 _ _ (by omega)]; go_simp
  · rw [bc.2.1 _ _ (by omega)]; go_simp
  · rw [bc.2.1 _ _ (by omega)]; go_simp

set_option maxRecDepth 4000 in
set_option maxHeartbeats 1600000 in
theorem endOf (kind : Int) (ab bb : Bool) (an bn : Int) (w : World) (hT : Cmp.CmpTab w) :
    Calls Tryd.prog 116 #[.int .i64 kind, .agg #[.bool ab, .int .i64 an], .agg #[.bool bb, .int .i64 bn]] w fun e w' => e = .returned (.agg #[.bool (endN kind ab an bb bn).1, .int .i64 (endN kind ab an bb bn).2]) ∧ Below w.heap.size w w' := by
  have B3 : Hid (Below w.heap.size w (((w.alloc (.cells #[.bool ab, .int .i64 an] 26)).alloc (.cells #[.bool bb, .int .i64 bn] 26)).alloc (.cells #[.bool false, .int .i64 0] 26))) := (((Below.refl _ _).alloc (Nat.le_refl _) _).alloc (by simp) _).alloc (by simp; omega) _
  have HT : Hid (Cmp.CmpTab (((w.alloc (.cells #[.bool ab, .int .i64 an] 26)).alloc (.cells #[.bool bb, .int .i64 bn] 26)).alloc (.cells #[.bool false, .int .i64 0] 26))) := hT.below B3.out
  clear hT
  cases ab
  · cases he : (Cmp.cmpV kind bb bn false an == 2)
    · have e : endN kind false an bb bn = (false, an) := if_neg (by unfold endB; rw [he]; exact Bool.false_ne_true)
      rw [e]
      clear e
      have HE : Hid ((Cmp.cmpV kind bb bn false an == 2) = false) := he
      clear he
      go_enter Tryd.func116, Tryd.ntmps116
      go_wp2_with fail
      refine (Cmp.impl_Compare kind bb false bn an _ HT.out).mono ?_
      rintro e w1 ⟨rfl, hb1⟩
      obtain ⟨⟨p0, p1, p2, p3⟩, ⟨c0, c1, f0, f1⟩, b1⟩ := start3 hb1
      have B1 : Hid (Below w.heap.size w w1) := b1
      clear hb1 b1
      have hq := HE.out
      generalize Cmp.cmpV kind bb bn false an = q at hq ⊢
      go_wp2
      refine bodyPost_ret (v := .agg #[.bool false, .int .i64 an]) (by simp [results, Tryd.results116, go_sem, c0, c1]) rfl ?_
      exact ⟨rfl, (B1.out.setCell (by show w.heap.size ≤ w.heap.size + 1 + 1; omega) _).setCell (by show w.heap.size ≤ w.heap.size + 1 + 1; omega) _⟩
    · have e : endN kind false an bb bn = (bb, bn) := if_pos (by unfold endB; rw [he]; rfl)
      rw [e]
      clear e
      have HE : Hid ((Cmp.cmpV kind bb bn false an == 2) = true) := he
      clear he
      go_enter Tryd.func116, Tryd.ntmps116
      go_wp2_with fail
      refine (Cmp.impl_Compare kind bb false bn an _ HT.out).mono ?_
      rintro e w1 ⟨rfl, hb1⟩
      obtain ⟨⟨p0, p1, p2, p3⟩, ⟨c0, c1, f0, f1⟩, b1⟩ := start3 hb1
      have B1 : Hid (Below w.heap.size w w1) := b1
      clear hb1 b1
      have hq := HE.out
      generalize Cmp.cmpV kind bb bn false an = q at hq ⊢
      go_wp2
      refine bodyPost_ret (v := .agg #[.bool bb, .int .i64 bn]) (by simp [results, Tryd.results116, go_sem, c0, c1]) rfl ?_
      exact ⟨rfl, (B1.out.setCell (by show w.heap.size ≤ w.heap.size + 1 + 1; omega) _).setCell (by show w.heap.size ≤ w.heap.size + 1 + 1; omega) _⟩
  · have e : endN kind true an bb bn = (bb, bn) := if_pos rfl
    rw [e]
    clear e
    go_enter Tryd.func116, Tryd.ntmps116
    go_wp2
    refine bodyPost_ret (v := .agg #[.bool bb, .int .i64 bn]) (by simp [results, Tryd.results116, go_sem]) rfl ?_
    exact ⟨rfl, (((Below.refl _ _).alloc (Nat.le_refl _) _).alloc (by simp) _).alloc (by simp; omega) _⟩

theorem countOfOne (b : Bool) (n : Int) (w : World) : Calls Tryd.prog 141 #[.agg #[.bool b, .int .i64 n]] w fun e w' => e = .returned (.complex .f64 (fb 1) (fb (if b then 0 else 1))) ∧ Below w.heap.size w w' := by
  cases b
  · show Calls _ _ _ _ fun e w' => e = .returned (.complex .f64 (fb 1) (fb 1)) ∧ _
    rw [fb_one]
    go_enter Tryd.func141, Tryd.ntmps141
    go_wp2
    go_ret
    exact ⟨rfl, (Below.refl _ _).alloc (Nat.le_refl _) _⟩
  · show Calls _ _ _ _ fun e w' => e = .returned (.complex .f64 (fb 1) (fb 0)) ∧ _
    rw [fb_one, fb_zero]
    go_enter Tryd.func141, Tryd.ntmps141
    go_wp2
    go_ret
    exact ⟨rfl, (Below.refl _ _).alloc (Nat.le_refl _) _⟩

theorem countsIn (r k : Nat) (t : Int) (lb : Bool) (l : Int) (hb : Bool) (h : Int) (w : World) : Calls Tryd.prog 117 #[.agg #[.int .i64 (r : Int), .int .i64 (k : Int), .int .i64 t, .bool lb, .int .i64 l, .bool hb, .int .i64 h]] w fun e w' => e = .returned (.complex .f64 (fb r) (fb k)) ∧ Below w.heap.size w w' := by
  have hr : ∀ (n : Nat) (w : World), (convert 3 154 (.int .i64 (n : Int))).run Tryd.prog w = .ok (.float .f64 (fb n)) w := fun n w => run_convert_int_float w 3 154 .i64 .f64 (n : Int) (by kernel_rfl) Tryd.underlying154
  go_enter Tryd.func117, Tryd.ntmps117
  go_wp2
  go_ret
  exact ⟨rfl, (Below.refl _ _).alloc (Nat.le_refl _) _⟩

set_option maxRecDepth 4000 in
theorem sumWith (r k : Nat) (t : Int) (lb : Bool) (l : Int) (hb : Bool) (h : Int) (w : World) (hr : r < 2 ^ 53) (hk : k < 2 ^ 53) : Calls Tryd.prog 114 #[.complex .f64 (fb r) (fb k), .int .i64 t, .agg #[.bool lb, .int .i64 l], .agg #[.bool hb, .int .i64 h]] w fun e w' => e = .returned (.agg #[.int .i64 (r : Int), .int .i64 (k : Int), .int .i64 t, .bool lb, .int .i64 l, .bool hb, .int .i64 h]) ∧ Below w.heap.size w w' := by
  have h1 : ∀ (w : World), (convert 154 3 (.float .f64 (fb r))).run Tryd.prog w = .ok (.int .i64 (r : Int)) w := fun w => run_convert_float_int w 154 3 .f64 .i64 (fb r) (r : Int) (by kernel_rfl) Tryd.underlying3 (int_fb hr)
  have h2 : ∀ (w : World), (convert 154 3 (.float .f64 (fb k))).run Tryd.prog w = .ok (.int .i64 (k : Int)) w := fun w => run_convert_float_int w 154 3 .f64 .i64 (fb k) (k : Int) (by kernel_rfl) Tryd.underlying3 (int_fb hk)
  clear hr hk
  go_enter Tryd.func114, Tryd.ntmps114
  go_wp2
  refine bodyPost_ret (v := .agg #[.int .i64 (r : Int), .int .i64 (k : Int), .int .i64 t, .bool lb, .int .i64 l, .bool hb, .int .i64 h]) (by simp [results, Tryd.results114, go_sem]) rfl ?_
  exact ⟨rfl, (((Below.refl _ _).alloc (Nat.le_refl _) _).alloc (by simp) _).alloc (by simp; omega) _⟩


end Go.Proofs.YtdlcjcobfckncaaDoor.Sga
