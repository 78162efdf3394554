/-
  The sum of one value, and of a list of them: contracts of the program.
-/
import Derived.Test.YtdlcjcobfckncaaDoorSge
import Derived.Test.YtdlcjcobfckncaaDoorSv
namespace Go.Proofs.YtdlcjcobfckncaaDoor.Sgf
open Go.RowKit
open Go.Proofs.YtdlcjcobfckncaaDoor.Frame Go.Proofs.YtdlcjcobfckncaaDoor.Mem Go.Proofs.YtdlcjcobfckncaaDoor.Val Go.Proofs.YtdlcjcobfckncaaDoor.Vals Go.Proofs.YtdlcjcobfckncaaDoor.Sma Go.Proofs.YtdlcjcobfckncaaDoor.Flt Go.Proofs.YtdlcjcobfckncaaDoor.Sga Go.Proofs.YtdlcjcobfckncaaDoor.Sgb Go.Proofs.YtdlcjcobfckncaaDoor.Sgd Go.Proofs.YtdlcjcobfckncaaDoor.Sge

def kn (v : Bool × Int) : Nat := if v.1 then 0 else 1
def oneS (v : Bool × Int) : Sm := ⟨1, (kn v : Int), v.2, v.1, v.2, v.1, v.2⟩
def noneS : Sm := ⟨0, 0, 0, true, 0, true, 0⟩
def sumL (vs : List (Bool × Int)) : Sm := vs.foldl (fun s v => tog s (oneS v)) noneS
def knL (vs : List (Bool × Int)) : Nat := vs.foldl (fun n v => n + kn v) 0

set_option maxRecDepth 4000 in
set_option maxHeartbeats 1600000 in
theorem sumOfOne (vb : Bool) (vn : Int) (w : World) : Calls Tryd.prog 115 #[.agg #[.bool vb, .int .i64 vn]] w fun e w' => e = .returned (.agg #[.int .i64 1, .int .i64 (kn (vb, vn) : Int), .int .i64 vn, .bool vb, .int .i64 vn, .bool vb, .int .i64 vn]) ∧ Below w.heap.size w w' := by
  obtain ⟨F, kk, HKK, CO, SW⟩ : ∃ (F : Nat → Nat) (kk : Nat), (Hid (kn (vb, vn) = kk)) ∧
      (Hid (∀ w : World, Calls Tryd.prog 141 #[.agg #[.bool vb, .int .i64 vn]] w fun e w' => e = .returned (.complex .f64 (F 1) (F kk)) ∧ Below w.heap.size w w')) ∧
      (Hid (∀ (t : Int) (lb : Bool) (l : Int) (hb : Bool) (h : Int) (w : World), Calls Tryd.prog 114 #[.complex .f64 (F 1) (F kk), .int .i64 t, .agg #[.bool lb, .int .i64 l], .agg #[.bool hb, .int .i64 h]] w fun e w' => e = .returned (.agg #[.int .i64 1, .int .i64 (kk : Int), .int .i64 t, .bool lb, .int .i64 l, .bool hb, .int .i64 h]) ∧ Below w.heap.size w w')) :=
    ⟨fb, kn (vb, vn), rfl, fun w => countOfOne vb vn w, fun t lb l hb h w => sumWith 1 (kn (vb, vn)) t lb l hb h w (by decide) (by unfold kn; split <;> decide)⟩
  have hs : ((w.alloc (.cells #[.bool vb, .int .i64 vn] 26)).alloc (.cells #[.int .i64 0, .int .i64 0, .int .i64 0, .bool false, .int .i64 0, .bool false, .int .i64 0] 28)).heap.size = w.heap.size + 2 := by simp
  have BW : Hid (Below w.heap.size w ((w.alloc (.cells #[.bool vb, .int .i64 vn] 26)).alloc (.cells #[.int .i64 0, .int .i64 0, .int .i64 0, .bool false, .int .i64 0, .bool false, .int .i64 0] 28))) := ((Below.refl _ _).alloc (Nat.le_refl _) _).alloc (by simp) _
  have J0 : Hid (((w.alloc (.cells #[.bool vb, .int .i64 vn] 26)).alloc (.cells #[.int .i64 0, .int .i64 0, .int .i64 0, .bool false, .int .i64 0, .bool false, .int .i64 0] 28)).drew.cell? ⟨w.heap.size, 0, none⟩ = some (.bool vb) ∧ ((w.alloc (.cells #[.bool vb, .int .i64 vn] 26)).alloc (.cells #[.int .i64 0, .int .i64 0, .int .i64 0, .bool false, .int .i64 0, .bool false, .int .i64 0] 28)).drew.cell? ⟨w.heap.size, 1, none⟩ = some (.int .i64 vn)) := by
    refine ⟨?_, ?_⟩ <;> go_simp
  have X0 : Hid (Box7 ((w.alloc (.cells #[.bool vb, .int .i64 vn] 26)).alloc (.cells #[.int .i64 0, .int .i64 0, .int .i64 0, .bool false, .int .i64 0, .bool false, .int .i64 0] 28)).drew (w.heap.size + 1)) := by
    have h := (Box7.new (w.alloc (.cells #[.bool vb, .int .i64 vn] 26))).drew
    rwa [World.size_alloc] at h
  generalize hD : ((w.alloc (.cells #[.bool vb, .int .i64 vn] 26)).alloc (.cells #[.int .i64 0, .int .i64 0, .int .i64 0, .bool false, .int .i64 0, .bool false, .int .i64 0] 28)) = D at hs BW J0 X0
  have HD : Hid (((w.alloc (.cells #[.bool vb, .int .i64 vn] 26)).alloc (.cells #[.int .i64 0, .int .i64 0, .int .i64 0, .bool false, .int .i64 0, .bool false, .int .i64 0] 28)) = D) := hD
  clear hD hs
  have hne : w.heap.size ≠ w.heap.size + 1 := by omega
  go_enter Tryd.func115, Tryd.ntmps115
  go_upto_region 1 with fail
  rw [HD.out]
  go_region_held3 (fun W => W.cell? ⟨w.heap.size, 0, none⟩ = some (.bool vb) ∧ W.cell? ⟨w.heap.size, 1, none⟩ = some (.int .i64 vn))
    (first | with_reducible exact J4.out | with_reducible exact J2.out | with_reducible exact J1.out | with_reducible exact J0.out)
    (first | (go_at_call 141; refine (CO.out _).mono ?_; rintro e w1 ⟨rfl, hb1⟩; have J1 : Hid (w1.cell? ⟨w.heap.size, 0, none⟩ = some (.bool vb) ∧ w1.cell? ⟨w.heap.size, 1, none⟩ = some (.int .i64 vn)) := ⟨Frame.held_cell hb1 J0.out.1, Frame.held_cell hb1 J0.out.2⟩; have X1 : Hid (Box7 w1 (w.heap.size + 1)) := X0.out.call hb1; have B1 : Hid (Below w.heap.size w w1) := Frame.next BW.out.drew hb1 BW.out.drew.size; clear hb1) | (go_at_call 114; refine (SW.out _ _ _ _ _ _).mono ?_; rintro e w2 ⟨rfl, hb2⟩; have J2 : Hid (w2.cell? ⟨w.heap.size, 0, none⟩ = some (.bool vb) ∧ w2.cell? ⟨w.heap.size, 1, none⟩ = some (.int .i64 vn)) := ⟨Frame.held_cell hb2 J1.out.1, Frame.held_cell hb2 J1.out.2⟩; have X2 : Hid (Box7 w2 (w.heap.size + 1)) := X1.out.call hb2; have B2 : Hid (Below w.heap.size w w2) := Frame.next B1.out hb2 B1.out.size; obtain ⟨c0, c1, c2, c3, c4, c5, c6⟩ := X2.out.c; have g := X2.out.f; have J4 : Hid ((((((((w2.setCell ⟨w.heap.size + 1, 0, none⟩ (.int .i64 1)).setCell ⟨w.heap.size + 1, 1, none⟩ (.int .i64 (kk : Int))).setCell ⟨w.heap.size + 1, 2, none⟩ (.int .i64 vn)).setCell ⟨w.heap.size + 1, 3, none⟩ (.bool vb)).setCell ⟨w.heap.size + 1, 4, none⟩ (.int .i64 vn)).setCell ⟨w.heap.size + 1, 5, none⟩ (.bool vb)).setCell ⟨w.heap.size + 1, 6, none⟩ (.int .i64 vn)).cell? ⟨w.heap.size, 0, none⟩ = some (.bool vb) ∧ (((((((w2.setCell ⟨w.heap.size + 1, 0, none⟩ (.int .i64 1)).setCell ⟨w.heap.size + 1, 1, none⟩ (.int .i64 (kk : Int))).setCell ⟨w.heap.size + 1, 2, none⟩ (.int .i64 vn)).setCell ⟨w.heap.size + 1, 3, none⟩ (.bool vb)).setCell ⟨w.heap.size + 1, 4, none⟩ (.int .i64 vn)).setCell ⟨w.heap.size + 1, 5, none⟩ (.bool vb)).setCell ⟨w.heap.size + 1, 6, none⟩ (.int .i64 vn)).cell? ⟨w.heap.size, 1, none⟩ = some (.int .i64 vn)) := ⟨far7 hne J2.out.1, far7 hne J2.out.2⟩; clear hb2))
  go_wp2
  refine bodyPost_ret (v := .agg #[.int .i64 1, .int .i64 (kk : Int), .int .i64 vn, .bool vb, .int .i64 vn, .bool vb, .int .i64 vn]) (by simp [results, Tryd.results115, go_sem, c0, c1, c2, c3, c4, c5, c6]) rfl ?_
  have hr : w.heap.size ≤ w.heap.size + 1 := by omega
  rw [HKK.out]
  exact ⟨rfl, ((((((B2.out.setCell hr _).setCell hr _).setCell hr _).setCell hr _).setCell hr _).setCell hr _).setCell hr _⟩


end Go.Proofs.YtdlcjcobfckncaaDoor.Sgf
