/-
  Contracts of SameValue: of the program and of the model.
-/
import Derived.Test.YtbjpfmnkapmohaaDoorVal
import Derived.WalkLawsBesides
namespace Go.Proofs.YtbjpfmnkapmohaaDoor.Same
open Go.ChangeShapes Go.WideShapes Go.ChangeAt Go.RowKit
open Go.Proofs.YtbjpfmnkapmohaaDoor.Val

def sameV (ab : Bool) (an : Int) (bb : Bool) (bn : Int) : Bool := ab == bb && an == bn
def sameB (ab : Bool) (an : Int) (bb : Bool) (bn : Int) : Bool := goodV ab an && goodV bb bn

theorem ret_pair {x y : Bool} (h : y = x) : Ending.returned (.tuple #[.bool x, .bool true]) = .returned (.tuple #[.bool y, .bool true]) := by rw [h]

theorem below2 (w : World) (o o' : Obj) : Below w.heap.size w ((w.alloc o).alloc o') := ((Below.refl _ _).alloc (Nat.le_refl _) o).alloc (by simp) o'

theorem spec_SameValue (ab bb : Bool) (an bn : Int) (w : World) :
    Calls Tryd.prog 22 #[.agg #[.bool ab, .int .i64 an], .agg #[.bool bb, .int .i64 bn]] w fun e w' => e = .returned (.tuple #[.bool (sameB ab an bb bn && sameV ab an bb bn), .bool (sameB ab an bb bn)]) ∧ Below w.heap.size w w' := by
  cases ha : goodV ab an
  · have eb : sameB ab an bb bn = false := by unfold sameB; simp [ha]
    rw [eb]
    have Ha : Hid (goodV ab an = false) := ha
    clear ha eb
    go_enter Tryd.func22, Tryd.ntmps22
    go_wp2_with fail
    refine (spec_GoodValue _ _ _).mono ?_
    rintro e w1 ⟨rfl, hb1⟩
    rw [Ha.out]
    go_wp2_with fail
    go_ret2
    exact ⟨rfl, Frame.next (below2 _ _ _) hb1 (by simp; omega)⟩
  have Ha : Hid (goodV ab an = true) := ha
  cases hb : goodV bb bn
  · have eb : sameB ab an bb bn = false := by unfold sameB; simp [hb]
    rw [eb]
    have Hb : Hid (goodV bb bn = false) := hb
    clear ha hb eb
    go_enter Tryd.func22, Tryd.ntmps22
    go_wp2_with fail
    refine (spec_GoodValue _ _ _).mono ?_
    rintro e w1 ⟨rfl, hb1⟩
    rw [Ha.out]
    have c0 : w1.cell? ⟨w.heap.size + 1, 0, none⟩ = some (.bool bb) := by rw [(Frame.bcell hb1).1 _ _ (by simp)]; simp
    have c1 : w1.cell? ⟨w.heap.size + 1, 1, none⟩ = some (.int .i64 bn) := by rw [(Frame.bcell hb1).1 _ _ (by simp)]; simp
    go_wp2_with fail
    refine (spec_GoodValue _ _ _).mono ?_
    rintro e w2 ⟨rfl, hb2⟩
    rw [Hb.out]
    go_wp2_with fail
    go_ret2
    have k1 := Frame.next (below2 _ _ _) hb1 (by simp; omega)
    exact ⟨rfl, Frame.next k1 hb2 k1.size⟩
  have Hb : Hid (goodV bb bn = true) := hb
  have eb : sameB ab an bb bn = true := by unfold sameB; simp [ha, hb]
  rw [eb, Bool.true_and]
  clear ha hb eb
  go_enter Tryd.func22, Tryd.ntmps22
  go_wp2_with fail
  refine (spec_GoodValue _ _ _).mono ?_
  rintro e w1 ⟨rfl, hb1⟩
  rw [Ha.out]
  have hz1 := (Frame.bcell hb1).2.2
  simp only [World.size_alloc] at hz1
  have c0 : w1.cell? ⟨w.heap.size + 1, 0, none⟩ = some (.bool bb) := by rw [(Frame.bcell hb1).1 _ _ (by simp)]; simp
  have c1 : w1.cell? ⟨w.heap.size + 1, 1, none⟩ = some (.int .i64 bn) := by rw [(Frame.bcell hb1).1 _ _ (by simp)]; simp
  go_wp2_with fail
  refine (spec_GoodValue _ _ _).mono ?_
  rintro e w2 ⟨rfl, hb2⟩
  rw [Hb.out]
  have d0 : w2.cell? ⟨w.heap.size + 1, 0, none⟩ = some (.bool bb) := by rw [(Frame.bcell hb2).1 _ _ (by omega)]; exact c0
  have d1 : w2.cell? ⟨w.heap.size + 1, 1, none⟩ = some (.int .i64 bn) := by rw [(Frame.bcell hb2).1 _ _ (by omega)]; exact c1
  have d2 : w2.cell? ⟨w.heap.size, 0, none⟩ = some (.bool ab) := by rw [(Frame.bcell hb2).1 _ _ (by omega), (Frame.bcell hb1).1 _ _ (by simp; omega)]; simp
  have d3 : w2.cell? ⟨w.heap.size, 1, none⟩ = some (.int .i64 an) := by rw [(Frame.bcell hb2).1 _ _ (by omega), (Frame.bcell hb1).1 _ _ (by simp; omega)]; simp
  have k1 := Frame.next (below2 _ _ _) hb1 (by simp; omega)
  have k2 := Frame.next k1 hb2 k1.size
  clear c0 c1
  go_wp2_with fail
  all_goals go_ret2
  all_goals refine ⟨ret_pair ?_, k2⟩
  all_goals unfold sameV
  · rw [‹ab = bb›, ‹an = bn›]; simp
  · simp [‹¬ an = bn›]
  · simp [‹¬ ab = bb›]


theorem impl_SameValue (ab bb : Bool) (an bn : Int) (w : World) :
    Calls Tryd.prog 21 #[.agg #[.bool ab, .int .i64 an], .agg #[.bool bb, .int .i64 bn]] w fun e w' => e = .returned (.tuple #[.bool (sameB ab an bb bn && sameV ab an bb bn), .bool (sameB ab an bb bn)]) ∧ Below w.heap.size w w' := by
  cases ha : goodV ab an
  · have eb : sameB ab an bb bn = false := by unfold sameB; simp [ha]
    rw [eb]
    have Ha : Hid (goodV ab an = false) := ha
    clear ha eb
    go_enter Tryd.func21, Tryd.ntmps21
    go_wp2_with fail
    refine (impl_GoodValue _ _ _).mono ?_
    rintro e w1 ⟨rfl, hb1⟩
    rw [Ha.out]
    go_wp2_with fail
    go_ret2
    exact ⟨rfl, Frame.next (below2 _ _ _) hb1 (by simp; omega)⟩
  have Ha : Hid (goodV ab an = true) := ha
  cases hb : goodV bb bn
  · have eb : sameB ab an bb bn = false := by unfold sameB; simp [hb]
    rw [eb]
    have Hb : Hid (goodV bb bn = false) := hb
    clear ha hb eb
    go_enter Tryd.func21, Tryd.ntmps21
    go_wp2_with fail
    refine (impl_GoodValue _ _ _).mono ?_
    rintro e w1 ⟨rfl, hb1⟩
    rw [Ha.out]
    have c0 : w1.cell? ⟨w.heap.size + 1, 0, none⟩ = some (.bool bb) := by rw [(Frame.bcell hb1).1 _ _ (by simp)]; simp
    have c1 : w1.cell? ⟨w.heap.size + 1, 1, none⟩ = some (.int .i64 bn) := by rw [(Frame.bcell hb1).1 _ _ (by simp)]; simp
    go_wp2_with fail
    refine (impl_GoodValue _ _ _).mono ?_
    rintro e w2 ⟨rfl, hb2⟩
    rw [Hb.out]
    go_wp2_with fail
    go_ret2
    have k1 := Frame.next (below2 _ _ _) hb1 (by simp; omega)
    exact ⟨rfl, Frame.next k1 hb2 k1.size⟩
  have Hb : Hid (goodV bb bn = true) := hb
  have eb : sameB ab an bb bn = true := by unfold sameB; simp [ha, hb]
  rw [eb, Bool.true_and]
  clear ha hb eb
  go_enter Tryd.func21, Tryd.ntmps21
  go_wp2_with fail
  refine (impl_GoodValue _ _ _).mono ?_
  rintro e w1 ⟨rfl, hb1⟩
  rw [Ha.out]
  have hz1 := (Frame.bcell hb1).2.2
  simp only [World.size_alloc] at hz1
  have c0 : w1.cell? ⟨w.heap.size + 1, 0, none⟩ = some (.bool bb) := by rw [(Frame.bcell hb1).1 _ _ (by simp)]; simp
  have c1 : w1.cell? ⟨w.heap.size + 1, 1, none⟩ = some (.int .i64 bn) := by rw [(Frame.bcell hb1).1 _ _ (by simp)]; simp
  go_wp2_with fail
  refine (impl_GoodValue _ _ _).mono ?_
  rintro e w2 ⟨rfl, hb2⟩
  rw [Hb.out]
  have d0 : w2.cell? ⟨w.heap.size + 1, 0, none⟩ = some (.bool bb) := by rw [(Frame.bcell hb2).1 _ _ (by omega)]; exact c0
  have d1 : w2.cell? ⟨w.heap.size + 1, 1, none⟩ = some (.int .i64 bn) := by rw [(Frame.bcell hb2).1 _ _ (by omega)]; exact c1
  have d2 : w2.cell? ⟨w.heap.size, 0, none⟩ = some (.bool ab) := by rw [(Frame.bcell hb2).1 _ _ (by omega), (Frame.bcell hb1).1 _ _ (by simp; omega)]; simp
  have d3 : w2.cell? ⟨w.heap.size, 1, none⟩ = some (.int .i64 an) := by rw [(Frame.bcell hb2).1 _ _ (by omega), (Frame.bcell hb1).1 _ _ (by simp; omega)]; simp
  have k1 := Frame.next (below2 _ _ _) hb1 (by simp; omega)
  have k2 := Frame.next k1 hb2 k1.size
  clear c0 c1
  go_wp2_with fail
  all_goals go_ret2
  all_goals refine ⟨ret_pair ?_, k2⟩
  all_goals unfold sameV
  · rw [‹ab = bb›, ‹an = bn›]; simp
  · simp [‹¬ an = bn›]
  · simp [‹¬ ab = bb›]



end Go.Proofs.YtbjpfmnkapmohaaDoor.Same
