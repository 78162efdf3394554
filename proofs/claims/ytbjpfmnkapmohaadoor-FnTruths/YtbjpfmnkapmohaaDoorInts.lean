/-
  Contracts of the laws' helpers on slices of integers: copied, compared, marked, asked for the marks.
-/
import Derived.Test.YtbjpfmnkapmohaaDoorMem
namespace Go.Proofs.YtbjpfmnkapmohaaDoor.Ints
open Go.RowKit
open Go.Proofs.YtbjpfmnkapmohaaDoor.Frame Go.Proofs.YtbjpfmnkapmohaaDoor.Mem

theorem info : (Tryd.prog.info? 3).map (fun i => (i.zero, i.size, i.bytes)) = some (some (.int .i64 0), 1, 8) := by kernel_rfl

theorem set_part (zs : List Int) (n k : Nat) (h : k < zs.length) (hn : zs.length = n) :
    (ints .i64 (zs.take k) ++ List.replicate (n - k) (Value.int .i64 0)).set k (.int .i64 (zs.getD k 0)) = ints .i64 (zs.take (k + 1)) ++ List.replicate (n - (k + 1)) (Value.int .i64 0) := by
  have e : n - k = (n - (k + 1)) + 1 := by omega
  rw [e, List.replicate_succ, take_succ_getD h]
  have hl : (ints .i64 (zs.take k)).length = k := by rw [ints_length, List.length_take]; omega
  rw [List.set_append_right _ _ (by omega), hl]
  simp [ints]

theorem ret_bool {x y : Bool} (h : x = y) : Ending.returned (.bool x) = .returned (.bool y) := by rw [h]
theorem eq_take_succ (xs ys : List Int) (k : Nat) (hx : k < xs.length) (hy : k < ys.length) (h : xs.take k = ys.take k) (e : xs.getD k 0 = ys.getD k 0) : xs.take (k + 1) = ys.take (k + 1) := by
  rw [take_succ_getD hx, take_succ_getD hy, h, e]

theorem ne_of_getD (xs ys : List Int) (k : Nat) (h : xs.getD k 0 ≠ ys.getD k 0) : xs ≠ ys := fun e => h (by rw [e])

theorem ret_int {x y : Int} (h : x = y) : Ending.returned (.int .i64 x) = .returned (.int .i64 y) := by rw [h]


end Go.Proofs.YtbjpfmnkapmohaaDoor.Ints
