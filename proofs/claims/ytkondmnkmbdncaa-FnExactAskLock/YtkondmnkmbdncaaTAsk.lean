/-
  An ask by value.
-/
import Derived.Test.YtkondmnkmbdncaaMem
namespace Go.Proofs.Ytkondmnkmbdncaa.TAsk
open Go.RowKit
open Go.Proofs.Ytkondmnkmbdncaa.Frame Go.Proofs.Ytkondmnkmbdncaa.Mem

set_option maxRecDepth 8000 in
theorem toAsk (x0 x1 : Int) (x2 x3 : Bool) (w : World) : Calls Try.prog 48 #[.agg #[.int .i64 x0, .int .i64 x1, .bool x2, .bool x3]] w fun e w' => e = .returned (.agg #[.int .i64 x0, .int .i64 x1, .bool x2, .bool x3]) ∧ Below w.heap.size w w' := by
  go_enter Try.func48, Try.ntmps48
  go_wp2
  refine bodyPost_ret (v := .agg #[.int .i64 x0, .int .i64 x1, .bool x2, .bool x3]) (by simp [results, Try.results48, go_sem]) rfl ?_
  exact ⟨rfl, (((Below.refl _ _).alloc (Nat.le_refl _) _).alloc (by simp) _).alloc (by simp; omega) _⟩


end Go.Proofs.Ytkondmnkmbdncaa.TAsk
