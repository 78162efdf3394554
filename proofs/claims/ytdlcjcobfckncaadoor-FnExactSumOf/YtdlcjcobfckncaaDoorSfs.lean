/-
  Contracts of SumOf, of the program and of the model, over what a list of values reads as.
-/
import Derived.Test.YtdlcjcobfckncaaDoorSgi
import Derived.Test.YtdlcjcobfckncaaDoorKnv
namespace Go.Proofs.YtdlcjcobfckncaaDoor.Sfs
open Go.RowKit
open Go.Proofs.YtdlcjcobfckncaaDoor.Knv

theorem spec_SumOf (u : Value) (vs : List (Bool × Int)) (w : World) (h : VIs w u vs) : Calls Tryd.prog 12 #[u] w fun e w' => e = .returned (.tuple #[.agg #[.int .i64 (Sgi.sumV vs).r, .int .i64 (Sgi.sumV vs).k, .int .i64 (Sgi.sumV vs).t, .bool (Sgi.sumV vs).lb, .int .i64 (Sgi.sumV vs).l, .bool (Sgi.sumV vs).hb, .int .i64 (Sgi.sumV vs).h], .bool (Sv.sumB vs)]) ∧ Below w.heap.size w w' := by
  obtain ⟨a, n, c, rfl, hv, hn⟩ := h
  exact Sgi.spec_SumOf a n c vs w hv

theorem impl_SumOf (u : Value) (vs : List (Bool × Int)) (w : World) (h : VIs w u vs) (hT : Cmp.CmpTab w) : Calls Tryd.prog 11 #[u] w fun e w' => e = .returned (.tuple #[.agg #[.int .i64 (Sgi.sumV vs).r, .int .i64 (Sgi.sumV vs).k, .int .i64 (Sgi.sumV vs).t, .bool (Sgi.sumV vs).lb, .int .i64 (Sgi.sumV vs).l, .bool (Sgi.sumV vs).hb, .int .i64 (Sgi.sumV vs).h], .bool (Sv.sumB vs)]) ∧ Below w.heap.size w w' := by
  obtain ⟨a, n, c, rfl, hv, hn⟩ := h
  exact Sgi.impl_SumOf a n c vs w hv hT


end Go.Proofs.YtdlcjcobfckncaaDoor.Sfs
