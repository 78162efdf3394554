/-
  Contracts of the program's and the model's functions of chapter 4, over what lists of values read as.
-/
import Derived.Test.YtdlcjcobfckncaaDoorCw
import Derived.Test.YtdlcjcobfckncaaDoorKnv
namespace Go.Proofs.YtdlcjcobfckncaaDoor.Sfn
open Go.RowKit
open Go.Proofs.YtdlcjcobfckncaaDoor.Knv

theorem spec_CountWhere (u : Value) (vs : List (Bool × Int)) (kind : Int) (vb : Bool) (vn : Int) (w : World) (h : VIs w u vs) : Calls Tryd.prog 32 #[u, .int .i64 kind, .agg #[.bool vb, .int .i64 vn]] w fun e w' => e = .returned (.tuple #[.int .i64 (Cw.countN vs kind vb vn), .bool (Cw.countB vs kind vb vn)]) ∧ Below w.heap.size w w' := by
  obtain ⟨a, n, c, rfl, hv, hn⟩ := h
  exact Cw.spec_CountWhere a n c vs kind vb vn w hv

theorem impl_CountWhere (u : Value) (vs : List (Bool × Int)) (kind : Int) (vb : Bool) (vn : Int) (w : World) (h : VIs w u vs) (hT : Cmp.CmpTab w) : Calls Tryd.prog 31 #[u, .int .i64 kind, .agg #[.bool vb, .int .i64 vn]] w fun e w' => e = .returned (.tuple #[.int .i64 (Cw.countN vs kind vb vn), .bool (Cw.countB vs kind vb vn)]) ∧ Below w.heap.size w w' := by
  obtain ⟨a, n, c, rfl, hv, hn⟩ := h
  exact Cw.impl_CountWhere a n c vs kind vb vn w hv hT


end Go.Proofs.YtdlcjcobfckncaaDoor.Sfn
