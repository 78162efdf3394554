/-
  Contracts of Choose, of the program and of the model, over what relations read as.
-/
import Derived.Test.YtdlcjcobfckncaaDoorOm
namespace Go.Proofs.YtdlcjcobfckncaaDoor.Rfc
open Go.RowKit
open Go.Proofs.YtdlcjcobfckncaaDoor.Kep Go.Proofs.YtdlcjcobfckncaaDoor.Krl Go.Proofs.YtdlcjcobfckncaaDoor.Told Go.Proofs.YtdlcjcobfckncaaDoor.Rel

theorem spec_Choose (u t : Value) (r : Rl) (x k n : Int) (w : World) (h : QIs w u t r) : Calls Tryd.prog 34 #[.agg #[u, t], .int .i64 x, .int .i64 k, .int .i64 n] w (RTold (chooseV r x k n) (chooseG r x k n) w) := Sk.spec_Choose u t r x k n w h

theorem impl_Choose (u t : Value) (r : Rl) (x k n : Int) (w : World) (h : QIs w u t r) (hT : Cmp.CmpTab w) : Calls Tryd.prog 36 #[.agg #[u, t], .int .i64 x, .int .i64 k, .int .i64 n] w (RTold (chooseV r x k n) (chooseG r x k n) w) := Om.impl_Choose u t r x k n w h hT


end Go.Proofs.YtdlcjcobfckncaaDoor.Rfc
