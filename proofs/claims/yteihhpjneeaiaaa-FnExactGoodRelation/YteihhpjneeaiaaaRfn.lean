/-
  Contracts of the program's and the model's functions on relations, over what they read as.
-/
import Derived.Test.YteihhpjneeaiaaaOb
import Derived.Test.YteihhpjneeaiaaaSb
namespace Go.Proofs.Yteihhpjneeaiaaa.Rfn
open Go.RowKit
open Go.Proofs.Yteihhpjneeaiaaa.Krl Go.Proofs.Yteihhpjneeaiaaa.Rel

theorem spec_GoodRelation (u t : Value) (r : Rl) (w : World) (h : QIs w u t r) : Calls Try.prog 7 #[.agg #[u, t]] w fun e w' => e = .returned (.bool (goodR r.1 r.2)) ∧ Below w.heap.size w w' := Sb.spec_GoodRelation u t r w h

theorem impl_GoodRelation (u t : Value) (r : Rl) (w : World) (h : QIs w u t r) : Calls Try.prog 9 #[.agg #[u, t]] w fun e w' => e = .returned (.bool (goodR r.1 r.2)) ∧ Below w.heap.size w w' := Ob.impl_GoodRelation u t r w h


end Go.Proofs.Yteihhpjneeaiaaa.Rfn
