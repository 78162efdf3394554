/-
  Contracts of the program's and the model's functions on relations, over what they read as.
-/
import Derived.Test.YteihhpjneeaiaaaOg
import Derived.Test.YteihhpjneeaiaaaSe
namespace Go.Proofs.Yteihhpjneeaiaaa.Rfn
open Go.RowKit
open Go.Proofs.Yteihhpjneeaiaaa.Kep Go.Proofs.Yteihhpjneeaiaaa.Krl Go.Proofs.Yteihhpjneeaiaaa.Told Go.Proofs.Yteihhpjneeaiaaa.Rel

theorem spec_GoodRelation (u t : Value) (r : Rl) (w : World) (h : QIs w u t r) : Calls Try.prog 7 #[.agg #[u, t]] w fun e w' => e = .returned (.bool (goodR r.1 r.2)) ∧ Below w.heap.size w w' := Sb.spec_GoodRelation u t r w h

theorem impl_GoodRelation (u t : Value) (r : Rl) (w : World) (h : QIs w u t r) : Calls Try.prog 9 #[.agg #[u, t]] w fun e w' => e = .returned (.bool (goodR r.1 r.2)) ∧ Below w.heap.size w w' := Ob.impl_GoodRelation u t r w h

theorem spec_Project (u t v : Value) (r : Rl) (ws : List Int) (w : World) (h : QIs w u t r) (hv : IIs w v ws) : Calls Try.prog 11 #[.agg #[u, t], v] w (RTold (projectV r ws) (projectG r ws) w) := Se.spec_Project u t v r ws w h hv

theorem impl_Project (u t v : Value) (r : Rl) (ws : List Int) (w : World) (h : QIs w u t r) (hv : IIs w v ws) : Calls Try.prog 13 #[.agg #[u, t], v] w (RTold (projectV r ws) (projectG r ws) w) := Og.impl_Project u t v r ws w h hv


end Go.Proofs.Yteihhpjneeaiaaa.Rfn
