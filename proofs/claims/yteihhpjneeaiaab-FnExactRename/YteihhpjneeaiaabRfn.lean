/-
  Contracts of the program's and the model's functions on relations, over what they read as.
-/
import Derived.Test.YteihhpjneeaiaabOg
import Derived.Test.YteihhpjneeaiaabSe
import Derived.Test.YteihhpjneeaiaabOh
import Derived.Test.YteihhpjneeaiaabSf
import Derived.Test.YteihhpjneeaiaabOj
import Derived.Test.YteihhpjneeaiaabSg
import Derived.Test.YteihhpjneeaiaabOk
import Derived.Test.YteihhpjneeaiaabSh
import Derived.Test.YteihhpjneeaiaabOl
import Derived.Test.YteihhpjneeaiaabSj
namespace Go.Proofs.Yteihhpjneeaiaab.Rfn
open Go.RowKit
open Go.Proofs.Yteihhpjneeaiaab.Kep Go.Proofs.Yteihhpjneeaiaab.Krl Go.Proofs.Yteihhpjneeaiaab.Told Go.Proofs.Yteihhpjneeaiaab.Rel

theorem spec_GoodRelation (u t : Value) (r : Rl) (w : World) (h : QIs w u t r) : Calls Try.prog 40 #[.agg #[u, t]] w fun e w' => e = .returned (.bool (goodR r.1 r.2)) ∧ Below w.heap.size w w' := Sb.spec_GoodRelation u t r w h

theorem impl_GoodRelation (u t : Value) (r : Rl) (w : World) (h : QIs w u t r) : Calls Try.prog 45 #[.agg #[u, t]] w fun e w' => e = .returned (.bool (goodR r.1 r.2)) ∧ Below w.heap.size w w' := Ob.impl_GoodRelation u t r w h

theorem spec_SameTuples (u t v s : Value) (a b : Rl) (w : World) (h1 : QIs w u t a) (h2 : QIs w v s b) : Calls Try.prog 18 #[.agg #[u, t], .agg #[v, s]] w fun e w' => e = .returned (.tuple #[.bool (sameV a b), .bool (joinB a b)]) ∧ Below w.heap.size w w' := Sf.spec_SameTuples u t v s a b w h1 h2

theorem impl_SameTuples (u t v s : Value) (a b : Rl) (w : World) (h1 : QIs w u t a) (h2 : QIs w v s b) : Calls Try.prog 19 #[.agg #[u, t], .agg #[v, s]] w fun e w' => e = .returned (.tuple #[.bool (sameV a b), .bool (joinB a b)]) ∧ Below w.heap.size w w' := Oh.impl_SameTuples u t v s a b w h1 h2

theorem spec_WithoutOf (u t v s : Value) (a b : Rl) (w : World) (h1 : QIs w u t a) (h2 : QIs w v s b) : Calls Try.prog 14 #[.agg #[u, t], .agg #[v, s]] w (RTold (withoutV a b) (withoutG a b) w) := Sg.spec_WithoutOf u t v s a b w h1 h2

theorem impl_WithoutOf (u t v s : Value) (a b : Rl) (w : World) (h1 : QIs w u t a) (h2 : QIs w v s b) : Calls Try.prog 15 #[.agg #[u, t], .agg #[v, s]] w (RTold (withoutV a b) (withoutG a b) w) := Oj.impl_WithoutOf u t v s a b w h1 h2

theorem spec_UnionOf (u t v s : Value) (a b : Rl) (w : World) (h1 : QIs w u t a) (h2 : QIs w v s b) : Calls Try.prog 8 #[.agg #[u, t], .agg #[v, s]] w (RTold (unionV a b) (unionG a b) w) := Sh.spec_UnionOf u t v s a b w h1 h2

theorem impl_UnionOf (u t v s : Value) (a b : Rl) (w : World) (h1 : QIs w u t a) (h2 : QIs w v s b) : Calls Try.prog 10 #[.agg #[u, t], .agg #[v, s]] w (RTold (unionV a b) (unionG a b) w) := Ok.impl_UnionOf u t v s a b w h1 h2

theorem spec_Rename (u t : Value) (r : Rl) (x y : Int) (w : World) (h : QIs w u t r) (hx : (Lit.int .i64 x).wf = true) (hy : (Lit.int .i64 y).wf = true) : Calls Try.prog 16 #[.agg #[u, t], .int .i64 x, .int .i64 y] w (RTold (renameV r x y) (renameG r x y) w) := Sj.spec_Rename u t r x y w h hx hy

theorem impl_Rename (u t : Value) (r : Rl) (x y : Int) (w : World) (h : QIs w u t r) (hx : (Lit.int .i64 x).wf = true) (hy : (Lit.int .i64 y).wf = true) : Calls Try.prog 17 #[.agg #[u, t], .int .i64 x, .int .i64 y] w (RTold (renameV r x y) (renameG r x y) w) := Ol.impl_Rename u t r x y w h hx hy


end Go.Proofs.Yteihhpjneeaiaab.Rfn
