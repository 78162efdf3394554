/-
  Contracts of JoinTwo, of the program and of the model, over what relations read as.
-/
import Derived.Test.YtdlcjcobfckncaaJo
import Derived.Test.YtdlcjcobfckncaaJp
namespace Go.Proofs.Ytdlcjcobfckncaa.Rfj
open Go.RowKit
open Go.Proofs.Ytdlcjcobfckncaa.Kep Go.Proofs.Ytdlcjcobfckncaa.Krl Go.Proofs.Ytdlcjcobfckncaa.Told Go.Proofs.Ytdlcjcobfckncaa.Rel

theorem spec_JoinTwo (u t v s : Value) (a b : Rl) (w : World) (h1 : QIs w u t a) (h2 : QIs w v s b) : Calls Try.prog 8 #[.agg #[u, t], .agg #[v, s]] w (RTold (joinV a b) (joinG a b) w) := Jp.spec_JoinTwo u t v s a b w h1 h2

theorem impl_JoinTwo (u t v s : Value) (a b : Rl) (w : World) (h1 : QIs w u t a) (h2 : QIs w v s b) : Calls Try.prog 10 #[.agg #[u, t], .agg #[v, s]] w (RTold (joinV a b) (joinG a b) w) := Jo.impl_JoinTwo u t v s a b w h1 h2


end Go.Proofs.Ytdlcjcobfckncaa.Rfj
