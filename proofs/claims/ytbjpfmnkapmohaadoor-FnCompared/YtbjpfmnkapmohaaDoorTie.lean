/-
  DERIVED. GIVEN WITH THE SEED: THE PROGRAM's TIES (one call each: nine closed facts by the kernel) AND EACH ROW's TIE, after the 31st guide's Derived/Test/Toyas{Tie, Card}.lean. No idea stands in it: it is a product of the set-up. Laid BY PROGRAM, IN A SANDBOX (cutbox-door.mjs). By AI agents, Wed Nov 11 2026. No macro, syntax, notation, axiom, sorry.
-/
import Derived.Test.YtbjpfmnkapmohaaDoorRows
import Derived.LaidByTextLater
import Derived.SevenTiedAt
import Derived.LaidSub
import Derived.LaidOnce
namespace Go.Proofs.YtbjpfmnkapmohaaDoor
open Go
set_option maxRecDepth 100000
theorem seatTie1 : Tryd.prog.laidByTextLater [("loop.example/g00641/impl.bothTold", Rows.laid_loop_example_g00641_impl_bothTold), ("loop.example/g00641/impl.eitherTold", Rows.laid_loop_example_g00641_impl_eitherTold), ("loop.example/g00641/impl.turnedAbout", Rows.laid_loop_example_g00641_impl_turnedAbout), ("loop.example/g00641/impl.toldByKind", Rows.laid_loop_example_g00641_impl_toldByKind)] [.data, .data, .data, .data] true :=
  Program.laidByTextLater_by_one 38 8 10 (by kernel_rfl) (by kernel_rfl) (by kernel_rfl) (by kernel_rfl) (by kernel_rfl) (by kernel_rfl) (fun _ _ => by kernel_rfl)
theorem noOwnUnsafe : Tryd.pinned.checked.prog.headLifts.contains "ownunsafe" = false := by kernel_rfl
theorem tie : Tryd.prog.laidByTextLater [("loop.example/g00641/impl.bothTold", Rows.laid_loop_example_g00641_impl_bothTold), ("loop.example/g00641/impl.eitherTold", Rows.laid_loop_example_g00641_impl_eitherTold), ("loop.example/g00641/impl.turnedAbout", Rows.laid_loop_example_g00641_impl_turnedAbout)] [.data, .data, .data] true :=
  Program.laidByTextLater.sub seatTie1 ["loop.example/g00641/impl.bothTold", "loop.example/g00641/impl.eitherTold", "loop.example/g00641/impl.turnedAbout"] (by kernel_rfl) (by kernel_rfl)
theorem fnTruths_row_tie : Rows.fnTruthsRow.laidByTextAt .later Tryd.pinned [.data, .data, .data] true :=
  OpenClaim.laidByTextAt_later rfl rfl tie noOwnUnsafe
theorem tie2 : Tryd.prog.laidByTextLater [("loop.example/g00641/impl.toldByKind", Rows.laid_loop_example_g00641_impl_toldByKind)] [.data] true :=
  Program.laidByTextLater.sub seatTie1 ["loop.example/g00641/impl.toldByKind"] (by kernel_rfl) (by kernel_rfl)
theorem fnCompared_row_tie : Rows.fnComparedRow.laidByTextAt .later Tryd.pinned [.data] true :=
  OpenClaim.laidByTextAt_later rfl rfl tie2 noOwnUnsafe
theorem fnTruthsUpto_row_tie : Rows.fnTruthsUptoRow.laidByTextAt .later Tryd.pinned [.data, .data, .data] true :=
  OpenClaim.laidByTextAt_later rfl rfl tie noOwnUnsafe
theorem fnComparedUpto_row_tie : Rows.fnComparedUptoRow.laidByTextAt .later Tryd.pinned [.data] true :=
  OpenClaim.laidByTextAt_later rfl rfl tie2 noOwnUnsafe
end Go.Proofs.YtbjpfmnkapmohaaDoor
