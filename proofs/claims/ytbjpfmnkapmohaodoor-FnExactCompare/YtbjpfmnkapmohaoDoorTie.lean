/-
  DERIVED. GIVEN WITH THE SEED: THE PROGRAM's TIES (one call each: nine closed facts by the kernel) AND EACH ROW's TIE, after the 31st guide's Derived/Test/Toyas{Tie, Card}.lean. No idea stands in it: it is a product of the set-up. Laid BY PROGRAM, IN A SANDBOX (cutbox-door.mjs). By AI agents, Wed Nov 11 2026. No macro, syntax, notation, axiom, sorry.
-/
import Derived.Test.YtbjpfmnkapmohaoDoorRows
import Derived.LaidByTextLater
import Derived.SevenTiedAt
import Derived.LaidSub
import Derived.LaidOnce
namespace Go.Proofs.YtbjpfmnkapmohaoDoor
open Go
set_option maxRecDepth 100000
theorem seatTie1 : Tryd.prog.laidByTextLater [("loop.example/g00641/impl.bothTold", Rows.laid_loop_example_g00641_impl_bothTold), ("loop.example/g00641/impl.eitherTold", Rows.laid_loop_example_g00641_impl_eitherTold), ("loop.example/g00641/impl.turnedAbout", Rows.laid_loop_example_g00641_impl_turnedAbout), ("loop.example/g00641/impl.toldByKind", Rows.laid_loop_example_g00641_impl_toldByKind)] [.data, .data, .data, .data] true :=
  Program.laidByTextLater_by_one 38 8 10 (by kernel_rfl) (by kernel_rfl) (by kernel_rfl) (by kernel_rfl) (by kernel_rfl) (by kernel_rfl) (fun _ _ => by kernel_rfl)
theorem noOwnUnsafe : Tryd.pinned.checked.prog.headLifts.contains "ownunsafe" = false := by kernel_rfl
theorem tie : Tryd.prog.laidByTextLater [("loop.example/g00641/impl.bothTold", Rows.laid_loop_example_g00641_impl_bothTold)] [.data] true :=
  Program.laidByTextLater.sub seatTie1 ["loop.example/g00641/impl.bothTold"] (by kernel_rfl) (by kernel_rfl)
theorem fnExactAndOf_row_tie : Rows.fnExactAndOfRow.laidByTextAt .later Tryd.pinned [.data] true :=
  OpenClaim.laidByTextAt_later rfl rfl tie noOwnUnsafe
theorem tie2 : Tryd.prog.laidByTextLater [("loop.example/g00641/impl.eitherTold", Rows.laid_loop_example_g00641_impl_eitherTold)] [.data] true :=
  Program.laidByTextLater.sub seatTie1 ["loop.example/g00641/impl.eitherTold"] (by kernel_rfl) (by kernel_rfl)
theorem fnExactOrOf_row_tie : Rows.fnExactOrOfRow.laidByTextAt .later Tryd.pinned [.data] true :=
  OpenClaim.laidByTextAt_later rfl rfl tie2 noOwnUnsafe
theorem tie3 : Tryd.prog.laidByTextLater [("loop.example/g00641/impl.turnedAbout", Rows.laid_loop_example_g00641_impl_turnedAbout)] [.data] true :=
  Program.laidByTextLater.sub seatTie1 ["loop.example/g00641/impl.turnedAbout"] (by kernel_rfl) (by kernel_rfl)
theorem fnExactNotOf_row_tie : Rows.fnExactNotOfRow.laidByTextAt .later Tryd.pinned [.data] true :=
  OpenClaim.laidByTextAt_later rfl rfl tie3 noOwnUnsafe
theorem tie4 : Tryd.prog.laidByTextLater [("loop.example/g00641/impl.toldByKind", Rows.laid_loop_example_g00641_impl_toldByKind)] [.data] true :=
  Program.laidByTextLater.sub seatTie1 ["loop.example/g00641/impl.toldByKind"] (by kernel_rfl) (by kernel_rfl)
theorem fnExactCompare_row_tie : Rows.fnExactCompareRow.laidByTextAt .later Tryd.pinned [.data] true :=
  OpenClaim.laidByTextAt_later rfl rfl tie4 noOwnUnsafe
theorem fnExactAndOfUpto_row_tie : Rows.fnExactAndOfUptoRow.laidByTextAt .later Tryd.pinned [.data] true :=
  OpenClaim.laidByTextAt_later rfl rfl tie noOwnUnsafe
theorem fnExactOrOfUpto_row_tie : Rows.fnExactOrOfUptoRow.laidByTextAt .later Tryd.pinned [.data] true :=
  OpenClaim.laidByTextAt_later rfl rfl tie2 noOwnUnsafe
theorem fnExactNotOfUpto_row_tie : Rows.fnExactNotOfUptoRow.laidByTextAt .later Tryd.pinned [.data] true :=
  OpenClaim.laidByTextAt_later rfl rfl tie3 noOwnUnsafe
theorem fnExactCompareUpto_row_tie : Rows.fnExactCompareUptoRow.laidByTextAt .later Tryd.pinned [.data] true :=
  OpenClaim.laidByTextAt_later rfl rfl tie4 noOwnUnsafe
end Go.Proofs.YtbjpfmnkapmohaoDoor
