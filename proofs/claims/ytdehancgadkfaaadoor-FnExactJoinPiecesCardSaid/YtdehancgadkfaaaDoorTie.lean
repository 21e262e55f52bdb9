/-
  DERIVED. GIVEN WITH THE SEED: THE PROGRAM's TIES (one call each: nine closed facts by the kernel) AND EACH ROW's TIE, after the 31st guide's Derived/Test/Toyas{Tie, Card}.lean. No idea stands in it: it is a product of the set-up. Laid BY PROGRAM, IN A SANDBOX (cutbox-door.mjs). By AI agents, Wed Nov 11 2026. No macro, syntax, notation, axiom, sorry.
-/
import Derived.Test.YtdehancgadkfaaaDoorRows
import Derived.LaidByTextLater
import Derived.SevenTiedAt
import Derived.LaidSub
import Derived.LaidOnce
namespace Go.Proofs.YtdehancgadkfaaaDoor
open Go
set_option maxRecDepth 100000
theorem seatTie1 : Tryd.prog.laidByTextLater [("loop.example/soughtstreams/impl.errBroken", Rows.laid_loop_example_soughtstreams_impl_errBroken), ("loop.example/soughtstreams/impl.errNumber", Rows.laid_loop_example_soughtstreams_impl_errNumber), ("loop.example/soughtstreams/impl.errLong", Rows.laid_loop_example_soughtstreams_impl_errLong), ("loop.example/soughtstreams/impl.layout", Rows.laid_loop_example_soughtstreams_impl_layout)] [.sentinel, .sentinel, .sentinel, .wider] true :=
  Program.laidByTextLater_by_one 76 8 16 (by kernel_rfl) (by kernel_rfl) (by kernel_rfl) (by kernel_rfl) (by kernel_rfl) (by kernel_rfl) (fun _ _ => by kernel_rfl)
theorem noOwnUnsafe : Tryd.pinned.checked.prog.headLifts.contains "ownunsafe" = false := by kernel_rfl
theorem tie : Tryd.prog.laidByTextLater [("loop.example/soughtstreams/impl.layout", Rows.laid_loop_example_soughtstreams_impl_layout)] [.wider] true :=
  Program.laidByTextLater.sub seatTie1 ["loop.example/soughtstreams/impl.layout"] (by kernel_rfl) (by kernel_rfl)
theorem fnExactLostNumbers_row_tie : Rows.fnExactLostNumbersRow.laidByTextAt .later Tryd.pinned [.wider] true :=
  OpenClaim.laidByTextAt_later rfl rfl tie noOwnUnsafe
theorem fnExactJoinPieces_row_tie : Rows.fnExactJoinPiecesRow.laidByTextAt .later Tryd.pinned [.wider] true :=
  OpenClaim.laidByTextAt_later rfl rfl tie noOwnUnsafe
theorem tie2 : Tryd.prog.laidByTextLater [("loop.example/soughtstreams/impl.errBroken", Rows.laid_loop_example_soughtstreams_impl_errBroken), ("loop.example/soughtstreams/impl.errNumber", Rows.laid_loop_example_soughtstreams_impl_errNumber), ("loop.example/soughtstreams/impl.errLong", Rows.laid_loop_example_soughtstreams_impl_errLong), ("loop.example/soughtstreams/impl.layout", Rows.laid_loop_example_soughtstreams_impl_layout)] [.sentinel, .sentinel, .sentinel, .wider] true :=
  Program.laidByTextLater.sub seatTie1 ["loop.example/soughtstreams/impl.errBroken", "loop.example/soughtstreams/impl.errNumber", "loop.example/soughtstreams/impl.errLong", "loop.example/soughtstreams/impl.layout"] (by kernel_rfl) (by kernel_rfl)
theorem fnExactParityOf_row_tie : Rows.fnExactParityOfRow.laidByTextAt .later Tryd.pinned [.sentinel, .sentinel, .sentinel, .wider] true :=
  OpenClaim.laidByTextAt_later rfl rfl tie2 noOwnUnsafe
theorem fnExactLostNumbersUpto_row_tie : Rows.fnExactLostNumbersUptoRow.laidByTextAt .later Tryd.pinned [.wider] true :=
  OpenClaim.laidByTextAt_later rfl rfl tie noOwnUnsafe
theorem fnExactJoinPiecesUpto_row_tie : Rows.fnExactJoinPiecesUptoRow.laidByTextAt .later Tryd.pinned [.wider] true :=
  OpenClaim.laidByTextAt_later rfl rfl tie noOwnUnsafe
theorem fnExactParityOfUpto_row_tie : Rows.fnExactParityOfUptoRow.laidByTextAt .later Tryd.pinned [.sentinel, .sentinel, .sentinel, .wider] true :=
  OpenClaim.laidByTextAt_later rfl rfl tie2 noOwnUnsafe
end Go.Proofs.YtdehancgadkfaaaDoor
