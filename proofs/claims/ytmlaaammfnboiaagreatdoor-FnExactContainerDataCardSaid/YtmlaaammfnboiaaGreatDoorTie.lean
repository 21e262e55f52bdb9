/-
  DERIVED. GIVEN WITH THE SEED: THE PROGRAM's TIES (one call each: nine closed facts by the kernel) AND EACH ROW's TIE, after the 31st guide's Derived/Test/Toyas{Tie, Card}.lean. No idea stands in it: it is a product of the set-up. Laid BY PROGRAM, IN A SANDBOX (cutbox-door.mjs). By AI agents, Wed Nov 11 2026. No macro, syntax, notation, axiom, sorry.
-/
import Derived.Test.YtmlaaammfnboiaaGreatDoorRows
import Derived.LaidByTextLater
import Derived.SevenTiedAt
import Derived.LaidSub
import Derived.LaidOnce
namespace Go.Proofs.YtmlaaammfnboiaaGreatDoor
open Go
set_option maxRecDepth 100000
theorem seatTie1 : Tryz.prog.laidByTextLater [("loop.example/soughtstreams/impl.errBroken", Rows.laid_loop_example_soughtstreams_impl_errBroken), ("loop.example/soughtstreams/impl.errNumber", Rows.laid_loop_example_soughtstreams_impl_errNumber), ("loop.example/soughtstreams/impl.errLong", Rows.laid_loop_example_soughtstreams_impl_errLong), ("loop.example/soughtstreams/impl.layout", Rows.laid_loop_example_soughtstreams_impl_layout)] [.sentinel, .sentinel, .sentinel, .wider] true :=
  Program.laidByTextLater_by_one 76 8 16 (by kernel_rfl) (by kernel_rfl) (by kernel_rfl) (by kernel_rfl) (by kernel_rfl) (by kernel_rfl) (fun _ _ => by kernel_rfl)
theorem noOwnUnsafe : Tryz.pinned.checked.prog.headLifts.contains "ownunsafe" = false := by kernel_rfl
theorem tie : Tryz.prog.laidByTextLater [("loop.example/soughtstreams/impl.layout", Rows.laid_loop_example_soughtstreams_impl_layout)] [.wider] true :=
  Program.laidByTextLater.sub seatTie1 ["loop.example/soughtstreams/impl.layout"] (by kernel_rfl) (by kernel_rfl)
theorem fnExactBlockOf_row_tie : Rows.fnExactBlockOfRow.laidByTextAt .later Tryz.pinned [.wider] true :=
  OpenClaim.laidByTextAt_later rfl rfl tie noOwnUnsafe
theorem fnExactBlockData_row_tie : Rows.fnExactBlockDataRow.laidByTextAt .later Tryz.pinned [.wider] true :=
  OpenClaim.laidByTextAt_later rfl rfl tie noOwnUnsafe
theorem fnExactMakeContainer_row_tie : Rows.fnExactMakeContainerRow.laidByTextAt .later Tryz.pinned [.wider] true :=
  OpenClaim.laidByTextAt_later rfl rfl tie noOwnUnsafe
theorem tie2 : Tryz.prog.laidByTextLater [("loop.example/soughtstreams/impl.errBroken", Rows.laid_loop_example_soughtstreams_impl_errBroken), ("loop.example/soughtstreams/impl.errNumber", Rows.laid_loop_example_soughtstreams_impl_errNumber), ("loop.example/soughtstreams/impl.errLong", Rows.laid_loop_example_soughtstreams_impl_errLong), ("loop.example/soughtstreams/impl.layout", Rows.laid_loop_example_soughtstreams_impl_layout)] [.sentinel, .sentinel, .sentinel, .wider] true :=
  Program.laidByTextLater.sub seatTie1 ["loop.example/soughtstreams/impl.errBroken", "loop.example/soughtstreams/impl.errNumber", "loop.example/soughtstreams/impl.errLong", "loop.example/soughtstreams/impl.layout"] (by kernel_rfl) (by kernel_rfl)
theorem fnExactContainerData_row_tie : Rows.fnExactContainerDataRow.laidByTextAt .later Tryz.pinned [.sentinel, .sentinel, .sentinel, .wider] true :=
  OpenClaim.laidByTextAt_later rfl rfl tie2 noOwnUnsafe
theorem fnExactReadRange_row_tie : Rows.fnExactReadRangeRow.laidByTextAt .later Tryz.pinned [.sentinel, .sentinel, .sentinel, .wider] true :=
  OpenClaim.laidByTextAt_later rfl rfl tie2 noOwnUnsafe
theorem fnExactResizeBlocks_row_tie : Rows.fnExactResizeBlocksRow.laidByTextAt .later Tryz.pinned [.sentinel, .sentinel, .sentinel, .wider] true :=
  OpenClaim.laidByTextAt_later rfl rfl tie2 noOwnUnsafe
theorem fnExactAppendData_row_tie : Rows.fnExactAppendDataRow.laidByTextAt .later Tryz.pinned [.sentinel, .sentinel, .sentinel, .wider] true :=
  OpenClaim.laidByTextAt_later rfl rfl tie2 noOwnUnsafe
theorem fnExactTurnContainer_row_tie : Rows.fnExactTurnContainerRow.laidByTextAt .later Tryz.pinned [.sentinel, .sentinel, .sentinel, .wider] true :=
  OpenClaim.laidByTextAt_later rfl rfl tie2 noOwnUnsafe
theorem fnExactBlockOfUpto_row_tie : Rows.fnExactBlockOfUptoRow.laidByTextAt .later Tryz.pinned [.wider] true :=
  OpenClaim.laidByTextAt_later rfl rfl tie noOwnUnsafe
theorem fnExactBlockDataUpto_row_tie : Rows.fnExactBlockDataUptoRow.laidByTextAt .later Tryz.pinned [.wider] true :=
  OpenClaim.laidByTextAt_later rfl rfl tie noOwnUnsafe
theorem fnExactMakeContainerUpto_row_tie : Rows.fnExactMakeContainerUptoRow.laidByTextAt .later Tryz.pinned [.wider] true :=
  OpenClaim.laidByTextAt_later rfl rfl tie noOwnUnsafe
theorem fnExactContainerDataUpto_row_tie : Rows.fnExactContainerDataUptoRow.laidByTextAt .later Tryz.pinned [.sentinel, .sentinel, .sentinel, .wider] true :=
  OpenClaim.laidByTextAt_later rfl rfl tie2 noOwnUnsafe
theorem fnExactReadRangeUpto_row_tie : Rows.fnExactReadRangeUptoRow.laidByTextAt .later Tryz.pinned [.sentinel, .sentinel, .sentinel, .wider] true :=
  OpenClaim.laidByTextAt_later rfl rfl tie2 noOwnUnsafe
theorem fnExactResizeBlocksUpto_row_tie : Rows.fnExactResizeBlocksUptoRow.laidByTextAt .later Tryz.pinned [.sentinel, .sentinel, .sentinel, .wider] true :=
  OpenClaim.laidByTextAt_later rfl rfl tie2 noOwnUnsafe
theorem fnExactAppendDataUpto_row_tie : Rows.fnExactAppendDataUptoRow.laidByTextAt .later Tryz.pinned [.sentinel, .sentinel, .sentinel, .wider] true :=
  OpenClaim.laidByTextAt_later rfl rfl tie2 noOwnUnsafe
theorem fnExactTurnContainerUpto_row_tie : Rows.fnExactTurnContainerUptoRow.laidByTextAt .later Tryz.pinned [.sentinel, .sentinel, .sentinel, .wider] true :=
  OpenClaim.laidByTextAt_later rfl rfl tie2 noOwnUnsafe
end Go.Proofs.YtmlaaammfnboiaaGreatDoor
