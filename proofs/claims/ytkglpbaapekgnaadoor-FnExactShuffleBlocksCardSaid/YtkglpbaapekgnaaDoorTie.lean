/-
  DERIVED. GIVEN WITH THE SEED: THE PROGRAM's TIES (one call each: nine closed facts by the kernel) AND EACH ROW's TIE, after the 31st guide's Derived/Test/Toyas{Tie, Card}.lean. No idea stands in it: it is a product of the set-up. Laid BY PROGRAM, IN A SANDBOX (cutbox-door.mjs). By AI agents, Wed Nov 11 2026. No macro, syntax, notation, axiom, sorry.
-/
import Derived.Test.YtkglpbaapekgnaaDoorRows
import Derived.LaidByTextLater
import Derived.SevenTiedAt
import Derived.LaidSub
import Derived.LaidOnce
namespace Go.Proofs.YtkglpbaapekgnaaDoor
open Go
set_option maxRecDepth 100000
theorem seatTie1 : Tryd.prog.laidByTextLater [("loop.example/soughtstreams/impl.errBroken", Rows.laid_loop_example_soughtstreams_impl_errBroken), ("loop.example/soughtstreams/impl.errNumber", Rows.laid_loop_example_soughtstreams_impl_errNumber), ("loop.example/soughtstreams/impl.errLong", Rows.laid_loop_example_soughtstreams_impl_errLong), ("loop.example/soughtstreams/impl.layout", Rows.laid_loop_example_soughtstreams_impl_layout)] [.sentinel, .sentinel, .sentinel, .wider] true :=
  Program.laidByTextLater_by_one 76 8 16 (by kernel_rfl) (by kernel_rfl) (by kernel_rfl) (by kernel_rfl) (by kernel_rfl) (by kernel_rfl) (fun _ _ => by kernel_rfl)
theorem noOwnUnsafe : Tryd.pinned.checked.prog.headLifts.contains "ownunsafe" = false := by kernel_rfl
theorem tie : Tryd.prog.laidByTextLater [("loop.example/soughtstreams/impl.layout", Rows.laid_loop_example_soughtstreams_impl_layout)] [.wider] true :=
  Program.laidByTextLater.sub seatTie1 ["loop.example/soughtstreams/impl.layout"] (by kernel_rfl) (by kernel_rfl)
theorem fnExactFormatBlock_row_tie : Rows.fnExactFormatBlockRow.laidByTextAt .later Tryd.pinned [.wider] true :=
  OpenClaim.laidByTextAt_later rfl rfl tie noOwnUnsafe
theorem tie2 : Tryd.prog.laidByTextLater [("loop.example/soughtstreams/impl.errBroken", Rows.laid_loop_example_soughtstreams_impl_errBroken), ("loop.example/soughtstreams/impl.errNumber", Rows.laid_loop_example_soughtstreams_impl_errNumber), ("loop.example/soughtstreams/impl.errLong", Rows.laid_loop_example_soughtstreams_impl_errLong), ("loop.example/soughtstreams/impl.layout", Rows.laid_loop_example_soughtstreams_impl_layout)] [.sentinel, .sentinel, .sentinel, .wider] true :=
  Program.laidByTextLater.sub seatTie1 ["loop.example/soughtstreams/impl.errBroken", "loop.example/soughtstreams/impl.errNumber", "loop.example/soughtstreams/impl.errLong", "loop.example/soughtstreams/impl.layout"] (by kernel_rfl) (by kernel_rfl)
theorem fnExactContainerSize_row_tie : Rows.fnExactContainerSizeRow.laidByTextAt .later Tryd.pinned [.sentinel, .sentinel, .sentinel, .wider] true :=
  OpenClaim.laidByTextAt_later rfl rfl tie2 noOwnUnsafe
theorem fnExactCountRaw_row_tie : Rows.fnExactCountRawRow.laidByTextAt .later Tryd.pinned [.sentinel, .sentinel, .sentinel, .wider] true :=
  OpenClaim.laidByTextAt_later rfl rfl tie2 noOwnUnsafe
theorem fnExactIndexOf_row_tie : Rows.fnExactIndexOfRow.laidByTextAt .later Tryd.pinned [.sentinel, .sentinel, .sentinel, .wider] true :=
  OpenClaim.laidByTextAt_later rfl rfl tie2 noOwnUnsafe
theorem fnExactContainerBlocks_row_tie : Rows.fnExactContainerBlocksRow.laidByTextAt .later Tryd.pinned [.sentinel, .sentinel, .sentinel, .wider] true :=
  OpenClaim.laidByTextAt_later rfl rfl tie2 noOwnUnsafe
theorem fnExactTouchedBlocks_row_tie : Rows.fnExactTouchedBlocksRow.laidByTextAt .later Tryd.pinned [.sentinel, .sentinel, .sentinel, .wider] true :=
  OpenClaim.laidByTextAt_later rfl rfl tie2 noOwnUnsafe
theorem fnExactJoinContainers_row_tie : Rows.fnExactJoinContainersRow.laidByTextAt .later Tryd.pinned [.sentinel, .sentinel, .sentinel, .wider] true :=
  OpenClaim.laidByTextAt_later rfl rfl tie2 noOwnUnsafe
theorem fnExactTakeBlocks_row_tie : Rows.fnExactTakeBlocksRow.laidByTextAt .later Tryd.pinned [.sentinel, .sentinel, .sentinel, .wider] true :=
  OpenClaim.laidByTextAt_later rfl rfl tie2 noOwnUnsafe
theorem fnExactSameBlocks_row_tie : Rows.fnExactSameBlocksRow.laidByTextAt .later Tryd.pinned [.sentinel, .sentinel, .sentinel, .wider] true :=
  OpenClaim.laidByTextAt_later rfl rfl tie2 noOwnUnsafe
theorem fnExactShuffleBlocks_row_tie : Rows.fnExactShuffleBlocksRow.laidByTextAt .later Tryd.pinned [.sentinel, .sentinel, .sentinel, .wider] true :=
  OpenClaim.laidByTextAt_later rfl rfl tie2 noOwnUnsafe
theorem fnExactFormatBlockUpto_row_tie : Rows.fnExactFormatBlockUptoRow.laidByTextAt .later Tryd.pinned [.wider] true :=
  OpenClaim.laidByTextAt_later rfl rfl tie noOwnUnsafe
theorem fnExactContainerSizeUpto_row_tie : Rows.fnExactContainerSizeUptoRow.laidByTextAt .later Tryd.pinned [.sentinel, .sentinel, .sentinel, .wider] true :=
  OpenClaim.laidByTextAt_later rfl rfl tie2 noOwnUnsafe
theorem fnExactCountRawUpto_row_tie : Rows.fnExactCountRawUptoRow.laidByTextAt .later Tryd.pinned [.sentinel, .sentinel, .sentinel, .wider] true :=
  OpenClaim.laidByTextAt_later rfl rfl tie2 noOwnUnsafe
theorem fnExactIndexOfUpto_row_tie : Rows.fnExactIndexOfUptoRow.laidByTextAt .later Tryd.pinned [.sentinel, .sentinel, .sentinel, .wider] true :=
  OpenClaim.laidByTextAt_later rfl rfl tie2 noOwnUnsafe
theorem fnExactContainerBlocksUpto_row_tie : Rows.fnExactContainerBlocksUptoRow.laidByTextAt .later Tryd.pinned [.sentinel, .sentinel, .sentinel, .wider] true :=
  OpenClaim.laidByTextAt_later rfl rfl tie2 noOwnUnsafe
theorem fnExactTouchedBlocksUpto_row_tie : Rows.fnExactTouchedBlocksUptoRow.laidByTextAt .later Tryd.pinned [.sentinel, .sentinel, .sentinel, .wider] true :=
  OpenClaim.laidByTextAt_later rfl rfl tie2 noOwnUnsafe
theorem fnExactJoinContainersUpto_row_tie : Rows.fnExactJoinContainersUptoRow.laidByTextAt .later Tryd.pinned [.sentinel, .sentinel, .sentinel, .wider] true :=
  OpenClaim.laidByTextAt_later rfl rfl tie2 noOwnUnsafe
theorem fnExactTakeBlocksUpto_row_tie : Rows.fnExactTakeBlocksUptoRow.laidByTextAt .later Tryd.pinned [.sentinel, .sentinel, .sentinel, .wider] true :=
  OpenClaim.laidByTextAt_later rfl rfl tie2 noOwnUnsafe
theorem fnExactSameBlocksUpto_row_tie : Rows.fnExactSameBlocksUptoRow.laidByTextAt .later Tryd.pinned [.sentinel, .sentinel, .sentinel, .wider] true :=
  OpenClaim.laidByTextAt_later rfl rfl tie2 noOwnUnsafe
theorem fnExactShuffleBlocksUpto_row_tie : Rows.fnExactShuffleBlocksUptoRow.laidByTextAt .later Tryd.pinned [.sentinel, .sentinel, .sentinel, .wider] true :=
  OpenClaim.laidByTextAt_later rfl rfl tie2 noOwnUnsafe
end Go.Proofs.YtkglpbaapekgnaaDoor
