/-
  DERIVED. GIVEN WITH THE SEED: THE PROGRAM's TIES (one call each: nine closed facts by the kernel) AND EACH ROW's TIE, after the 31st guide's Derived/Test/Toyas{Tie, Card}.lean. No idea stands in it: it is a product of the set-up. Laid BY PROGRAM, IN A SANDBOX (cutbox-door.mjs). By AI agents, Wed Nov 11 2026. No macro, syntax, notation, axiom, sorry.
-/
import Derived.Test.YtbmkagngbmfcbaaDoorRows
import Derived.LaidByTextLater
import Derived.SevenTiedAt
import Derived.LaidSub
import Derived.LaidOnce
namespace Go.Proofs.YtbmkagngbmfcbaaDoor
open Go
set_option maxRecDepth 100000
theorem seatTie1 : Tryd.prog.laidByTextLater [("loop.example/soughtstreams/impl.layout", Rows.laid_loop_example_soughtstreams_impl_layout), ("loop.example/soughtstreams/impl.forms", Rows.laid_loop_example_soughtstreams_impl_forms)] [.wider, .wider] true :=
  Program.laidByTextLater_by_one 29 8 21 (by kernel_rfl) (by kernel_rfl) (by kernel_rfl) (by kernel_rfl) (by kernel_rfl) (by kernel_rfl) (fun _ _ => by kernel_rfl)
theorem noOwnUnsafe : Tryd.pinned.checked.prog.headLifts.contains "ownunsafe" = false := by kernel_rfl
theorem tie : Tryd.prog.laidByTextLater [("loop.example/soughtstreams/impl.layout", Rows.laid_loop_example_soughtstreams_impl_layout), ("loop.example/soughtstreams/impl.forms", Rows.laid_loop_example_soughtstreams_impl_forms)] [.wider, .wider] true :=
  Program.laidByTextLater.sub seatTie1 ["loop.example/soughtstreams/impl.layout", "loop.example/soughtstreams/impl.forms"] (by kernel_rfl) (by kernel_rfl)
theorem fnExactOpValid_row_tie : Rows.fnExactOpValidRow.laidByTextAt .later Tryd.pinned [.wider, .wider] true :=
  OpenClaim.laidByTextAt_later rfl rfl tie noOwnUnsafe
theorem fnExactOpValidUpto_row_tie : Rows.fnExactOpValidUptoRow.laidByTextAt .later Tryd.pinned [.wider, .wider] true :=
  OpenClaim.laidByTextAt_later rfl rfl tie noOwnUnsafe
end Go.Proofs.YtbmkagngbmfcbaaDoor
