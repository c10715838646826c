/-
  DERIVED. GIVEN WITH THE SEED: THE PROGRAM's TIES (one call each: nine closed facts by the kernel) AND EACH ROW's TIE, after the 31st guide's Derived/Test/Toyas{Tie, Card}.lean. No idea stands in it: it is a product of the set-up. Laid BY PROGRAM, IN A SANDBOX (cutbox-door.mjs). By AI agents, Wed Nov 11 2026. No macro, syntax, notation, axiom, sorry.
-/
import Derived.Test.YtdphpjnecjofeaaGreatDoorRows
import Derived.LaidByTextLater
import Derived.SevenTiedAt
import Derived.LaidSub
import Derived.LaidOnce
namespace Go.Proofs.YtdphpjnecjofeaaGreatDoor
open Go
set_option maxRecDepth 100000
theorem seatTie1 : Tryz.prog.laidByTextLater [("errors.errorType", Rows.laid_errors_errorType), ("loop.example/g00767/impl.kindNames", Rows.laid_loop_example_g00767_impl_kindNames), ("loop.example/g00767/impl.errKind", Rows.laid_loop_example_g00767_impl_errKind), ("loop.example/g00767/impl.errOften", Rows.laid_loop_example_g00767_impl_errOften), ("loop.example/g00767/impl.errPhase", Rows.laid_loop_example_g00767_impl_errPhase), ("loop.example/g00767/impl.errState", Rows.laid_loop_example_g00767_impl_errState), ("loop.example/g00767/impl.errBudget", Rows.laid_loop_example_g00767_impl_errBudget)] [.handle, .data, .sentinel, .sentinel, .sentinel, .sentinel, .sentinel] true :=
  Program.laidByTextLater_by_one 116 8 14 (by kernel_rfl) (by kernel_rfl) (by kernel_rfl) (by kernel_rfl) (by kernel_rfl) (by kernel_rfl) (fun _ _ => by kernel_rfl)
theorem noOwnUnsafe : Tryz.pinned.checked.prog.headLifts.contains "ownunsafe" = false := by kernel_rfl
theorem tie : Tryz.prog.laidByTextLater [("loop.example/g00767/impl.kindNames", Rows.laid_loop_example_g00767_impl_kindNames)] [.data] true :=
  Program.laidByTextLater.sub seatTie1 ["loop.example/g00767/impl.kindNames"] (by kernel_rfl) (by kernel_rfl)
theorem fnExactAppliedRec_row_tie : Rows.fnExactAppliedRecRow.laidByTextAt .later Tryz.pinned [.data] true :=
  OpenClaim.laidByTextAt_later rfl rfl tie noOwnUnsafe
theorem fnExactAppliedAll_row_tie : Rows.fnExactAppliedAllRow.laidByTextAt .later Tryz.pinned [.data] true :=
  OpenClaim.laidByTextAt_later rfl rfl tie noOwnUnsafe
theorem tie2 : Tryz.prog.laidByTextLater [("errors.errorType", Rows.laid_errors_errorType), ("loop.example/g00767/impl.errKind", Rows.laid_loop_example_g00767_impl_errKind), ("loop.example/g00767/impl.errOften", Rows.laid_loop_example_g00767_impl_errOften), ("loop.example/g00767/impl.errPhase", Rows.laid_loop_example_g00767_impl_errPhase), ("loop.example/g00767/impl.errState", Rows.laid_loop_example_g00767_impl_errState), ("loop.example/g00767/impl.errBudget", Rows.laid_loop_example_g00767_impl_errBudget)] [.handle, .sentinel, .sentinel, .sentinel, .sentinel, .sentinel] true :=
  Program.laidByTextLater.sub seatTie1 ["errors.errorType", "loop.example/g00767/impl.errKind", "loop.example/g00767/impl.errOften", "loop.example/g00767/impl.errPhase", "loop.example/g00767/impl.errState", "loop.example/g00767/impl.errBudget"] (by kernel_rfl) (by kernel_rfl)
theorem fnExactCommanded_row_tie : Rows.fnExactCommandedRow.laidByTextAt .later Tryz.pinned [.handle, .sentinel, .sentinel, .sentinel, .sentinel, .sentinel] true :=
  OpenClaim.laidByTextAt_later rfl rfl tie2 noOwnUnsafe
theorem fnExactPlanned_row_tie : Rows.fnExactPlannedRow.laidByTextAt .later Tryz.pinned [.handle, .sentinel, .sentinel, .sentinel, .sentinel, .sentinel] true :=
  OpenClaim.laidByTextAt_later rfl rfl tie2 noOwnUnsafe
theorem fnExactAppliedRecUpto_row_tie : Rows.fnExactAppliedRecUptoRow.laidByTextAt .later Tryz.pinned [.data] true :=
  OpenClaim.laidByTextAt_later rfl rfl tie noOwnUnsafe
theorem fnExactAppliedAllUpto_row_tie : Rows.fnExactAppliedAllUptoRow.laidByTextAt .later Tryz.pinned [.data] true :=
  OpenClaim.laidByTextAt_later rfl rfl tie noOwnUnsafe
theorem fnExactCommandedUpto_row_tie : Rows.fnExactCommandedUptoRow.laidByTextAt .later Tryz.pinned [.handle, .sentinel, .sentinel, .sentinel, .sentinel, .sentinel] true :=
  OpenClaim.laidByTextAt_later rfl rfl tie2 noOwnUnsafe
theorem fnExactPlannedUpto_row_tie : Rows.fnExactPlannedUptoRow.laidByTextAt .later Tryz.pinned [.handle, .sentinel, .sentinel, .sentinel, .sentinel, .sentinel] true :=
  OpenClaim.laidByTextAt_later rfl rfl tie2 noOwnUnsafe
end Go.Proofs.YtdphpjnecjofeaaGreatDoor
