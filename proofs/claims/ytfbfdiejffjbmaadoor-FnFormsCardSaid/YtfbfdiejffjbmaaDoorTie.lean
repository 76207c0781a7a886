/-
  DERIVED. GIVEN WITH THE SEED: THE PROGRAM's TIES (one call each: nine closed facts by the kernel) AND EACH ROW's TIE, after the 31st guide's Derived/Test/Toyas{Tie, Card}.lean. No idea stands in it: it is a product of the set-up. Laid BY PROGRAM, IN A SANDBOX (cutbox-door.mjs). By AI agents, Wed Nov 11 2026. No macro, syntax, notation, axiom, sorry.
-/
import Derived.Test.YtfbfdiejffjbmaaDoorRows
import Derived.LaidByTextLater
import Derived.SevenTiedAt
import Derived.LaidSub
import Derived.LaidOnce
namespace Go.Proofs.YtfbfdiejffjbmaaDoor
open Go
set_option maxRecDepth 100000
theorem seatTie1 : Tryd.prog.laidByTextLater [("loop.example/g01013/impl.formNames", Rows.laid_loop_example_g01013_impl_formNames), ("loop.example/g01013/impl.formRules", Rows.laid_loop_example_g01013_impl_formRules)] [.data, .data] true :=
  Program.laidByTextLater_by_one 23 8 17 (by kernel_rfl) (by kernel_rfl) (by kernel_rfl) (by kernel_rfl) (by kernel_rfl) (by kernel_rfl) (fun _ _ => by kernel_rfl)
theorem noOwnUnsafe : Tryd.pinned.checked.prog.headLifts.contains "ownunsafe" = false := by kernel_rfl
theorem tie : Tryd.prog.laidByTextLater [("loop.example/g01013/impl.formNames", Rows.laid_loop_example_g01013_impl_formNames), ("loop.example/g01013/impl.formRules", Rows.laid_loop_example_g01013_impl_formRules)] [.data, .data] true :=
  Program.laidByTextLater.sub seatTie1 ["loop.example/g01013/impl.formNames", "loop.example/g01013/impl.formRules"] (by kernel_rfl) (by kernel_rfl)
theorem fnForms_row_tie : Rows.fnFormsRow.laidByTextAt .later Tryd.pinned [.data, .data] true :=
  OpenClaim.laidByTextAt_later rfl rfl tie noOwnUnsafe
theorem tie2 : Tryd.prog.laidByTextLater [("loop.example/g01013/impl.formRules", Rows.laid_loop_example_g01013_impl_formRules)] [.data] true :=
  Program.laidByTextLater.sub seatTie1 ["loop.example/g01013/impl.formRules"] (by kernel_rfl) (by kernel_rfl)
theorem fnExactChangeForms_row_tie : Rows.fnExactChangeFormsRow.laidByTextAt .later Tryd.pinned [.data] true :=
  OpenClaim.laidByTextAt_later rfl rfl tie2 noOwnUnsafe
theorem fnExactStepHour_row_tie : Rows.fnExactStepHourRow.laidByTextAt .later Tryd.pinned [.data] true :=
  OpenClaim.laidByTextAt_later rfl rfl tie2 noOwnUnsafe
theorem fnExactRunHours_row_tie : Rows.fnExactRunHoursRow.laidByTextAt .later Tryd.pinned [.data] true :=
  OpenClaim.laidByTextAt_later rfl rfl tie2 noOwnUnsafe
theorem fnFormsUpto_row_tie : Rows.fnFormsUptoRow.laidByTextAt .later Tryd.pinned [.data, .data] true :=
  OpenClaim.laidByTextAt_later rfl rfl tie noOwnUnsafe
theorem fnExactChangeFormsUpto_row_tie : Rows.fnExactChangeFormsUptoRow.laidByTextAt .later Tryd.pinned [.data] true :=
  OpenClaim.laidByTextAt_later rfl rfl tie2 noOwnUnsafe
theorem fnExactStepHourUpto_row_tie : Rows.fnExactStepHourUptoRow.laidByTextAt .later Tryd.pinned [.data] true :=
  OpenClaim.laidByTextAt_later rfl rfl tie2 noOwnUnsafe
theorem fnExactRunHoursUpto_row_tie : Rows.fnExactRunHoursUptoRow.laidByTextAt .later Tryd.pinned [.data] true :=
  OpenClaim.laidByTextAt_later rfl rfl tie2 noOwnUnsafe
end Go.Proofs.YtfbfdiejffjbmaaDoor
