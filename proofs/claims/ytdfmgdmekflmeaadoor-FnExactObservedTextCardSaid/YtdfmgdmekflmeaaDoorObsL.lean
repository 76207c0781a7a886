/-
  The laws' own helpers on Observed and slices of it. No condition of its own.
-/
import Derived.Test.YtdfmgdmekflmeaaDoorObsS
import Derived.Deep.QuietTactic
import Derived.BigQuiet
import Derived.StillTailTactics
namespace Go.Proofs.YtdfmgdmekflmeaaDoor
open Go.RowKit
set_option linter.unusedVariables false
set_option maxRecDepth 100000

set_option maxHeartbeats 1600000 in
theorem toObserved_any (x : Obs) (w : World) :
    Calls Tryd.prog 17 #[.agg #[.int .i64 x.ho, .int .i64 x.sn, .int .i64 x.dg, .int .i64 x.wi]] w fun e w' => e = .returned (.agg #[.int .i64 x.ho, .int .i64 x.sn, .int .i64 x.dg, .int .i64 x.wi]) ∧ Below w.heap.size w w' := by
  go_enter Tryd.func17, Tryd.ntmps17
  go_wp2
  exact bodyPost_ret (v := .agg #[.int .i64 x.ho, .int .i64 x.sn, .int .i64 x.dg, .int .i64 x.wi]) (by simp [results, Tryd.results17, go_sem]) rfl ⟨rfl, (((Below.refl _ _).alloc (Nat.le_refl _) _).alloc (by simp) _).alloc (by simp; omega) _⟩
set_option maxHeartbeats 1600000 in
theorem eqObserved_any (x y : Obs) (w : World) :
    Calls Tryd.prog 21 #[.agg #[.int .i64 x.ho, .int .i64 x.sn, .int .i64 x.dg, .int .i64 x.wi], .agg #[.int .i64 y.ho, .int .i64 y.sn, .int .i64 y.dg, .int .i64 y.wi]] w fun e w' => e = .returned (.bool (Ob.eqL x y)) ∧ Below w.heap.size w w' := by
  go_enter Tryd.func21, Tryd.ntmps21
  go_wp2
  all_goals
    go_ret
    refine ⟨ret_bool ?_, ((Below.refl _ _).alloc (Nat.le_refl _) _).alloc (by simp) _⟩
    first
      | exact (Ob.eqL_0 (by assumption)).symm
      | exact (Ob.eqL_1 (by assumption)).symm
      | exact (Ob.eqL_2 (by assumption)).symm
      | exact (Ob.eqL_3 (by assumption)).symm
      | exact (Ob.eqL_t (by assumption) (by assumption) (by assumption) (by assumption)).symm
end Go.Proofs.YtdfmgdmekflmeaaDoor
