/-
  When an observation is valid, by the model and by the program. No condition of its own.
-/
import Derived.Test.YtdfmgdmekflmeaaDoorObsL
import Derived.Test.YtdfmgdmekflmeaaDoorObsV
import Derived.Test.YtdfmgdmekflmeaaDoorUnits
namespace Go.Proofs.YtdfmgdmekflmeaaDoor
open Go.RowKit Go.ChangeShapes Go.WideShapes
set_option linter.unusedVariables false
set_option maxRecDepth 100000

theorem l04Hour_any (n : Int) (w : World) :
    Calls Tryd.prog 49 #[.int .i64 n] w fun e w' => e = .returned (.bool (Ar.inB 0 n 100000)) ∧ w = w' := by
  go_enter Tryd.func49, Tryd.ntmps49
  go_wp2_with (go_at_call 50; refine (l00In_any _ _ _ _).mono ?_; rintro e w' ⟨rfl, rfl⟩)
  go_ret
  exact ⟨rfl, rfl⟩
set_option maxHeartbeats 1600000 in
theorem l04One_any (x : Obs) (b o : Nat) (w : World) (h : ObCells w b o x) :
    Calls Tryd.prog 32 #[.pointer (some ⟨b, o, none⟩)] w fun e w' => e = .returned (.bool (Ob.okO x)) ∧ w = w' := by
  obtain ⟨c0, c1, c2, c3⟩ := h
  go_enter Tryd.func32, Tryd.ntmps32
  go_wp2_with (first | (go_at_call 49; refine (l04Hour_any _ _).mono ?_; rintro e w' ⟨rfl, rfl⟩) | (go_at_call 50; refine (l00In_any _ _ _ _).mono ?_; rintro e w' ⟨rfl, rfl⟩))
  all_goals
    go_ret
    refine ⟨ret_bool ?_, rfl⟩
    first
      | exact (Ob.okO_0 (Ob.nt (by assumption))).symm
      | exact (Ob.okO_1 (Ob.nt (by assumption))).symm
      | exact (Ob.okO_2 (Ob.nt (by assumption))).symm
      | exact (Ob.okO_t (by assumption) (by assumption) (by assumption)).symm
theorem isObservedHour_any (n : Int) (w : World) :
    Calls Tryd.prog 51 #[.int .i64 n] w fun e w' => e = .returned (.bool (Ar.inB 0 n 100000)) ∧ w = w' := by
  go_enter Tryd.func51, Tryd.ntmps51
  go_wp2_with (go_at_call 52; refine (within_any _ _ _ _).mono ?_; rintro e w' ⟨rfl, rfl⟩)
  go_ret
  exact ⟨rfl, rfl⟩
set_option maxHeartbeats 1600000 in
theorem isWrong_any (x : Obs) (w : World) :
    Calls Tryd.prog 34 #[.agg #[.int .i64 x.ho, .int .i64 x.sn, .int .i64 x.dg, .int .i64 x.wi]] w fun e w' => e = .returned (.bool (!Ob.okO x)) ∧ Below w.heap.size w w' := by
  go_enter Tryd.func34, Tryd.ntmps34
  go_wp2_with (first | (go_at_call 51; refine (isObservedHour_any _ _).mono ?_; rintro e w' ⟨rfl, rfl⟩) | (go_at_call 52; refine (within_any _ _ _ _).mono ?_; rintro e w' ⟨rfl, rfl⟩))
  all_goals
    go_ret
    refine ⟨ret_bool ?_, (Below.refl _ _).alloc (Nat.le_refl _) _⟩
    first
      | (rw [Ob.okO_0 (x := x) (Ob.nt (by assumption))]; rfl)
      | (rw [Ob.okO_1 (x := x) (Ob.nt (by assumption))]; rfl)
      | (rw [Ob.okO_2 (x := x) (Ob.nt (by assumption))]; rfl)
      | rw [Ob.okO_t (x := x) (by assumption) (by assumption) (by assumption)]
end Go.Proofs.YtdfmgdmekflmeaaDoor
