/-
  When an observation is valid, by the model and by the program. No condition of its own.
-/
import Derived.Test.YtakalehakdffiabObsL
import Derived.Test.YtakalehakdffiabObsV
import Derived.Test.YtakalehakdffiabUnits
namespace Go.Proofs.Ytakalehakdffiab
open Go.RowKit Go.ChangeShapes Go.WideShapes
set_option linter.unusedVariables false
set_option maxRecDepth 100000

theorem l04Hour_any (n : Int) (w : World) :
    Calls Try.prog 93 #[.int .i64 n] w fun e w' => e = .returned (.bool (Ar.inB 0 n 100000)) ∧ w = w' := by
  go_enter Try.func93, Try.ntmps93
  go_wp2_with (go_at_call 64; refine (l00In_any _ _ _ _).mono ?_; rintro e w' ⟨rfl, rfl⟩)
  go_ret
  exact ⟨rfl, rfl⟩
set_option maxHeartbeats 1600000 in
theorem l04One_any (x : Obs) (b o : Nat) (w : World) (h : ObCells w b o x) :
    Calls Try.prog 55 #[.pointer (some ⟨b, o, none⟩)] w fun e w' => e = .returned (.bool (Ob.okO x)) ∧ w = w' := by
  obtain ⟨c0, c1, c2, c3⟩ := h
  go_enter Try.func55, Try.ntmps55
  go_wp2_with (first | (go_at_call 93; refine (l04Hour_any _ _).mono ?_; rintro e w' ⟨rfl, rfl⟩) | (go_at_call 64; refine (l00In_any _ _ _ _).mono ?_; rintro e w' ⟨rfl, rfl⟩))
  all_goals
    go_ret
    refine ⟨ret_bool ?_, rfl⟩
    first
      | exact (Ob.okO_0 (Ob.nt (by assumption))).symm
      | exact (Ob.okO_1 (Ob.nt (by assumption))).symm
      | exact (Ob.okO_2 (Ob.nt (by assumption))).symm
      | exact (Ob.okO_t (by assumption) (by assumption) (by assumption)).symm
theorem isObservedHour_any (n : Int) (w : World) :
    Calls Try.prog 95 #[.int .i64 n] w fun e w' => e = .returned (.bool (Ar.inB 0 n 100000)) ∧ w = w' := by
  go_enter Try.func95, Try.ntmps95
  go_wp2_with (go_at_call 76; refine (within_any _ _ _ _).mono ?_; rintro e w' ⟨rfl, rfl⟩)
  go_ret
  exact ⟨rfl, rfl⟩
set_option maxHeartbeats 1600000 in
theorem isWrong_any (x : Obs) (w : World) :
    Calls Try.prog 57 #[.agg #[.int .i64 x.ho, .int .i64 x.sn, .int .i64 x.dg, .int .i64 x.wi]] w fun e w' => e = .returned (.bool (!Ob.okO x)) ∧ Below w.heap.size w w' := by
  go_enter Try.func57, Try.ntmps57
  go_wp2_with (first | (go_at_call 95; refine (isObservedHour_any _ _).mono ?_; rintro e w' ⟨rfl, rfl⟩) | (go_at_call 76; refine (within_any _ _ _ _).mono ?_; rintro e w' ⟨rfl, rfl⟩))
  all_goals
    go_ret
    refine ⟨ret_bool ?_, (Below.refl _ _).alloc (Nat.le_refl _) _⟩
    first
      | (rw [Ob.okO_0 (x := x) (Ob.nt (by assumption))]; rfl)
      | (rw [Ob.okO_1 (x := x) (Ob.nt (by assumption))]; rfl)
      | (rw [Ob.okO_2 (x := x) (Ob.nt (by assumption))]; rfl)
      | rw [Ob.okO_t (x := x) (by assumption) (by assumption) (by assumption)]
end Go.Proofs.Ytakalehakdffiab
