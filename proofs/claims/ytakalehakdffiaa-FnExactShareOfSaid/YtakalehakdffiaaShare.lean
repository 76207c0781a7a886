/-
  ShareOf of chapter 6, by the program and by the model. No condition of its own.
-/
import Derived.Test.YtakalehakdffiaaUnits
import Derived.Test.YtakalehakdffiaaBlend
import Derived.Test.YtakalehakdffiaaLine
namespace Go.Proofs.Ytakalehakdffiaa
open Go.RowKit
set_option linter.unusedVariables false
set_option maxRecDepth 100000

/-- the share at a speed, and its code -/
def shrV (s : Int) : Int := Ar.line 500 0 2500 1000 s
theorem shr_line (s : Int) : Ar.bl 500 0 2500 1000 s = shrV s := by unfold Ar.bl shrV; rw [if_pos (by decide)]
set_option maxHeartbeats 800000 in
theorem specShareOf_any (s : Int) (w : World) :
    Calls Try.prog 17 #[.int .i64 s] w fun e w' => e = .returned (.tuple #[.int .i64 (rv (Ar.inB 0 s 100000) (shrV s)), .int .i64 (rc (Ar.inB 0 s 100000) 2)]) ∧ w = w' := by
  have CS : Hid (Calls Try.prog 35 #[.int .i64 s] w fun e w' => e = .returned (.bool (Ar.inB 0 s 100000)) ∧ w = w') := Lib.hid (by
    go_enter Try.func35, Try.ntmps35
    go_wp2_with (go_at_call 46; refine (l00In_any _ _ _ _).mono ?_; rintro e w' ⟨rfl, rfl⟩)
    go_ret
    exact ⟨rfl, rfl⟩)
  rcases in_cases 0 s 100000 with ⟨h1, h2, hi⟩ | ⟨hn, hi⟩
  · have CL := Lib.hid (l01Line_any 500 0 2500 1000 s w (by omega) (by omega) (by omega) (by omega) (by omega) (by omega) (by omega) (by omega))
    rw [show Ar.line 500 0 2500 1000 s = shrV s from rfl] at CL
    rw [hi] at CS
    rw [hi, rv_t, rc_t]
    clear hi h1 h2
    generalize shrV s = q at *
    go_enter Try.func17, Try.ntmps17
    go_wp2_with fail
    refine CS.out.mono ?_
    rintro e w' ⟨rfl, rfl⟩
    go_wp2_with fail
    refine CL.out.mono ?_
    rintro e w' ⟨rfl, rfl⟩
    go_wp2_with fail
    go_ret2
    exact ⟨rfl, rfl⟩
  · rw [hi] at CS
    rw [hi, rv_f, rc_f]
    clear hi hn
    go_enter Try.func17, Try.ntmps17
    go_wp2_with fail
    refine CS.out.mono ?_
    rintro e w' ⟨rfl, rfl⟩
    go_wp2_with fail
    go_ret2
    exact ⟨rfl, rfl⟩
set_option maxHeartbeats 800000 in
theorem implShareOf_any (s : Int) (w : World) :
    Calls Try.prog 18 #[.int .i64 s] w fun e w' => e = .returned (.tuple #[.int .i64 (rv (Ar.inB 0 s 100000) (shrV s)), .int .i64 (rc (Ar.inB 0 s 100000) 2)]) ∧ w = w' := by
  have CS := Lib.hid (within_any s 0 100000 w)
  have CL := Lib.hid (implBlend_any 500 0 2500 1000 s w)
  rw [shr_line] at CL
  rcases in_cases 0 s 100000 with ⟨h1, h2, hi⟩ | ⟨hn, hi⟩
  · rw [hi] at CS
    rw [hi, rv_t, rc_t]
    clear hi h1 h2
    generalize shrV s = q at *
    go_enter Try.func18, Try.ntmps18
    go_wp2_with fail
    refine CS.out.mono ?_
    rintro e w' ⟨rfl, rfl⟩
    go_wp2_with fail
    refine CL.out.mono ?_
    rintro e w' ⟨rfl, rfl⟩
    go_wp2_with fail
    go_ret2
    exact ⟨rfl, rfl⟩
  · rw [hi] at CS
    rw [hi, rv_f, rc_f]
    clear hi hn
    go_enter Try.func18, Try.ntmps18
    go_wp2_with fail
    refine CS.out.mono ?_
    rintro e w' ⟨rfl, rfl⟩
    go_wp2_with fail
    go_ret2
    exact ⟨rfl, rfl⟩
end Go.Proofs.Ytakalehakdffiaa
