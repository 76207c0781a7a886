/-
  ShareOf of chapter 6, by the program and by the model. No condition of its own.
-/
import Derived.Test.YtommcckihanedaaGreatDoorUnits
import Derived.Test.YtommcckihanedaaGreatDoorBlend
import Derived.Test.YtommcckihanedaaGreatDoorLine
namespace Go.Proofs.YtommcckihanedaaGreatDoor
open Go.RowKit
set_option linter.unusedVariables false
set_option maxRecDepth 100000

/-- the share at a speed, and its code -/
def shrV (s : Int) : Int := Ar.line 500 0 2500 1000 s
theorem shr_line (s : Int) : Ar.bl 500 0 2500 1000 s = shrV s := by unfold Ar.bl shrV; rw [if_pos (by decide)]
set_option maxHeartbeats 800000 in
theorem implShareOf_any (s : Int) (w : World) :
    Calls Tryz.prog 16 #[.int .i64 s] w fun e w' => e = .returned (.tuple #[.int .i64 (rv (Ar.inB 0 s 100000) (shrV s)), .int .i64 (rc (Ar.inB 0 s 100000) 2)]) ∧ w = w' := by
  have CS := Lib.hid (within_any s 0 100000 w)
  have CL := Lib.hid (implBlend_any 500 0 2500 1000 s w)
  rw [shr_line] at CL
  rcases in_cases 0 s 100000 with ⟨h1, h2, hi⟩ | ⟨hn, hi⟩
  · rw [hi] at CS
    rw [hi, rv_t, rc_t]
    clear hi h1 h2
    generalize shrV s = q at *
    go_enter Tryz.func16, Tryz.ntmps16
    go_wp2_with fail
    refine CS.out.mono ?_
    rintro e w' ⟨rfl, rfl⟩
    go_wp2_with fail
    refine CL.out.mono ?_
    rintro e w' ⟨rfl, rfl⟩
    go_wp2_with fail
    go_ret2
    exact ⟨rfl, rfl⟩
  · rw [hi] at CS
    rw [hi, rv_f, rc_f]
    clear hi hn
    go_enter Tryz.func16, Tryz.ntmps16
    go_wp2_with fail
    refine CS.out.mono ?_
    rintro e w' ⟨rfl, rfl⟩
    go_wp2_with fail
    go_ret2
    exact ⟨rfl, rfl⟩
end Go.Proofs.YtommcckihanedaaGreatDoor
