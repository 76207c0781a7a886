/-
  The walk of the law FnExactLoadAbove and what it stands on: For every slice of layers (nil, shared and with spare room too) and every int64 the program's LoadAbove answers as its model and leaves its argument as it was: the law returns true and writes nothing that was there. No condition (beyond 2^20 layers the law itself returns true).
-/
import Derived.Test.YtnflndngkihaaabRows
import Derived.Test.YtnflndngkihaaabLoad
import Derived.Test.YtnflndngkihaaabOpen
import Derived.WalkKit
import Derived.WalkSpells
import Derived.WalkLawsBesides
import Derived.Outline
import Derived.IntWalk
import Derived.Lib.Hide
import Derived.ProofKit
import Derived.OpenShut
import Derived.ShutString
import Derived.ChangeOld
import Derived.ChangeVars
import Derived.Below
import Derived.WalkSmall
namespace Go.Proofs.Ytnflndngkihaaab.fnExactLoadAbove
open Go.ChangeShapes Go.WideShapes Go.ChangeAt Go.RowKit
open Go.ChangeMaps (open_string shut_string)
set_option linter.unusedVariables false

theorem walk (a0 : Option Addr) (cap0 : Nat) (xs0 : List Lay) (a1 : Int) (w : World) (w0 : LSl w (.slice a0 xs0.length cap0) xs0) (m0 : xs0.length ≤ maxLen) (w1 : (Lit.int .i64 a1).wf = true) :
    Calls Try.prog 8 #[.slice a0 xs0.length cap0, .int .i64 a1] w fun e w' => e = .returned (.bool true) ∧ Below w.heap.size w w' := by
  unfold maxLen at m0
  by_cases hb0 : xs0.length ≤ 1048576
  · have hz : ¬ (1048576 : Int) - xs0.length < 0 := by omega
    have HV := Lib.hid w0
    have Z := Lib.hid (szLayerS_in w a0 xs0.length cap0 1048576 (by omega) (by omega))
    have C1 := fun B W v h => Lib.hid (specLoadAbove_any B W v xs0 a1 h hb0)
    have C2 := fun B W v h => Lib.hid (implLoadAbove_any B W v xs0 a1 h hb0)
    clear w0
    go_enter Try.func8, Try.ntmps8
    go_wp2_with fail
    refine Z.out.mono ?_
    rintro e w0 ⟨rfl, rfl⟩
    go_wp2_with fail
    refine (toLayerS_any _ _ xs0 HV.out hb0).mono ?_
    rintro e w1 ⟨u1, rfl, o1, b1⟩
    have B1 := Lib.hid b1
    have S1 := Lib.hid o1
    clear b1 o1
    go_wp2_with fail
    refine (C1 _ _ _ S1.out).out.mono ?_
    rintro e w2 ⟨rfl, b2⟩
    have B2 := Lib.hid (bt B1.out b2)
    clear b2
    go_wp2_with fail
    refine (toLayerS_any _ _ xs0 (HV.out.below B2.out) hb0).mono ?_
    rintro e w3 ⟨u3, rfl, o3, b3⟩
    have B3 := Lib.hid (bt B2.out b3)
    have S3 := Lib.hid o3
    clear b3 o3
    go_wp2_with fail
    refine (C2 _ _ _ S3.out).out.mono ?_
    rintro e w4 ⟨rfl, b4⟩
    have B4 := Lib.hid (bt B3.out b4)
    have S4 := Lib.hid (S3.out.sl.below b4)
    clear b4
    go_wp2_with fail
    refine (toLayerS_any _ _ xs0 (HV.out.below B4.out) hb0).mono ?_
    rintro e w5 ⟨u5, rfl, o5, b5⟩
    have B5 := Lib.hid (bt B4.out b5)
    have S5 := Lib.hid o5.sl
    have S45 := Lib.hid (S4.out.below b5)
    clear b5 o5
    go_wp2_with fail
    refine (eqLayerS_any _ _ _ xs0 xs0 S45.out S5.out hb0 hb0).mono ?_
    rintro e w6 ⟨rfl, b6⟩
    have B6 := Lib.hid (bt B5.out b6)
    clear b6
    rw [La.eqP_self]
    go_wp2_with fail
    go_ret
    exact ⟨rfl, B6.out⟩
  · have hz : (1048576 : Int) < xs0.length := by omega
    have Z := Lib.hid (szLayerS_out w a0 xs0.length cap0 1048576 (by omega) hz (by omega))
    go_enter Try.func8, Try.ntmps8
    go_wp2_with fail
    refine Z.out.mono ?_
    rintro e w0 ⟨rfl, rfl⟩
    go_wp2_with fail
    go_ret
    exact ⟨rfl, Below.refl _ _⟩
end Go.Proofs.Ytnflndngkihaaab.fnExactLoadAbove
