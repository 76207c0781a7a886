/-
  The walk of the law FnExactCompareStations and what it stands on: For every two slices of observations (nil, shared and with spare room too) the program's CompareStations answers as its model and leaves its arguments as they were: the law returns true and writes nothing that was there. No condition (beyond 2^20 observations together the law itself returns true).
-/
import Derived.Test.YtdfmgdmekflmeaaRows
import Derived.Test.YtdfmgdmekflmeaaObsP
import Derived.Test.YtdfmgdmekflmeaaObsS
import Derived.WalkKit
import Derived.WalkSpells
import Derived.WalkLawsBesides
import Derived.Outline
import Derived.IntWalk
import Derived.Lib.Hide
import Derived.ProofKit
import Derived.OpenShut
import Derived.ShutString
import Derived.ChangeOld
import Derived.ChangeVars
import Derived.Below
import Derived.WalkSmall
namespace Go.Proofs.Ytdfmgdmekflmeaa.fnExactCompareStations
open Go.ChangeShapes Go.WideShapes Go.ChangeAt Go.RowKit
open Go.ChangeMaps (open_string shut_string)
set_option linter.unusedVariables false

theorem walk (a0 : Option Addr) (cap0 : Nat) (xs0 : List Obs) (a1 : Option Addr) (cap1 : Nat) (xs1 : List Obs) (w : World) (w0 : ObSl w (.slice a0 xs0.length cap0) xs0) (m0 : xs0.length ≤ maxLen) (w1 : ObSl w (.slice a1 xs1.length cap1) xs1) (m1 : xs1.length ≤ maxLen) :
    Calls Try.prog 15 #[.slice a0 xs0.length cap0, .slice a1 xs1.length cap1] w fun e w' => e = .returned (.bool true) ∧ Below w.heap.size w w' := by
  unfold maxLen at m0
  unfold maxLen at m1
  by_cases hb0 : xs0.length ≤ 1048576
  · have hn0 : ¬ (1048576 : Int) - xs0.length < 0 := by omega
    have hl0 : xs0.length ≤ 1048576 := by omega
    have Z0 := Lib.hid (szObservedS_in w a0 xs0.length cap0 (1048576 : Int) (by omega) (by omega))
    by_cases hb1 : xs0.length + xs1.length ≤ 1048576
    · have hn1 : ¬ ((1048576 : Int) - xs0.length) - xs1.length < 0 := by omega
      have hl1 : xs1.length ≤ 1048576 := by omega
      have Z1 := Lib.hid (szObservedS_in w a1 xs1.length cap1 ((1048576 : Int) - xs0.length) (by omega) (by omega))
      have HV0 := Lib.hid w0
      have HV1 := Lib.hid w1
      clear w0 w1
      go_enter Try.func15, Try.ntmps15
      go_wp2_with fail
      refine Z0.out.mono ?_
      rintro e _ ⟨rfl, rfl⟩
      go_wp2_with fail
      refine Z1.out.mono ?_
      rintro e _ ⟨rfl, rfl⟩
      go_wp2_with fail
      refine (toObservedS_at _ _ xs0 HV0.out hl0).mono ?_
      rintro e v1 ⟨rfl, o1, b1⟩
      have z1 := Lib.hid b1.size
      have B1 := Lib.hid b1
      have p0_1 := Lib.hid o1
      clear b1 o1
      go_wp2_with fail
      refine (toObservedS_at _ _ xs1 (HV1.out.below B1.out) hl1).mono ?_
      rintro e v2 ⟨rfl, o2, b2⟩
      have z2 := Lib.hid b2.size
      have B2 := Lib.hid (bt B1.out b2)
      have p0_2 := Lib.hid (p0_1.out.belowAll b2)
      clear p0_1
      have p1_2 := Lib.hid o2
      clear b2 o2
      go_wp2_with fail
      refine (specCompareStations_any _ _ xs0 _ xs1 p0_2.out.sl hl0 p1_2.out.sl hl1).mono ?_
      rintro e v3 ⟨rfl, b3⟩
      clear p0_2
      clear p1_2
      have z3 := Lib.hid b3.size
      have B3 := Lib.hid (bt B2.out b3)
      clear b3
      go_wp2_with fail
      refine (toObservedS_at _ _ xs0 (HV0.out.below B3.out) hl0).mono ?_
      rintro e v4 ⟨rfl, o4, b4⟩
      have z4 := Lib.hid b4.size
      have B4 := Lib.hid (bt B3.out b4)
      have x0_4 := Lib.hid o4
      clear b4 o4
      go_wp2_with fail
      refine (toObservedS_at _ _ xs1 (HV1.out.below B4.out) hl1).mono ?_
      rintro e v5 ⟨rfl, o5, b5⟩
      have z5 := Lib.hid b5.size
      have B5 := Lib.hid (bt B4.out b5)
      have x0_5 := Lib.hid (x0_4.out.belowAll b5)
      clear x0_4
      have x1_5 := Lib.hid o5
      clear b5 o5
      go_wp2_with fail
      refine (implCompareStations_any _ _ xs0 _ xs1 x0_5.out.sl hl0 x1_5.out.sl hl1).mono ?_
      rintro e v6 ⟨rfl, b6⟩
      have z6 := Lib.hid b6.size
      have B6 := Lib.hid (bt B5.out b6)
      have x0_6 := Lib.hid (x0_5.out.belowAll b6)
      clear x0_5
      have x1_6 := Lib.hid (x1_5.out.belowAll b6)
      clear x1_5
      clear b6
      go_wp2_with fail
      refine (toObservedS_at _ _ xs0 (HV0.out.below B6.out) hl0).mono ?_
      rintro e v7 ⟨rfl, o7, b7⟩
      have z7 := Lib.hid b7.size
      have B7 := Lib.hid (bt B6.out b7)
      have x0_7 := Lib.hid (x0_6.out.belowAll b7)
      clear x0_6
      have x1_7 := Lib.hid (x1_6.out.belowAll b7)
      clear x1_6
      have y7 := Lib.hid o7
      clear b7 o7
      go_wp2_with fail
      refine (eqObservedS_any _ _ _ xs0 xs0 x0_7.out.sl y7.out.sl hl0 hl0).mono ?_
      rintro e v8 ⟨rfl, b8⟩
      clear y7
      clear x0_7
      have z8 := Lib.hid b8.size
      have B8 := Lib.hid (bt B7.out b8)
      have x1_8 := Lib.hid (x1_7.out.belowAll b8)
      clear x1_7
      clear b8
      rw [Ob.eqP_self]
      go_wp2_with fail
      refine (toObservedS_at _ _ xs1 (HV1.out.below B8.out) hl1).mono ?_
      rintro e v9 ⟨rfl, o9, b9⟩
      have z9 := Lib.hid b9.size
      have B9 := Lib.hid (bt B8.out b9)
      have x1_9 := Lib.hid (x1_8.out.belowAll b9)
      clear x1_8
      have y9 := Lib.hid o9
      clear b9 o9
      go_wp2_with fail
      refine (eqObservedS_any _ _ _ xs1 xs1 x1_9.out.sl y9.out.sl hl1 hl1).mono ?_
      rintro e v10 ⟨rfl, b10⟩
      clear y9
      clear x1_9
      have z10 := Lib.hid b10.size
      have B10 := Lib.hid (bt B9.out b10)
      clear b10
      rw [Ob.eqP_self]
      go_wp2_with fail
      go_ret
      exact ⟨rfl, B10.out⟩
    · have hn1 : ((1048576 : Int) - xs0.length) < xs1.length := by omega
      have Z1 := Lib.hid (szObservedS_out w a1 xs1.length cap1 ((1048576 : Int) - xs0.length) (by omega) hn1 (by omega))
      go_enter Try.func15, Try.ntmps15
      go_wp2_with fail
      refine Z0.out.mono ?_
      rintro e _ ⟨rfl, rfl⟩
      go_wp2_with fail
      refine Z1.out.mono ?_
      rintro e _ ⟨rfl, rfl⟩
      go_wp2_with fail
      go_ret
      exact ⟨rfl, Below.refl _ _⟩
  · have hn0 : (1048576 : Int) < xs0.length := by omega
    have Z0 := Lib.hid (szObservedS_out w a0 xs0.length cap0 (1048576 : Int) (by omega) hn0 (by omega))
    go_enter Try.func15, Try.ntmps15
    go_wp2_with fail
    refine Z0.out.mono ?_
    rintro e _ ⟨rfl, rfl⟩
    go_wp2_with fail
    go_ret
    exact ⟨rfl, Below.refl _ _⟩
end Go.Proofs.Ytdfmgdmekflmeaa.fnExactCompareStations
