/-
  The walk of the law FnExactSameProfile and what it stands on: For every two slices of layers (nil, shared and with spare room too) the program's SameProfile answers as its model and leaves its arguments as they were: the law returns true and writes nothing that was there. No condition (beyond 2^20 layers together the law itself returns true).
-/
import Derived.Test.YtnflndngkihaaabRows
import Derived.Test.YtnflndngkihaaabSame
import Derived.Test.YtnflndngkihaaabOpen
import Derived.WalkKit
import Derived.WalkSpells
import Derived.WalkLawsBesides
import Derived.Outline
import Derived.IntWalk
import Derived.Lib.Hide
import Derived.ProofKit
import Derived.OpenShut
import Derived.ShutString
import Derived.ChangeOld
import Derived.ChangeVars
import Derived.Below
import Derived.WalkSmall
namespace Go.Proofs.Ytnflndngkihaaab.fnExactSameProfile
open Go.ChangeShapes Go.WideShapes Go.ChangeAt Go.RowKit
open Go.ChangeMaps (open_string shut_string)
set_option linter.unusedVariables false

theorem walk (a0 : Option Addr) (cap0 : Nat) (xs0 : List Lay) (a1 : Option Addr) (cap1 : Nat) (xs1 : List Lay) (w : World) (w0 : LSl w (.slice a0 xs0.length cap0) xs0) (m0 : xs0.length ≤ maxLen) (w1 : LSl w (.slice a1 xs1.length cap1) xs1) (m1 : xs1.length ≤ maxLen) :
    Calls Try.prog 3 #[.slice a0 xs0.length cap0, .slice a1 xs1.length cap1] w fun e w' => e = .returned (.bool true) ∧ Below w.heap.size w w' := by
  unfold maxLen at m0 m1
  by_cases hb0 : xs0.length ≤ 1048576
  · have hz : ¬ (1048576 : Int) - xs0.length < 0 := by omega
    have HV := Lib.hid w0
    have HU := Lib.hid w1
    have Z := Lib.hid (szLayerS_in w a0 xs0.length cap0 1048576 (by omega) (by omega))
    clear w0 w1
    by_cases hb1 : xs0.length + xs1.length ≤ 1048576
    · have hz1 : ¬ (1048576 : Int) - xs0.length - xs1.length < 0 := by omega
      have hb2 : xs1.length ≤ 1048576 := by omega
      have Z1 := Lib.hid (szLayerS_in w a1 xs1.length cap1 ((1048576 : Int) - xs0.length) (by omega) (by omega))
      go_enter Try.func3, Try.ntmps3
      go_wp2_with fail
      refine Z.out.mono ?_
      rintro e w0 ⟨rfl, rfl⟩
      go_wp2_with fail
      refine Z1.out.mono ?_
      rintro e w0 ⟨rfl, rfl⟩
      go_wp2_with fail
      refine (toLayerS_any _ _ xs0 HV.out hb0).mono ?_
      rintro e w1 ⟨u1, rfl, o1, b1⟩
      have B1 := Lib.hid b1
      have S1 := Lib.hid o1.sl
      clear b1 o1
      go_wp2_with fail
      refine (toLayerS_any _ _ xs1 (HU.out.below B1.out) hb2).mono ?_
      rintro e w2 ⟨u2, rfl, o2, b2⟩
      have B2 := Lib.hid (bt B1.out b2)
      have S2 := Lib.hid o2.sl
      have S12 := Lib.hid (S1.out.below b2)
      clear b2 o2
      go_wp2_with fail
      refine (specSameProfile_any _ _ _ xs0 xs1 S12.out S2.out hb0 hb2).mono ?_
      rintro e w3 ⟨rfl, b3⟩
      have B3 := Lib.hid (bt B2.out b3)
      clear b3
      go_wp2_with fail
      refine (toLayerS_any _ _ xs0 (HV.out.below B3.out) hb0).mono ?_
      rintro e w4 ⟨u4, rfl, o4, b4⟩
      have B4 := Lib.hid (bt B3.out b4)
      have S4 := Lib.hid o4.sl
      clear b4 o4
      go_wp2_with fail
      refine (toLayerS_any _ _ xs1 (HU.out.below B4.out) hb2).mono ?_
      rintro e w5 ⟨u5, rfl, o5, b5⟩
      have B5 := Lib.hid (bt B4.out b5)
      have S5 := Lib.hid o5.sl
      have S45 := Lib.hid (S4.out.below b5)
      clear b5 o5
      go_wp2_with fail
      refine (implSameProfile_any _ _ _ xs0 xs1 S45.out S5.out hb0 hb2).mono ?_
      rintro e w6 ⟨rfl, b6⟩
      have B6 := Lib.hid (bt B5.out b6)
      have S46 := Lib.hid (S45.out.below b6)
      have S56 := Lib.hid (S5.out.below b6)
      clear b6
      go_wp2_with fail
      refine (toLayerS_any _ _ xs0 (HV.out.below B6.out) hb0).mono ?_
      rintro e w7 ⟨u7, rfl, o7, b7⟩
      have B7 := Lib.hid (bt B6.out b7)
      have S7 := Lib.hid o7.sl
      have S47 := Lib.hid (S46.out.below b7)
      have S57 := Lib.hid (S56.out.below b7)
      clear b7 o7
      go_wp2_with fail
      refine (eqLayerS_any _ _ _ xs0 xs0 S47.out S7.out hb0 hb0).mono ?_
      rintro e w8 ⟨rfl, b8⟩
      have B8 := Lib.hid (bt B7.out b8)
      have S58 := Lib.hid (S57.out.below b8)
      clear b8
      rw [La.eqP_self]
      go_wp2_with fail
      refine (toLayerS_any _ _ xs1 (HU.out.below B8.out) hb2).mono ?_
      rintro e w9 ⟨u9, rfl, o9, b9⟩
      have B9 := Lib.hid (bt B8.out b9)
      have S9 := Lib.hid o9.sl
      have S59 := Lib.hid (S58.out.below b9)
      clear b9 o9
      go_wp2_with fail
      refine (eqLayerS_any _ _ _ xs1 xs1 S59.out S9.out hb2 hb2).mono ?_
      rintro e w10 ⟨rfl, b10⟩
      have B10 := Lib.hid (bt B9.out b10)
      clear b10
      rw [La.eqP_self]
      go_wp2_with fail
      go_ret
      exact ⟨rfl, B10.out⟩
    · have hz1 : (1048576 : Int) - xs0.length < xs1.length := by omega
      have Z1 := Lib.hid (szLayerS_out w a1 xs1.length cap1 ((1048576 : Int) - xs0.length) (by omega) hz1 (by omega))
      go_enter Try.func3, Try.ntmps3
      go_wp2_with fail
      refine Z.out.mono ?_
      rintro e w0 ⟨rfl, rfl⟩
      go_wp2_with fail
      refine Z1.out.mono ?_
      rintro e w0 ⟨rfl, rfl⟩
      go_wp2_with fail
      go_ret
      exact ⟨rfl, Below.refl _ _⟩
  · have hz : (1048576 : Int) < xs0.length := by omega
    have Z := Lib.hid (szLayerS_out w a0 xs0.length cap0 1048576 (by omega) hz (by omega))
    go_enter Try.func3, Try.ntmps3
    go_wp2_with fail
    refine Z.out.mono ?_
    rintro e w0 ⟨rfl, rfl⟩
    go_wp2_with fail
    go_ret
    exact ⟨rfl, Below.refl _ _⟩
end Go.Proofs.Ytnflndngkihaaab.fnExactSameProfile
