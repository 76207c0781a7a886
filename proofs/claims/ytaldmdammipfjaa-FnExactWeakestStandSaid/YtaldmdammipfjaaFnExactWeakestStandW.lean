/-
  The walk of the law FnExactWeakestStand and what it stands on: For every list of stands (nil, shared and with spare room too; names of any bytes) and all numbers the program's WeakestStand answers as its model and leaves its arguments as they were: the law returns true and writes nothing that was there. No condition (beyond 2^20 elements and bytes the law itself returns true).
-/
import Derived.Test.YtaldmdammipfjaaRows
import Derived.Test.YtaldmdammipfjaaFoH
import Derived.Test.YtaldmdammipfjaaStdL
import Derived.Test.YtaldmdammipfjaaStdM
import Derived.Test.YtaldmdammipfjaaStdS
import Derived.WalkKit
import Derived.WalkSpells
import Derived.WalkLawsBesides
import Derived.Outline
import Derived.IntWalk
import Derived.Lib.Hide
import Derived.ProofKit
import Derived.OpenShut
import Derived.ShutString
import Derived.ChangeOld
import Derived.ChangeVars
import Derived.Below
import Derived.WalkSmall
namespace Go.Proofs.Ytaldmdammipfjaa.fnExactWeakestStand
open Go.ChangeShapes Go.WideShapes Go.ChangeAt Go.RowKit
open Go.ChangeMaps (open_string shut_string)
set_option linter.unusedVariables false

theorem walk (a0 : Option Addr) (cap0 : Nat) (xs0 : List Std) (a1 : Int) (w : World) (w0 : SnSl w (.slice a0 xs0.length cap0) xs0) (m0 : xs0.length ≤ maxLen) (bd0 : ∀ x ∈ xs0, Sn.Bd x) (w1 : (Lit.int .i64 a1).wf = true) :
    Calls Try.prog 7 #[.slice a0 xs0.length cap0, .int .i64 a1] w fun e w' => e = .returned (.bool true) ∧ Below w.heap.size w w' := by
  have BD0 := Lib.hid bd0
  clear bd0
  by_cases hb0 : xs0.length + Sn.szl xs0 ≤ 1048576
  · have hn0 : ¬ (1048576 : Int) - xs0.length - Sn.szl xs0 < 0 := by omega
    have hl0 : xs0.length ≤ 1048576 := by omega
    have hi0 : Sn.Sh xs0 := Sn.sh_of (by omega)
    have Z0 := Lib.hid (szStandS_in w (.slice a0 xs0.length cap0) xs0 w0 1048576 (by omega) (by omega))
    have HV0 := Lib.hid w0
    clear w0
    go_enter Try.func7, Try.ntmps7
    go_wp2_with fail
    refine Z0.out.mono ?_
    rintro e v1 ⟨rfl, b1⟩
    have zz1 := Lib.hid b1.size
    have B1 := Lib.hid b1
    clear b1
    go_wp2_with fail
    refine (toStandS_at _ _ xs0 (HV0.out.below B1.out) hl0).mono ?_
    rintro e v2 ⟨rfl, o2, b2⟩
    have zz2 := Lib.hid b2.size
    have B2 := Lib.hid (bt B1.out b2)
    have p0_2 := Lib.hid o2
    clear b2 o2
    go_wp2_with fail
    refine (specWeakestStand_any _ _ xs0 a1 p0_2.out.sl hl0 hi0).mono ?_
    rintro e v3 ⟨rfl, b3⟩
    clear p0_2
    have zz3 := Lib.hid b3.size
    have B3 := Lib.hid (bt B2.out b3)
    clear b3
    go_wp2_with fail
    refine (toStandS_at _ _ xs0 (HV0.out.below B3.out) hl0).mono ?_
    rintro e v4 ⟨rfl, o4, b4⟩
    have zz4 := Lib.hid b4.size
    have B4 := Lib.hid (bt B3.out b4)
    have x0_4 := Lib.hid o4
    clear b4 o4
    go_wp2_with fail
    refine (implWeakestStand_any _ _ xs0 a1 x0_4.out.sl hl0 hi0).mono ?_
    rintro e v5 ⟨rfl, b5⟩
    have zz5 := Lib.hid b5.size
    have B5 := Lib.hid (bt B4.out b5)
    have x0_5 := Lib.hid (x0_4.out.belowAll b5)
    clear x0_4
    clear b5
    go_wp2_with fail
    refine (toStandS_at _ _ xs0 (HV0.out.below B5.out) hl0).mono ?_
    rintro e v6 ⟨rfl, o6, b6⟩
    have zz6 := Lib.hid b6.size
    have B6 := Lib.hid (bt B5.out b6)
    have x0_6 := Lib.hid (x0_5.out.belowAll b6)
    clear x0_5
    have y6 := Lib.hid o6
    clear b6 o6
    go_wp2_with fail
    refine (eqStandS_any _ _ _ xs0 xs0 x0_6.out.sl y6.out.sl hl0 hl0).mono ?_
    rintro e v7 ⟨rfl, b7⟩
    clear y6
    clear x0_6
    have zz7 := Lib.hid b7.size
    have B7 := Lib.hid (bt B6.out b7)
    clear b7
    rw [Sn.eqP_self]
    go_wp2_with fail
    go_ret
    exact ⟨rfl, B7.out⟩
  · have Z0 := Lib.hid (szStandS_out w (.slice a0 xs0.length cap0) xs0 w0 BD0.out m0 1048576 (by omega) (by omega) (by omega))
    clear hb0
    go_enter Try.func7, Try.ntmps7
    go_wp2_with fail
    refine Z0.out.mono ?_
    rintro e v1 ⟨rfl, b1⟩
    have zz1 := Lib.hid b1.size
    have B1 := Lib.hid b1
    clear b1
    go_wp2_with fail
    go_ret
    exact ⟨rfl, B1.out⟩
end Go.Proofs.Ytaldmdammipfjaa.fnExactWeakestStand
