/-
  The walk of the law FnExactWeakestLayer and what it stands on: For every slice of layers (nil, shared and with spare room too) and all numbers the program's WeakestLayer answers as its model and leaves its argument as it was, where impl.strengthFactors holds what the program's text lays (tied by the card): the law returns true and writes nothing that was there. No other condition (beyond 2^20 layers the law itself returns true).
-/
import Derived.Test.YtaldmdammipfjaaDoorRows
import Derived.Test.YtaldmdammipfjaaDoorSmC
import Derived.Test.YtaldmdammipfjaaDoorStM
import Derived.Test.YtaldmdammipfjaaDoorStE
import Derived.Test.YtaldmdammipfjaaDoorClone
import Derived.Test.YtaldmdammipfjaaDoorOpen
import Derived.WalkKit
import Derived.WalkSpells
import Derived.WalkLawsBesides
import Derived.Outline
import Derived.IntWalk
import Derived.Lib.Hide
import Derived.ProofKit
import Derived.OpenShut
import Derived.ShutString
import Derived.ChangeOld
import Derived.ChangeVars
import Derived.Below
import Derived.WalkSmall
import Derived.Lib.LaidTab
import Derived.LaidMore
import Derived.LaidSub
namespace Go.Proofs.YtaldmdammipfjaaDoor.fnExactWeakestLayer
open Go.ChangeShapes Go.WideShapes Go.ChangeAt Go.RowKit
open Go.ChangeMaps (open_string shut_string)
set_option linter.unusedVariables false
set_option maxRecDepth 100000
set_option maxHeartbeats 3200000
theorem walk (a0 : Option Addr) (cap0 : Nat) (xs0 : List Lay) (a1 : Int) (a2 : Int) (a3 : Int) (w : World) (w0 : LSl w (.slice a0 xs0.length cap0) xs0) (m0 : xs0.length ≤ maxLen) (w1 : (Lit.int .i64 a1).wf = true) (w2 : (Lit.int .i64 a2).wf = true) (w3 : (Lit.int .i64 a3).wf = true) (hL : laidMetH Tryd.prog Rows.fnExactWeakestLayerRow.laid w) (hsh : w.ShapedOpen Tryd.prog) :
    Calls Tryd.prog 7 #[.slice a0 xs0.length cap0, .int .i64 a1, .int .i64 a2, .int .i64 a3] w fun e w' => e = .returned (.bool true) ∧ Below w.heap.size w w' := by
  have HW := Lib.hid (factors_of hL (by kernel_rfl))
  clear hL hsh
  unfold maxLen at m0
  by_cases hb0 : xs0.length ≤ 1048576
  · have hn0 : ¬ (1048576 : Int) - xs0.length < 0 := by omega
    have hl0 : xs0.length ≤ 1048576 := by omega
    have Z0 := Lib.hid (szLayerS_in w a0 xs0.length cap0 (1048576 : Int) (by omega) (by omega))
    have HV0 := Lib.hid w0
    clear w0
    go_enter Tryd.func7, Tryd.ntmps7
    go_wp2_with fail
    refine Z0.out.mono ?_
    rintro e _ ⟨rfl, rfl⟩
    go_wp2_with fail
    refine (toLayerS_at _ _ xs0 HV0.out hl0).mono ?_
    rintro e v1 ⟨rfl, o1, b1⟩
    have zz1 := Lib.hid b1.size
    have B1 := Lib.hid b1
    have p0_1 := Lib.hid o1
    clear b1 o1
    go_wp2_with fail
    refine (specWeakestLayer_any _ _ xs0 a1 a2 a3 ⟨_, _, _, rfl, p0_1.out⟩ hl0).mono ?_
    rintro e v2 ⟨rfl, b2⟩
    clear p0_1
    have zz2 := Lib.hid b2.size
    have B2 := Lib.hid (bt B1.out b2)
    clear b2
    go_wp2_with fail
    refine (toLayerS_at _ _ xs0 (HV0.out.below B2.out) hl0).mono ?_
    rintro e v3 ⟨rfl, o3, b3⟩
    have zz3 := Lib.hid b3.size
    have B3 := Lib.hid (bt B2.out b3)
    have x0_3 := Lib.hid o3
    clear b3 o3
    go_wp2_with fail
    refine (implWeakestLayer_any _ _ xs0 a1 a2 a3 ⟨_, _, _, rfl, x0_3.out⟩ hl0 (HW.out.below B3.out)).mono ?_
    rintro e v4 ⟨rfl, b4⟩
    have zz4 := Lib.hid b4.size
    have B4 := Lib.hid (bt B3.out b4)
    have x0_4 := Lib.hid (x0_3.out.belowAll b4)
    clear x0_3
    clear b4
    go_wp2_with fail
    refine (toLayerS_at _ _ xs0 (HV0.out.below B4.out) hl0).mono ?_
    rintro e v5 ⟨rfl, o5, b5⟩
    have zz5 := Lib.hid b5.size
    have B5 := Lib.hid (bt B4.out b5)
    have x0_5 := Lib.hid (x0_4.out.belowAll b5)
    clear x0_4
    have y5 := Lib.hid o5
    clear b5 o5
    go_wp2_with fail
    refine (eqLayerS_any _ _ _ xs0 xs0 x0_5.out.sl y5.out.sl hl0 hl0).mono ?_
    rintro e v6 ⟨rfl, b6⟩
    clear y5
    clear x0_5
    have zz6 := Lib.hid b6.size
    have B6 := Lib.hid (bt B5.out b6)
    clear b6
    rw [La.eqP_self]
    go_wp2_with fail
    go_ret
    exact ⟨rfl, B6.out⟩
  · have hn0 : (1048576 : Int) < xs0.length := by omega
    have Z0 := Lib.hid (szLayerS_out w a0 xs0.length cap0 (1048576 : Int) (by omega) hn0 (by omega))
    go_enter Tryd.func7, Tryd.ntmps7
    go_wp2_with fail
    refine Z0.out.mono ?_
    rintro e _ ⟨rfl, rfl⟩
    go_wp2_with fail
    go_ret
    exact ⟨rfl, Below.refl _ _⟩
end Go.Proofs.YtaldmdammipfjaaDoor.fnExactWeakestLayer
