/-
  The walk of the law FnExactTestText and what it stands on: For every test (five int64 numbers) the program's TestText answers as its model: the law returns true and writes nothing that was there, where impl.testRules and the library's table of powers of ten hold what their texts lay (tied by the card). No other condition.
-/
import Derived.Test.YteileaeeiejonacDoorRows
import Derived.Test.YteileaeeiejonacDoorTkX
import Derived.Test.YteileaeeiejonacDoorTstS
import Derived.WalkKit
import Derived.WalkSpells
import Derived.WalkLawsBesides
import Derived.Outline
import Derived.IntWalk
import Derived.Lib.Hide
import Derived.ProofKit
import Derived.OpenShut
import Derived.ShutString
import Derived.ChangeOld
import Derived.ChangeVars
import Derived.Below
import Derived.WalkSmall
import Derived.Lib.LaidTab
import Derived.LaidMore
import Derived.LaidSub
namespace Go.Proofs.YteileaeeiejonacDoor.fnExactTestText
open Go.ChangeShapes Go.WideShapes Go.ChangeAt Go.RowKit
open Go.ChangeMaps (open_string shut_string)
set_option linter.unusedVariables false
set_option maxRecDepth 100000
set_option maxHeartbeats 1600000
theorem walk (x0 : Tst) (w : World)  (hL : laidMetH Tryd.prog Rows.fnExactTestTextRow.laid w) (hsh : w.ShapedOpen Tryd.prog) :
    Calls Tryd.prog 6 #[.agg #[.int .i64 x0.ki, .int .i64 x0.sc, .int .i64 x0.qu, .int .i64 x0.de, .int .i64 x0.ho]] w fun e w' => e = .returned (.bool true) ∧ Below w.heap.size w w' := by
  have HP := Lib.hid (rulesT_of hL (by kernel_rfl))
  have HQ := Lib.hid (pow_of hL (by kernel_rfl))
  clear hL hsh
  have T := fun W => Lib.hid (toTest_any x0 W)
  have C1 := fun W => Lib.hid (specTestText_any x0 W)
  have C2 := fun W h h2 => Lib.hid (implTestText_any x0 W h h2)
  have HB := Lib.hid (boxTst_below w x0 38)
  have HK : Hid (∀ w1, Below (boxTst w x0 38).heap.size (boxTst w x0 38) w1 → TeCells w1 w.heap.size 0 x0) := Lib.hid (fun w1 h => boxTst_kept h)
  have T0 := Lib.hid (T (boxTst w x0 38)).out
  unfold boxTst at HB HK T0
  go_enter Tryd.func6, Tryd.ntmps6
  go_wp2_with fail
  refine T0.out.mono ?_
  rintro e w1 ⟨rfl, b1⟩
  have B1 := Lib.hid b1
  clear b1
  go_wp2_with fail
  refine (C1 _).out.mono ?_
  rintro e w2 ⟨rfl, b2⟩
  have B2 := Lib.hid (bt B1.out b2)
  obtain ⟨c0, c1, c2, c3, c4⟩ := (HK.out w2 B2.out).zero
  clear b2
  go_wp2_with fail
  refine (T _).out.mono ?_
  rintro e w3 ⟨rfl, b3⟩
  have B3 := Lib.hid (bt HB.out (bt B2.out b3))
  clear b3 c0 c1 c2 c3 c4
  go_wp2_with fail
  refine (C2 _ (HP.out.below B3.out) (HQ.out.below B3.out)).out.mono ?_
  rintro e w4 ⟨rfl, b4⟩
  have B4 := Lib.hid (bt B3.out b4)
  clear b4
  go_wp2_with fail
  go_ret
  exact ⟨rfl, B4.out⟩
end Go.Proofs.YteileaeeiejonacDoor.fnExactTestText
