/-
  The walk of the law FnExactStrengthBounds and what it stands on: For every layer (seven int64 numbers) and every doubt the program's StrengthBounds answers as its model, where impl.strengthFactors holds what the program's text lays (tied by the card): the law returns true and writes nothing that was there. No other condition.
-/
import Derived.Test.YteikghppebiibaaDoorRows
import Derived.Test.YteikghppebiibaaDoorStL
import Derived.Test.YteikghppebiibaaDoorStM
import Derived.Test.YteikghppebiibaaDoorOpen
import Derived.WalkKit
import Derived.WalkSpells
import Derived.WalkLawsBesides
import Derived.Outline
import Derived.IntWalk
import Derived.Lib.Hide
import Derived.ProofKit
import Derived.OpenShut
import Derived.ShutString
import Derived.ChangeOld
import Derived.ChangeVars
import Derived.Below
import Derived.WalkSmall
import Derived.Lib.LaidTab
import Derived.LaidMore
import Derived.LaidSub
namespace Go.Proofs.YteikghppebiibaaDoor.fnExactStrengthBounds
open Go.ChangeShapes Go.WideShapes Go.ChangeAt Go.RowKit
open Go.ChangeMaps (open_string shut_string)
set_option linter.unusedVariables false
set_option maxRecDepth 100000
set_option maxHeartbeats 3200000
theorem walk (x0 : Lay) (a1 : Int) (w : World) (w1 : (Lit.int .i64 a1).wf = true) (hL : laidMetH Tryd.prog Rows.fnExactStrengthBoundsRow.laid w) (hsh : w.ShapedOpen Tryd.prog) :
    Calls Tryd.prog 3 #[.agg #[.int .i64 x0.fo, .int .i64 x0.ic, .int .i64 x0.wa, .int .i64 x0.de, .int .i64 x0.dg, .int .i64 x0.ha, .int .i64 x0.ag], .int .i64 a1] w fun e w' => e = .returned (.bool true) ∧ Below w.heap.size w w' := by
  have HS := Lib.hid (factors_of hL (by kernel_rfl))
  clear hL hsh
  have T := fun W => Lib.hid (toLayer_any x0 W)
  have C1 := fun W => Lib.hid (specStrengthBounds_any W x0 a1)
  have C2 := fun W (h : Below w.heap.size w W) => Lib.hid (implStrengthBounds_any W x0 a1 (HS.out.below h))
  go_enter Tryd.func3, Tryd.ntmps3
  go_wp2_with fail
  refine (T (boxed w x0 23)).out.mono ?_
  rintro e w1 ⟨rfl, b1⟩
  have B1 := Lib.hid b1
  clear b1
  go_wp2_with fail
  refine (C1 _).out.mono ?_
  rintro e w2 ⟨rfl, b2⟩
  have B2 := Lib.hid (bt B1.out b2)
  obtain ⟨c0, c1, c2, c3, c4, c5, c6⟩ := (boxed_kept B2.out).zero
  clear b2
  go_wp2_with fail
  refine (T _).out.mono ?_
  rintro e w3 ⟨rfl, b3⟩
  have B3 := Lib.hid (bt B2.out b3)
  clear b3 c0 c1 c2 c3 c4 c5 c6
  go_wp2_with fail
  refine (C2 _ (bt (boxed_below w x0 23) B3.out)).out.mono ?_
  rintro e w4 ⟨rfl, b4⟩
  have B4 := Lib.hid (bt (boxed_below w x0 23) (bt B3.out b4))
  clear b4
  go_wp2_with fail
  go_ret
  exact ⟨rfl, B4.out⟩
end Go.Proofs.YteikghppebiibaaDoor.fnExactStrengthBounds
