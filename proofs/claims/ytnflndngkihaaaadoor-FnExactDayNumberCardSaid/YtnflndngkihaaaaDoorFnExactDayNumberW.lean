/-
  The walk of the law FnExactDayNumber and what it stands on: For all three int64 numbers the program's DayNumber answers as its model, where impl.monthDays holds what the program's text lays (tied by the card): the law returns true and writes nothing that was there. No other condition.
-/
import Derived.Test.YtnflndngkihaaaaDoorRows
import Derived.Test.YtnflndngkihaaaaDoorDate3
import Derived.WalkKit
import Derived.WalkSpells
import Derived.WalkLawsBesides
import Derived.Outline
import Derived.IntWalk
import Derived.Lib.Hide
import Derived.ProofKit
import Derived.OpenShut
import Derived.ShutString
import Derived.ChangeOld
import Derived.ChangeVars
import Derived.Below
import Derived.WalkSmall
import Derived.Lib.LaidTab
import Derived.LaidMore
import Derived.LaidSub
namespace Go.Proofs.YtnflndngkihaaaaDoor.fnExactDayNumber
open Go.ChangeShapes Go.WideShapes Go.ChangeAt Go.RowKit
open Go.ChangeMaps (open_string shut_string)
set_option linter.unusedVariables false
set_option maxRecDepth 100000
theorem walk (a0 : Int) (a1 : Int) (a2 : Int) (w : World) (w0 : (Lit.int .i64 a0).wf = true) (w1 : (Lit.int .i64 a1).wf = true) (w2 : (Lit.int .i64 a2).wf = true) (hL : laidMetH Tryd.prog Rows.fnExactDayNumberRow.laid w) (hsh : w.ShapedOpen Tryd.prog) :
    Calls Tryd.prog 4 #[.int .i64 a0, .int .i64 a1, .int .i64 a2] w fun e w' => e = .returned (.bool true) ∧ Below w.heap.size w w' := by
  have HM := Lib.hid (months_of hL (by kernel_rfl))
  clear hL hsh w0 w1 w2
  by_cases h : Dy.isD a0 a1 a2
  · have C1 := fun W => Lib.hid (specDayNumber_yes a0 a1 a2 W h)
    have C2 := fun W hM => Lib.hid (implDayNumber_yes a0 a1 a2 W hM h)
    clear h
    go_enter Tryd.func4, Tryd.ntmps4
    go_wp2_with fail
    refine (C1 _).out.mono ?_
    rintro e w1 ⟨rfl, b1⟩
    have B1 := Lib.hid b1
    clear b1
    go_wp2_with fail
    refine (C2 _ (HM.out.below B1.out)).out.mono ?_
    rintro e w2 ⟨rfl, rfl⟩
    go_wp2_with fail
    go_ret
    exact ⟨rfl, B1.out⟩
  · have C1 := fun W => Lib.hid (specDayNumber_no a0 a1 a2 W h)
    have C2 := fun W hM => Lib.hid (implDayNumber_no a0 a1 a2 W hM h)
    clear h
    go_enter Tryd.func4, Tryd.ntmps4
    go_wp2_with fail
    refine (C1 _).out.mono ?_
    rintro e w1 ⟨rfl, b1⟩
    have B1 := Lib.hid b1
    clear b1
    go_wp2_with fail
    refine (C2 _ (HM.out.below B1.out)).out.mono ?_
    rintro e w2 ⟨rfl, rfl⟩
    go_wp2_with fail
    go_ret
    exact ⟨rfl, B1.out⟩
end Go.Proofs.YtnflndngkihaaaaDoor.fnExactDayNumber
