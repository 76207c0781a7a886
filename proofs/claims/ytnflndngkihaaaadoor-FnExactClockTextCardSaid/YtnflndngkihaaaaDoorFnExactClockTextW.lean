/-
  The walk of the law FnExactClockText and what it stands on: For every int64 the program's ClockText answers as its model, where the library's table of powers of ten holds what its text lays (tied by the card): the law returns true and writes nothing that was there. No other condition.
-/
import Derived.Test.YtnflndngkihaaaaDoorRows
import Derived.Test.YtnflndngkihaaaaDoorTexts
import Derived.WalkKit
import Derived.WalkSpells
import Derived.WalkLawsBesides
import Derived.Outline
import Derived.IntWalk
import Derived.Lib.Hide
import Derived.ProofKit
import Derived.OpenShut
import Derived.ShutString
import Derived.ChangeOld
import Derived.ChangeVars
import Derived.Below
import Derived.WalkSmall
import Derived.Lib.LaidTab
import Derived.LaidMore
import Derived.LaidSub
namespace Go.Proofs.YtnflndngkihaaaaDoor.fnExactClockText
open Go.ChangeShapes Go.WideShapes Go.ChangeAt Go.RowKit
open Go.ChangeMaps (open_string shut_string)
set_option linter.unusedVariables false
set_option maxRecDepth 100000
theorem walk (a0 : Int) (w : World) (w0 : (Lit.int .i64 a0).wf = true) (hL : laidMetH Tryd.prog Rows.fnExactClockTextRow.laid w) (hsh : w.ShapedOpen Tryd.prog) :
    Calls Tryd.prog 7 #[.int .i64 a0] w fun e w' => e = .returned (.bool true) ∧ Below w.heap.size w w' := by
  have HP := Lib.hid (pow_of hL (by kernel_rfl))
  clear hL hsh w0
  go_enter Tryd.func7, Tryd.ntmps7
  go_wp2_with fail
  refine (specClockText_any _ _).mono ?_
  rintro e w1 ⟨s1, rfl, d1, -, b1⟩
  have B1 := Lib.hid b1
  have D1 := Lib.hid d1
  clear b1 d1
  go_wp2_with fail
  refine (implClockText_any _ _ (HP.out.below B1.out)).mono ?_
  rintro e w2 ⟨s2, rfl, d2, -, b2⟩
  have B2 := Lib.hid (tbt B1.out b2)
  obtain rfl : s1 = s2 := str_eq (D1.out.trans d2.symm)
  clear b2 d2
  go_wp2_with fail
  go_ret
  exact ⟨rfl, B2.out⟩
end Go.Proofs.YtnflndngkihaaaaDoor.fnExactClockText
