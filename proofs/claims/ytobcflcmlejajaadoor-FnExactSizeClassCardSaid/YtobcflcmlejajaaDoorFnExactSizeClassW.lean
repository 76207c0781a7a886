/-
  The walk of the law FnExactSizeClass and what it stands on: For every int64 the program's SizeClass answers as its model: the law returns true and writes nothing that was there, where the table sizeLimits holds what its text lays (tied by the card). No other condition.
-/
import Derived.Test.YtobcflcmlejajaaDoorRows
import Derived.Test.YtobcflcmlejajaaDoorVoK
import Derived.WalkKit
import Derived.WalkSpells
import Derived.WalkLawsBesides
import Derived.Outline
import Derived.IntWalk
import Derived.Lib.Hide
import Derived.ProofKit
import Derived.OpenShut
import Derived.ShutString
import Derived.ChangeOld
import Derived.ChangeVars
import Derived.Below
import Derived.WalkSmall
import Derived.Lib.LaidTab
import Derived.LaidMore
import Derived.LaidSub
namespace Go.Proofs.YtobcflcmlejajaaDoor.fnExactSizeClass
open Go.ChangeShapes Go.WideShapes Go.ChangeAt Go.RowKit
open Go.ChangeMaps (open_string shut_string)
set_option linter.unusedVariables false
set_option maxRecDepth 100000
theorem walk (a0 : Int) (w : World) (w0 : (Lit.int .i64 a0).wf = true) (hL : laidMetH Tryd.prog Rows.fnExactSizeClassRow.laid w) (hsh : w.ShapedOpen Tryd.prog) :
    Calls Tryd.prog 3 #[.int .i64 a0] w fun e w' => e = .returned (.bool true) ∧ Below w.heap.size w w' := by
  have HL := Lib.hid (lm_of hL (by kernel_rfl))
  clear hL hsh
  have C1 := fun W => Lib.hid (specSizeClass_any a0 W)
  have C2 := fun W h => Lib.hid (implSizeClass_any a0 W h)
  generalize Vm.szV a0 = r0 at *
  generalize Vm.szC a0 = r1 at *
  go_enter Tryd.func3, Tryd.ntmps3
  go_wp2_with fail
  refine (C1 _).out.mono ?_
  rintro e w1 ⟨rfl, rfl⟩
  have B1 := Lib.hid (Below.refl w.heap.size w)
  go_wp2_with fail
  refine (C2 _ (HL.out.below B1.out)).out.mono ?_
  rintro e w2 ⟨rfl, b2⟩
  have B2 := Lib.hid (bt B1.out b2)
  clear b2
  go_wp2_with fail
  go_ret
  exact ⟨rfl, B2.out⟩
end Go.Proofs.YtobcflcmlejajaaDoor.fnExactSizeClass
