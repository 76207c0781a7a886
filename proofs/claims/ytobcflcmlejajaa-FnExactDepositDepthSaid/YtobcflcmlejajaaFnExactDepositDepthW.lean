/-
  The walk of the law FnExactDepositDepth and what it stands on: For every int64 the program's DepositDepth answers as its model: the law returns true and writes nothing that was there. No condition.
-/
import Derived.Test.YtobcflcmlejajaaRows
import Derived.Test.YtobcflcmlejajaaVoB
import Derived.WalkKit
import Derived.WalkSpells
import Derived.WalkLawsBesides
import Derived.Outline
import Derived.IntWalk
import Derived.Lib.Hide
import Derived.ProofKit
import Derived.OpenShut
import Derived.ShutString
import Derived.ChangeOld
import Derived.ChangeVars
import Derived.Below
import Derived.WalkSmall
namespace Go.Proofs.Ytobcflcmlejajaa.fnExactDepositDepth
open Go.ChangeShapes Go.WideShapes Go.ChangeAt Go.RowKit
open Go.ChangeMaps (open_string shut_string)
set_option linter.unusedVariables false
set_option maxRecDepth 100000
theorem walk (a0 : Int) (a1 : Int) (a2 : Int) (w : World) (w0 : (Lit.int .i64 a0).wf = true) (w1 : (Lit.int .i64 a1).wf = true) (w2 : (Lit.int .i64 a2).wf = true) :
    Calls Try.prog 7 #[.int .i64 a0, .int .i64 a1, .int .i64 a2] w fun e w' => e = .returned (.bool true) ∧ Below w.heap.size w w' := by
  have C1 := fun W => Lib.hid (specDepositDepth_any a0 a1 a2 W)
  have C2 := fun W => Lib.hid (implDepositDepth_any a0 a1 a2 W)
  generalize Vm.ddV a0 a1 a2 = r0 at *
  generalize Vm.ddC a0 a1 a2 = r1 at *
  go_enter Try.func7, Try.ntmps7
  go_wp2_with fail
  refine (C1 _).out.mono ?_
  rintro e w1 ⟨rfl, rfl⟩
  go_wp2_with fail
  refine (C2 _).out.mono ?_
  rintro e w2 ⟨rfl, rfl⟩
  go_wp2_with fail
  go_ret
  exact ⟨rfl, Below.refl _ _⟩
end Go.Proofs.Ytobcflcmlejajaa.fnExactDepositDepth
