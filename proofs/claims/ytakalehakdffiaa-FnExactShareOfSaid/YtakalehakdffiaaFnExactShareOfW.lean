/-
  The walk of the law FnExactShareOf and what it stands on: For every int64 the program's ShareOf answers as its model: the law returns true and writes nothing that was there. No condition.
-/
import Derived.Test.YtakalehakdffiaaRows
import Derived.Test.YtakalehakdffiaaShare
import Derived.WalkKit
import Derived.WalkSpells
import Derived.WalkLawsBesides
import Derived.Outline
import Derived.IntWalk
import Derived.Lib.Hide
import Derived.ProofKit
import Derived.OpenShut
import Derived.ShutString
import Derived.ChangeOld
import Derived.ChangeVars
import Derived.Below
import Derived.WalkSmall
namespace Go.Proofs.Ytakalehakdffiaa.fnExactShareOf
open Go.ChangeShapes Go.WideShapes Go.ChangeAt Go.RowKit
open Go.ChangeMaps (open_string shut_string)
set_option linter.unusedVariables false
set_option maxRecDepth 100000
theorem walk (a0 : Int) (w : World) (w0 : (Lit.int .i64 a0).wf = true) :
    Calls Try.prog 6 #[.int .i64 a0] w fun e w' => e = .returned (.bool true) ∧ Below w.heap.size w w' := by
  have C1 := fun W => Lib.hid (specShareOf_any a0 W)
  have C2 := fun W => Lib.hid (implShareOf_any a0 W)
  generalize rv (Ar.inB 0 a0 100000) (shrV a0) = x at *
  generalize rc (Ar.inB 0 a0 100000) 2 = y at *
  go_enter Try.func6, Try.ntmps6
  go_wp2_with fail
  refine (C1 _).out.mono ?_
  rintro e w1 ⟨rfl, rfl⟩
  go_wp2_with fail
  refine (C2 _).out.mono ?_
  rintro e w1 ⟨rfl, rfl⟩
  go_wp2_with fail
  go_ret
  exact ⟨rfl, Below.refl _ _⟩
end Go.Proofs.Ytakalehakdffiaa.fnExactShareOf
