/-
  The walk of the law FnExactThicknessOf and what it stands on: For every layer (seven int64 numbers) the program's ThicknessOf answers as its model: the law returns true and writes nothing that was there. No condition.
-/
import Derived.Test.YtnflndngkihaaabRows
import Derived.Test.YtnflndngkihaaabSum3
import Derived.Test.YtnflndngkihaaabOpen
import Derived.WalkKit
import Derived.WalkSpells
import Derived.WalkLawsBesides
import Derived.Outline
import Derived.IntWalk
import Derived.Lib.Hide
import Derived.ProofKit
import Derived.OpenShut
import Derived.ShutString
import Derived.ChangeOld
import Derived.ChangeVars
import Derived.Below
import Derived.WalkSmall
namespace Go.Proofs.Ytnflndngkihaaab.fnExactThicknessOf
open Go.ChangeShapes Go.WideShapes Go.ChangeAt Go.RowKit
open Go.ChangeMaps (open_string shut_string)
set_option linter.unusedVariables false

theorem walk (x0 : Lay) (w : World)  :
    Calls Try.prog 4 #[.agg #[.int .i64 x0.fo, .int .i64 x0.ic, .int .i64 x0.wa, .int .i64 x0.de, .int .i64 x0.dg, .int .i64 x0.ha, .int .i64 x0.ag]] w fun e w' => e = .returned (.bool true) ∧ Below w.heap.size w w' := by
  have T := fun W => Lib.hid (toLayer_any x0 W)
  have C1 := fun W => Lib.hid (specThicknessOf_any x0 W)
  have C2 := fun W => Lib.hid (implThicknessOf_any x0 W)
  go_enter Try.func4, Try.ntmps4
  go_wp2_with fail
  refine (T (boxed w x0 29)).out.mono ?_
  rintro e w1 ⟨rfl, b1⟩
  have B1 := Lib.hid b1
  clear b1
  go_wp2_with fail
  refine (C1 _).out.mono ?_
  rintro e w2 ⟨rfl, b2⟩
  have B2 := Lib.hid (bt B1.out b2)
  obtain ⟨c0, c1, c2, c3, c4, c5, c6⟩ := (boxed_kept B2.out).zero
  clear b2
  go_wp2_with fail
  refine (T _).out.mono ?_
  rintro e w3 ⟨rfl, b3⟩
  have B3 := Lib.hid (bt B2.out b3)
  clear b3 c0 c1 c2 c3 c4 c5 c6
  go_wp2_with fail
  refine (C2 _).out.mono ?_
  rintro e w4 ⟨rfl, b4⟩
  have B4 := Lib.hid (bt (boxed_below w x0 29) (bt B3.out b4))
  clear b4
  go_wp2_with fail
  go_ret
  exact ⟨rfl, B4.out⟩
end Go.Proofs.Ytnflndngkihaaab.fnExactThicknessOf
