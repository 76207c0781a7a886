/-
  The walk of the law FnExactSettleLayer and what it stands on: For every layer (seven int64 numbers) and every load the program's SettleLayer answers as its model: the law returns true and writes nothing that was there. No condition.
-/
import Derived.Test.YtfbfdiejffjbmaaRows
import Derived.Test.YtfbfdiejffjbmaaHrL
import Derived.Test.YtfbfdiejffjbmaaLayM
import Derived.Test.YtfbfdiejffjbmaaOpen
import Derived.WalkKit
import Derived.WalkSpells
import Derived.WalkLawsBesides
import Derived.Outline
import Derived.IntWalk
import Derived.Lib.Hide
import Derived.ProofKit
import Derived.OpenShut
import Derived.ShutString
import Derived.ChangeOld
import Derived.ChangeVars
import Derived.Below
import Derived.WalkSmall
namespace Go.Proofs.Ytfbfdiejffjbmaa.fnExactSettleLayer
open Go.ChangeShapes Go.WideShapes Go.ChangeAt Go.RowKit
open Go.ChangeMaps (open_string shut_string)
set_option linter.unusedVariables false
set_option maxRecDepth 100000
theorem walk (x0 : Lay) (a1 : Int) (w : World) (w1 : (Lit.int .i64 a1).wf = true) :
    Calls Try.prog 8 #[.agg #[.int .i64 x0.fo, .int .i64 x0.ic, .int .i64 x0.wa, .int .i64 x0.de, .int .i64 x0.dg, .int .i64 x0.ha, .int .i64 x0.ag], .int .i64 a1] w fun e w' => e = .returned (.bool true) ∧ Below w.heap.size w w' := by
  have T := fun W => Lib.hid (toLayer_any x0 W)
  have C1 := fun W => Lib.hid (specSettleLayer_any W x0 a1)
  have C2 := fun W => Lib.hid (implSettleLayer_any W x0 a1)
  unfold RYC at C1 C2
  generalize La.slL x0 a1 = y at *
  generalize La.slC x0 a1 = c at *
  have hself := Lib.hid (La.eqL_self y)
  go_enter Try.func8, Try.ntmps8
  go_wp2_with fail
  refine (T (boxed w x0 69)).out.mono ?_
  rintro e w1 ⟨rfl, b1⟩
  have B1 := Lib.hid b1
  clear b1
  go_wp2_with fail
  refine (C1 _).out.mono ?_
  rintro e w2 ⟨rfl, b2⟩
  have B2 := Lib.hid (bt B1.out b2)
  have B2y := Lib.hid (bt B2.out (boxed_below w2 y 68))
  obtain ⟨c0, c1, c2, c3, c4, c5, c6⟩ := (boxed_kept B2.out).zero
  have hlt := World.block_lt_of_cell? w2 _ c0
  clear b2
  go_wp2_with fail
  refine (T (boxed w2 y 68)).out.mono ?_
  rintro e w3 ⟨rfl, b3⟩
  have K3 := Lib.hid b3
  clear b3 c0 c1 c2 c3 c4 c5 c6 hlt
  go_wp2_with fail
  refine (C2 _).out.mono ?_
  rintro e w4 ⟨rfl, b4⟩
  have K4 := Lib.hid (bt K3.out b4)
  have K5 := Lib.hid (bt K4.out (boxed_below w4 y 68))
  obtain ⟨c0, c1, c2, c3, c4, c5, c6⟩ := (boxed_kept K4.out).zero
  have hlt4 := World.block_lt_of_cell? w4 _ c0
  clear b4
  go_wp2_with fail
  refine (eqLayer_any y y (boxed w4 y 68)).mono ?_
  rintro e w5 ⟨rfl, b5⟩
  have B5 := Lib.hid (bt (boxed_below w x0 69) (bt B2y.out (bt K5.out b5)))
  rw [hself.out]
  clear b5
  go_wp2_with fail
  go_ret
  exact ⟨rfl, B5.out⟩
end Go.Proofs.Ytfbfdiejffjbmaa.fnExactSettleLayer
