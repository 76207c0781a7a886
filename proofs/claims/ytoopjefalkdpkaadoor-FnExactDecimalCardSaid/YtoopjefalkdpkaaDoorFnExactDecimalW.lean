/-
  The walk of the law FnExactDecimal and what it stands on: For every int64 the program's Decimal answers as its model, where the library's table of powers of ten holds what the library's text lays (tied by the card). No other condition.
-/
import Derived.Test.YtoopjefalkdpkaaDoorRows
import Derived.Test.YtoopjefalkdpkaaDoorTab
import Derived.WalkKit
import Derived.WalkSpells
import Derived.WalkLawsBesides
import Derived.Outline
import Derived.IntWalk
import Derived.Lib.Hide
import Derived.ProofKit
import Derived.OpenShut
import Derived.ShutString
import Derived.ChangeOld
import Derived.ChangeVars
import Derived.Below
import Derived.WalkSmall
import Derived.Lib.LaidTab
import Derived.LaidMore
import Derived.LaidSub
namespace Go.Proofs.YtoopjefalkdpkaaDoor.fnExactDecimal
open Go.ChangeShapes Go.WideShapes Go.ChangeAt Go.RowKit
open Go.ChangeMaps (open_string shut_string)
set_option linter.unusedVariables false

theorem walk (a0 : Int) (w : World) (w0 : (Lit.int .i64 a0).wf = true) (hL : laidMetH Tryd.prog Rows.fnExactDecimalRow.laid w) (hsh : w.ShapedOpen Tryd.prog) :
    Calls Tryd.prog 4 #[.int .i64 a0] w fun e w' => e = .returned (.bool true) ∧ Below w.heap.size w w' := by
---
  obtain ⟨b1, b2⟩ := i64_bd w0
  have hp : Pow w := pow_of hL (by kernel_rfl)
  clear hL hsh w0
  have C1 := Lib.hid (specDecimal_any a0 w b1 b2)
  have HP := Lib.hid hp
  go_enter Tryd.func4, Tryd.ntmps4
  go_wp2_with fail
  refine C1.out.mono ?_
  rintro e w1 ⟨rfl, hb⟩
  go_wp2_with fail
  refine (implDecimal_any a0 w1 b1 b2 (HP.out.below hb)).mono ?_
  rintro e w2 ⟨rfl, hb2⟩
  go_wp2_with fail
  go_ret
  exact ⟨rfl, hb.trans (hb2.mono hb.size)⟩
end Go.Proofs.YtoopjefalkdpkaaDoor.fnExactDecimal
