/-
  The walk of the law FnExactReadDecimal and what it stands on: For every string the program's ReadDecimal answers as its model, where the listed variables of the library hold what its text lays (tied by the card). No other condition (beyond 2^20 bytes the law itself returns true).
-/
import Derived.Test.YtoopjefalkdpkaaDoorRows
import Derived.Test.YtoopjefalkdpkaaDoorReadI
import Derived.WalkKit
import Derived.WalkSpells
import Derived.WalkLawsBesides
import Derived.Outline
import Derived.IntWalk
import Derived.Lib.Hide
import Derived.ProofKit
import Derived.OpenShut
import Derived.ShutString
import Derived.ChangeOld
import Derived.ChangeVars
import Derived.Below
import Derived.WalkSmall
import Derived.Lib.LaidTab
import Derived.LaidMore
import Derived.LaidSub
namespace Go.Proofs.YtoopjefalkdpkaaDoor.fnExactReadDecimal
open Go.ChangeShapes Go.WideShapes Go.ChangeAt Go.RowKit
open Go.ChangeMaps (open_string shut_string)
set_option linter.unusedVariables false

theorem walk (a0 : ByteArray) (w : World) (w0 : a0.size ≤ maxLen) (hL : laidMetH Tryd.prog Rows.fnExactReadDecimalRow.laid w) (hsh : w.ShapedOpen Tryd.prog) :
    Calls Tryd.prog 5 #[.string a0] w fun e w' => e = .returned (.bool true) ∧ Below w.heap.size w w' := by
---
  unfold maxLen at w0
  by_cases hb0 : a0.size ≤ 1048576
  · have hp : Pow w := pow_of hL (by kernel_rfl)
    have he : Errs w := errs_of hL (by kernel_rfl) (by kernel_rfl)
    clear hL hsh w0
    have C1 := Lib.hid (specReadDecimal_any a0 w hb0)
    have HP := Lib.hid hp
    have HE := Lib.hid he
    clear hp he
    generalize hx : (Nu.rd a0.data.toList).getD 0 = x at *
    generalize hy : (Nu.rd a0.data.toList).isSome = y at *
    have HX := Lib.hid hx
    have HY := Lib.hid hy
    clear hx hy
    go_enter Tryd.func5, Tryd.ntmps5
    go_wp2_with fail
    refine C1.out.mono ?_
    rintro e w1 ⟨rfl, rfl⟩
    go_wp2_with fail
    refine (implReadDecimal_any a0 w hb0 HP.out HE.out).mono ?_
    rintro e w2 ⟨rfl, hb⟩
    rw [HX.out, HY.out]
    go_wp2_with fail
    go_ret
    exact ⟨rfl, hb⟩
  · go_enter Tryd.func5, Tryd.ntmps5
    go_wp2_with fail
    go_ret
    exact ⟨rfl, Below.refl _ _⟩
end Go.Proofs.YtoopjefalkdpkaaDoor.fnExactReadDecimal
