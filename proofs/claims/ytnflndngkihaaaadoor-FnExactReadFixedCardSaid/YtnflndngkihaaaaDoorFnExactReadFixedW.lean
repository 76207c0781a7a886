/-
  The walk of the law FnExactReadFixed and what it stands on: For every string and every int64 the program's ReadFixed answers as its model, where the library's table of powers of ten and its two errors hold what their text lays (tied by the card): the law returns true and writes nothing that was there. No other condition (beyond 2^20 bytes the law itself returns true).
-/
import Derived.Test.YtnflndngkihaaaaDoorRows
import Derived.Test.YtnflndngkihaaaaDoorRfS
import Derived.WalkKit
import Derived.WalkSpells
import Derived.WalkLawsBesides
import Derived.Outline
import Derived.IntWalk
import Derived.Lib.Hide
import Derived.ProofKit
import Derived.OpenShut
import Derived.ShutString
import Derived.ChangeOld
import Derived.ChangeVars
import Derived.Below
import Derived.WalkSmall
import Derived.Lib.LaidTab
import Derived.LaidMore
import Derived.LaidSub
namespace Go.Proofs.YtnflndngkihaaaaDoor.fnExactReadFixed
open Go.ChangeShapes Go.WideShapes Go.ChangeAt Go.RowKit
open Go.ChangeMaps (open_string shut_string)
set_option linter.unusedVariables false
set_option maxRecDepth 100000
theorem walk (a0 : ByteArray) (a1 : Int) (w : World) (w0 : a0.size ≤ maxLen) (w1 : (Lit.int .i64 a1).wf = true) (hL : laidMetH Tryd.prog Rows.fnExactReadFixedRow.laid w) (hsh : w.ShapedOpen Tryd.prog) :
    Calls Tryd.prog 10 #[.string a0, .int .i64 a1] w fun e w' => e = .returned (.bool true) ∧ Below w.heap.size w w' := by
  unfold maxLen at w0
  by_cases hb0 : a0.size ≤ 1048576
  · have HM := Lib.hid (maxN_of hsh)
    have HP := Lib.hid (pow_of hL (by kernel_rfl))
    have HE := Lib.hid (errs_of hL (by kernel_rfl) (by kernel_rfl))
    clear hL hsh w0 w1
    have C1 := fun W => Lib.hid (specReadFixed_any a0 a1 W hb0)
    have C2 := fun W hp hE hM => Lib.hid (implReadFixed_any a0 a1 W hb0 hp hE hM)
    go_enter Tryd.func10, Tryd.ntmps10
    go_wp2_with fail
    refine (C1 _).out.mono ?_
    rintro e w1 ⟨o, ho, rfl, b1⟩
    have B1 := Lib.hid b1
    have HO := Lib.hid ho
    clear b1 ho
    go_wp2_with fail
    refine (C2 _ (HP.out.below B1.out) (HE.out.below B1.out) (HM.out.below B1.out)).out.mono ?_
    rintro e w2 ⟨o', ho, rfl, b2⟩
    obtain rfl := Fx.RFx.uniq HO.out ho
    have B2 := Lib.hid (bt B1.out b2)
    clear b2 ho C1 C2
    generalize o.getD 0 = x at *
    generalize o.isSome = y at *
    go_wp2_with fail
    go_ret
    exact ⟨rfl, B2.out⟩
  · go_enter Tryd.func10, Tryd.ntmps10
    go_wp2_with fail
    go_ret
    exact ⟨rfl, Below.refl _ _⟩
end Go.Proofs.YtnflndngkihaaaaDoor.fnExactReadFixed
