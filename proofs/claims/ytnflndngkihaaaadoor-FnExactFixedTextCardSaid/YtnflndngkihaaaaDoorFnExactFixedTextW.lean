/-
  The walk of the law FnExactFixedText and what it stands on: For every two int64 numbers the program's FixedText answers as its model, where the library's table of powers of ten holds what its text lays (tied by the card): the law returns true and writes nothing that was there. No other condition.
-/
import Derived.Test.YtnflndngkihaaaaDoorRows
import Derived.Test.YtnflndngkihaaaaDoorFixI
import Derived.WalkKit
import Derived.WalkSpells
import Derived.WalkLawsBesides
import Derived.Outline
import Derived.IntWalk
import Derived.Lib.Hide
import Derived.ProofKit
import Derived.OpenShut
import Derived.ShutString
import Derived.ChangeOld
import Derived.ChangeVars
import Derived.Below
import Derived.WalkSmall
import Derived.Lib.LaidTab
import Derived.LaidMore
import Derived.LaidSub
namespace Go.Proofs.YtnflndngkihaaaaDoor.fnExactFixedText
open Go.ChangeShapes Go.WideShapes Go.ChangeAt Go.RowKit
open Go.ChangeMaps (open_string shut_string)
set_option linter.unusedVariables false
set_option maxRecDepth 100000
theorem walk (a0 : Int) (a1 : Int) (w : World) (w0 : (Lit.int .i64 a0).wf = true) (w1 : (Lit.int .i64 a1).wf = true) (hL : laidMetH Tryd.prog Rows.fnExactFixedTextRow.laid w) (hsh : w.ShapedOpen Tryd.prog) :
    Calls Tryd.prog 9 #[.int .i64 a0, .int .i64 a1] w fun e w' => e = .returned (.bool true) ∧ Below w.heap.size w w' := by
  have HP := Lib.hid (pow_of hL (by kernel_rfl))
  clear hL hsh w0 w1
  by_cases h : (-1000000000 ≤ a0 ∧ a0 ≤ 1000000000) ∧ 1 ≤ a1 ∧ a1 ≤ 6
  · obtain ⟨⟨h1, h2⟩, h3, h4⟩ := h
    obtain ⟨p, rfl⟩ := Int.eq_ofNat_of_zero_le (show 0 ≤ a1 by omega)
    have C1 := fun W => Lib.hid (specFixedText_in a0 p W h1 h2 (by omega) (by omega))
    have C2 := fun W hp => Lib.hid (implFixedText_in a0 p W hp h1 h2 (by omega) (by omega))
    go_enter Tryd.func9, Tryd.ntmps9
    go_wp2_with fail
    refine (C1 _).out.mono ?_
    rintro e w1 ⟨s1, rfl, d1, -, b1⟩
    have B1 := Lib.hid b1
    have D1 := Lib.hid d1
    clear b1 d1
    go_wp2_with fail
    refine (C2 _ (HP.out.below B1.out)).out.mono ?_
    rintro e w2 ⟨s2, rfl, d2, -, b2⟩
    have B2 := Lib.hid (tbt B1.out b2)
    obtain rfl : s1 = s2 := str_eq (D1.out.trans d2.symm)
    clear b2 d2
    go_wp2_with fail
    go_ret
    exact ⟨rfl, B2.out⟩
  · have C1 := fun W => Lib.hid (specFixedText_out a0 a1 W h)
    have C2 := fun W => Lib.hid (implFixedText_out a0 a1 W h)
    clear h
    go_enter Tryd.func9, Tryd.ntmps9
    go_wp2_with fail
    refine (C1 _).out.mono ?_
    rintro e w1 ⟨s1, rfl, d1, -, b1⟩
    have B1 := Lib.hid b1
    have D1 := Lib.hid d1
    clear b1 d1
    go_wp2_with fail
    refine (C2 _).out.mono ?_
    rintro e w2 ⟨s2, rfl, d2, -, b2⟩
    have B2 := Lib.hid (tbt B1.out b2)
    obtain rfl : s1 = s2 := str_eq (D1.out.trans d2.symm)
    clear b2 d2
    go_wp2_with fail
    go_ret
    exact ⟨rfl, B2.out⟩
end Go.Proofs.YtnflndngkihaaaaDoor.fnExactFixedText
