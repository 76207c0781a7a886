/-
  The walk of the law FnExactDateText and what it stands on: For every int64 the program's DateText answers as its model, where impl.monthDays and the library's table of powers of ten hold what their texts lay (tied by the card): the law returns true and writes nothing that was there. No other condition.
-/
import Derived.Test.YtnflndngkihaaaaDoorRows
import Derived.Test.YtnflndngkihaaaaDoorDateTx
import Derived.WalkKit
import Derived.WalkSpells
import Derived.WalkLawsBesides
import Derived.Outline
import Derived.IntWalk
import Derived.Lib.Hide
import Derived.ProofKit
import Derived.OpenShut
import Derived.ShutString
import Derived.ChangeOld
import Derived.ChangeVars
import Derived.Below
import Derived.WalkSmall
import Derived.Lib.LaidTab
import Derived.LaidMore
import Derived.LaidSub
namespace Go.Proofs.YtnflndngkihaaaaDoor.fnExactDateText
open Go.ChangeShapes Go.WideShapes Go.ChangeAt Go.RowKit
open Go.ChangeMaps (open_string shut_string)
set_option linter.unusedVariables false
set_option maxRecDepth 100000
theorem walk (a0 : Int) (w : World) (w0 : (Lit.int .i64 a0).wf = true) (hL : laidMetH Tryd.prog Rows.fnExactDateTextRow.laid w) (hsh : w.ShapedOpen Tryd.prog) :
    Calls Tryd.prog 5 #[.int .i64 a0] w fun e w' => e = .returned (.bool true) ∧ Below w.heap.size w w' := by
  have HP := Lib.hid (pow_of hL (by kernel_rfl))
  have HM := Lib.hid (months_of hL (by kernel_rfl))
  clear hL hsh w0
  by_cases h : 0 ≤ a0 ∧ a0 ≤ 36524
  · obtain ⟨h1, h2⟩ := h
    have C1 := fun W => Lib.hid (specDateText_in a0 W h1 h2)
    have C2 := fun W hM hp => Lib.hid (implDateText_in a0 W hM hp h1 h2)
    go_enter Tryd.func5, Tryd.ntmps5
    go_wp2_with fail
    refine (C1 _).out.mono ?_
    rintro e w1 ⟨y, m, d, hd, hn, s1, rfl, d1, -, b1⟩
    have H := Lib.hid hd
    have N := Lib.hid hn
    have B1 := Lib.hid b1
    have D1 := Lib.hid d1
    clear hd hn b1 d1
    go_wp2_with fail
    refine (C2 _ (HM.out.below B1.out) (HP.out.below B1.out)).out.mono ?_
    rintro e w2 ⟨y', m', d', hd, hn, s2, rfl, d2, -, b2⟩
    have B2 := Lib.hid (tbt B1.out b2)
    obtain ⟨rfl, rfl, rfl⟩ := Dy.uniq H.out hd (N.out.trans hn.symm)
    obtain rfl : s1 = s2 := str_eq (D1.out.trans d2.symm)
    clear hd hn b2 d2
    go_wp2_with fail
    go_ret
    exact ⟨rfl, B2.out⟩
  · have C1 := fun W => Lib.hid (specDateText_out a0 W h)
    have C2 := fun W => Lib.hid (implDateText_out a0 W h)
    clear h
    go_enter Tryd.func5, Tryd.ntmps5
    go_wp2_with fail
    refine (C1 _).out.mono ?_
    rintro e w1 ⟨s1, rfl, d1, -, b1⟩
    have B1 := Lib.hid b1
    have D1 := Lib.hid d1
    clear b1 d1
    go_wp2_with fail
    refine (C2 _).out.mono ?_
    rintro e w2 ⟨s2, rfl, d2, -, b2⟩
    have B2 := Lib.hid (tbt B1.out b2)
    obtain rfl : s1 = s2 := str_eq (D1.out.trans d2.symm)
    clear b2 d2
    go_wp2_with fail
    go_ret
    exact ⟨rfl, B2.out⟩
end Go.Proofs.YtnflndngkihaaaaDoor.fnExactDateText
