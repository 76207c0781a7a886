/-
  The walk of the law FnExactDateOf and what it stands on: For every int64 the program's DateOf answers as its model, where impl.monthDays holds what the program's text lays (tied by the card): the law returns true and writes nothing that was there. No other condition.
-/
import Derived.Test.YtnflndngkihaaaaDoorRows
import Derived.Test.YtnflndngkihaaaaDoorDate3
import Derived.WalkKit
import Derived.WalkSpells
import Derived.WalkLawsBesides
import Derived.Outline
import Derived.IntWalk
import Derived.Lib.Hide
import Derived.ProofKit
import Derived.OpenShut
import Derived.ShutString
import Derived.ChangeOld
import Derived.ChangeVars
import Derived.Below
import Derived.WalkSmall
import Derived.Lib.LaidTab
import Derived.LaidMore
import Derived.LaidSub
namespace Go.Proofs.YtnflndngkihaaaaDoor.fnExactDateOf
open Go.ChangeShapes Go.WideShapes Go.ChangeAt Go.RowKit
open Go.ChangeMaps (open_string shut_string)
set_option linter.unusedVariables false
set_option maxRecDepth 100000
theorem walk (a0 : Int) (w : World) (w0 : (Lit.int .i64 a0).wf = true) (hL : laidMetH Tryd.prog Rows.fnExactDateOfRow.laid w) (hsh : w.ShapedOpen Tryd.prog) :
    Calls Tryd.prog 3 #[.int .i64 a0] w fun e w' => e = .returned (.bool true) ∧ Below w.heap.size w w' := by
  have HM := Lib.hid (months_of hL (by kernel_rfl))
  clear hL hsh w0
  by_cases h : 0 ≤ a0 ∧ a0 ≤ 36524
  · obtain ⟨h1, h2⟩ := h
    have C1 := fun W => Lib.hid (specDateOf_in a0 W h1 h2)
    have C2 := fun W hM => Lib.hid (implDateOf_in a0 W hM h1 h2)
    go_enter Tryd.func3, Tryd.ntmps3
    go_wp2_with fail
    refine (C1 _).out.mono ?_
    rintro e w1 ⟨y, m, d, hd, hn, rfl, b1⟩
    have H := Lib.hid hd
    have N := Lib.hid hn
    have B1 := Lib.hid b1
    clear hd hn b1
    go_wp2_with fail
    refine (C2 _ (HM.out.below B1.out)).out.mono ?_
    rintro e w2 ⟨y', m', d', hd, hn, rfl, b2⟩
    have B2 := Lib.hid (dbt B1.out b2)
    obtain ⟨rfl, rfl, rfl⟩ := Dy.uniq H.out hd (N.out.trans hn.symm)
    clear hd hn b2
    go_wp2_with fail
    go_ret
    exact ⟨rfl, B2.out⟩
  · have C1 := fun W => Lib.hid (specDateOf_out a0 W h)
    have C2 := fun W => Lib.hid (implDateOf_out a0 W h)
    clear h
    go_enter Tryd.func3, Tryd.ntmps3
    go_wp2_with fail
    refine (C1 _).out.mono ?_
    rintro e w1 ⟨rfl, rfl⟩
    go_wp2_with fail
    refine (C2 _).out.mono ?_
    rintro e w1 ⟨rfl, rfl⟩
    go_wp2_with fail
    go_ret
    exact ⟨rfl, Below.refl _ _⟩
end Go.Proofs.YtnflndngkihaaaaDoor.fnExactDateOf
