/-
  The walk of the law FnExactPartText and what it stands on: For every part (four int64 numbers) the program's PartText answers as its model: the law returns true and writes nothing that was there, where the library's table of powers of ten holds what its text lays (tied by the card). No other condition.
-/
import Derived.Test.YtobcflcmlejajaaDoorRows
import Derived.Test.YtobcflcmlejajaaDoorVoTa
import Derived.Test.YtobcflcmlejajaaDoorPatS
import Derived.WalkKit
import Derived.WalkSpells
import Derived.WalkLawsBesides
import Derived.Outline
import Derived.IntWalk
import Derived.Lib.Hide
import Derived.ProofKit
import Derived.OpenShut
import Derived.ShutString
import Derived.ChangeOld
import Derived.ChangeVars
import Derived.Below
import Derived.WalkSmall
import Derived.Lib.LaidTab
import Derived.LaidMore
import Derived.LaidSub
namespace Go.Proofs.YtobcflcmlejajaaDoor.fnExactPartText
open Go.ChangeShapes Go.WideShapes Go.ChangeAt Go.RowKit
open Go.ChangeMaps (open_string shut_string)
set_option linter.unusedVariables false
set_option maxRecDepth 100000
theorem walk (x0 : Pat) (w : World)  (hL : laidMetH Tryd.prog Rows.fnExactPartTextRow.laid w) (hsh : w.ShapedOpen Tryd.prog) :
    Calls Tryd.prog 10 #[.agg #[.int .i64 x0.le, .int .i64 x0.wi, .int .i64 x0.de, .int .i64 x0.dn]] w fun e w' => e = .returned (.bool true) ∧ Below w.heap.size w w' := by
  have HP := Lib.hid (pow_of hL (by kernel_rfl))
  clear hL hsh
  have T := fun W => Lib.hid (toPart_any x0 W)
  have C1 := fun W => Lib.hid (specPartText_any x0 W)
  have C2 := fun W h => Lib.hid (implPartText_any x0 W h)
  have HB := Lib.hid (boxPat_below w x0 57)
  have HK : Hid (∀ w1, Below (boxPat w x0 57).heap.size (boxPat w x0 57) w1 → PaCells w1 w.heap.size 0 x0) := Lib.hid (fun w1 h => boxPat_kept h)
  have T0 := Lib.hid (T (boxPat w x0 57)).out
  unfold boxPat at HB HK T0
  go_enter Tryd.func10, Tryd.ntmps10
  go_wp2_with fail
  refine T0.out.mono ?_
  rintro e w1 ⟨rfl, b1⟩
  have B1 := Lib.hid b1
  clear b1
  go_wp2_with fail
  refine (C1 _).out.mono ?_
  rintro e w2 ⟨rfl, b2⟩
  have B2 := Lib.hid (bt B1.out b2)
  obtain ⟨c0, c1, c2, c3⟩ := (HK.out w2 B2.out).zero
  clear b2
  go_wp2_with fail
  refine (T _).out.mono ?_
  rintro e w3 ⟨rfl, b3⟩
  have B3 := Lib.hid (bt HB.out (bt B2.out b3))
  clear b3 c0 c1 c2 c3
  go_wp2_with fail
  refine (C2 _ (HP.out.below B3.out)).out.mono ?_
  rintro e w4 ⟨rfl, b4⟩
  have B4 := Lib.hid (bt B3.out b4)
  clear b4
  go_wp2_with fail
  go_ret
  exact ⟨rfl, B4.out⟩
end Go.Proofs.YtobcflcmlejajaaDoor.fnExactPartText
