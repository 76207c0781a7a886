/-
  The walk of the law FnExactReadPart and what it stands on: For every string the program's ReadPart answers as its model: the law returns true and writes nothing that was there, where the listed variables of the library hold what its text lays (tied by the card). No other condition (beyond 2^20 bytes the law itself returns true).
-/
import Derived.Test.YtobcflcmlejajaaDoorRows
import Derived.Test.YtobcflcmlejajaaDoorVoUa
import Derived.WalkKit
import Derived.WalkSpells
import Derived.WalkLawsBesides
import Derived.Outline
import Derived.IntWalk
import Derived.Lib.Hide
import Derived.ProofKit
import Derived.OpenShut
import Derived.ShutString
import Derived.ChangeOld
import Derived.ChangeVars
import Derived.Below
import Derived.WalkSmall
import Derived.Lib.LaidTab
import Derived.LaidMore
import Derived.LaidSub
namespace Go.Proofs.YtobcflcmlejajaaDoor.fnExactReadPart
open Go.ChangeShapes Go.WideShapes Go.ChangeAt Go.RowKit
open Go.ChangeMaps (open_string shut_string)
set_option linter.unusedVariables false
set_option maxRecDepth 100000
theorem walk (a0 : ByteArray) (w : World) (w0 : a0.size ≤ maxLen) (hL : laidMetH Tryd.prog Rows.fnExactReadPartRow.laid w) (hsh : w.ShapedOpen Tryd.prog) :
    Calls Tryd.prog 11 #[.string a0] w fun e w' => e = .returned (.bool true) ∧ Below w.heap.size w w' := by
  unfold maxLen at w0
  by_cases hb0 : a0.size ≤ 1048576
  · have HP := Lib.hid (pow_of hL (by kernel_rfl))
    have HE := Lib.hid (errs_of hL (by kernel_rfl) (by kernel_rfl))
    have HM := Lib.hid (maxL_of hsh)
    have hnl : ¬ (1048576 : Int) < a0.size := by omega
    have C1 := Lib.hid (specReadPart_any a0 w hb0)
    have C2 : Hid (∀ W, Pow W → Errs W → MaxL W → Calls Tryd.prog 45 #[.string a0] W (RR W (Vm.ro a0.data.toList))) := Lib.hid (fun W h1 h2 h3 => implReadPart_any a0 W hb0 h1 h2 h3)
    clear hL hsh w0
    generalize Vm.ro a0.data.toList = o at *
    unfold RR at C1 C2
    generalize o.getD Vm.oz = x at *
    generalize o.isSome = y at *
    have hself := Lib.hid (Pa.eqL_self x)
    go_enter Tryd.func11, Tryd.ntmps11
    go_wp2_with fail
    refine C1.out.mono ?_
    rintro e w1 ⟨rfl, b1⟩
    have B1 := Lib.hid b1
    clear b1
    go_wp2_with fail
    refine (C2.out _ (HP.out.below (B1.out.alloc B1.out.size _)) (HE.out.below (B1.out.alloc B1.out.size _)) (HM.out.below (B1.out.alloc B1.out.size _))).mono ?_
    rintro e w2 ⟨rfl, b2⟩
    have B2 := Lib.hid (bt (B1.out.alloc B1.out.size _) b2)
    obtain ⟨c0, c1, c2, c3⟩ := (boxPat_kept (x := x) (t := 59) b2).zero
    have hlt := World.block_lt_of_cell? w2 _ c0
    clear b2
    go_wp2_with fail
    refine (eqPart_any x x _).mono ?_
    rintro e w3 ⟨rfl, b3⟩
    have B3 := Lib.hid (bt (B2.out.alloc B2.out.size _) b3)
    rw [hself.out]
    clear b3
    go_wp2_with fail
    go_ret
    exact ⟨rfl, B3.out⟩
  · have hnl : (1048576 : Int) < a0.size := by omega
    go_enter Tryd.func11, Tryd.ntmps11
    go_wp2_with fail
    go_ret
    exact ⟨rfl, Below.refl _ _⟩
end Go.Proofs.YtobcflcmlejajaaDoor.fnExactReadPart
