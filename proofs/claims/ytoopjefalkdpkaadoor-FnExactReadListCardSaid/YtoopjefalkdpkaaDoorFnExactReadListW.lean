/-
  The walk of the law FnExactReadList and what it stands on: For every string the program's ReadList answers as its model, and what it returns is its own memory, where the listed variables of the library hold what its text lays (tied by the card). No other condition (beyond 2^20 bytes the law itself returns true).
-/
import Derived.Test.YtoopjefalkdpkaaDoorRows
import Derived.Test.YtoopjefalkdpkaaDoorReadL
import Derived.WalkKit
import Derived.WalkSpells
import Derived.WalkLawsBesides
import Derived.Outline
import Derived.IntWalk
import Derived.Lib.Hide
import Derived.ProofKit
import Derived.OpenShut
import Derived.ShutString
import Derived.ChangeOld
import Derived.ChangeVars
import Derived.Below
import Derived.WalkSmall
import Derived.Lib.LaidTab
import Derived.LaidMore
import Derived.LaidSub
namespace Go.Proofs.YtoopjefalkdpkaaDoor.fnExactReadList
open Go.ChangeShapes Go.WideShapes Go.ChangeAt Go.RowKit
open Go.ChangeMaps (open_string shut_string)
set_option linter.unusedVariables false
set_option maxRecDepth 100000
theorem walk (a0 : ByteArray) (w : World) (w0 : a0.size ≤ maxLen) (hL : laidMetH Tryd.prog Rows.fnExactReadListRow.laid w) (hsh : w.ShapedOpen Tryd.prog) :
    Calls Tryd.prog 7 #[.string a0] w fun e w' => e = .returned (.bool true) ∧ Below w.heap.size w w' := by
  unfold maxLen at w0
  by_cases hb0 : a0.size ≤ 1048576
  · have HP := Lib.hid (pow_of hL (by kernel_rfl))
    have HE := Lib.hid (errs_of hL (by kernel_rfl) (by kernel_rfl))
    have HM := Lib.hid (maxL_of hsh)
    have hnl : ¬ (1048576 : Int) < a0.size := by omega
    have hz := rl_len a0.data.toList
    have C1 := Lib.hid (specReadList_any a0 w hb0)
    have C2 : Hid (∀ W, Pow W → Errs W → MaxL W → Calls Tryd.prog 20 #[.string a0] W (RL W (rl a0.data.toList))) := Lib.hid (fun W h1 h2 h3 => implReadList_any a0 W hb0 h1 h2 h3)
    clear hL hsh w0
    generalize rl a0.data.toList = o at *
    have hself : Hid ((o.getD [] == o.getD []) = true) := Lib.hid (beq_self_eq_true _)
    generalize hzs : o.getD [] = zs at *
    have HZ := Lib.hid hzs
    clear hzs
    have hzl : zs.length ≤ 1048576 := by omega
    go_enter Tryd.func7, Tryd.ntmps7
    go_wp2_with fail
    refine C1.out.mono ?_
    rintro e w1 ⟨u0, rfl, ho, b1⟩
    rw [HZ.out] at ho
    have S0 := Lib.hid ho.sl
    have B1 := Lib.hid b1
    clear ho b1
    go_wp2_with fail
    refine (C2.out w1 (HP.out.below B1.out) (HE.out.below B1.out) (HM.out.below B1.out)).mono ?_
    rintro e w2 ⟨u1, rfl, ho, b2⟩
    rw [HZ.out] at ho
    have O2 := Lib.hid ho
    have B2 := Lib.hid b2
    clear ho b2
    go_wp2_with fail
    refine (eqInt64S_any w2 u1 u0 zs zs O2.out.sl (S0.out.below B2.out) hzl hzl).mono ?_
    rintro e w3 ⟨rfl, b3⟩
    rw [hself.out]
    have O3 : Hid (Own w1.heap.size w3 u1 zs) := Lib.hid (ownsRow_belowAll O2.out b3)
    have B3 : Hid (Below w1.heap.size w1 w3) := Lib.hid (bt B2.out b3)
    clear b3
    go_wp2_with fail
    refine (markInt64S_any w1.heap.size w3 u1 zs 1 (by decide) (by decide) O3.out hzl).mono ?_
    rintro e w4 ⟨rfl, o4, b4⟩
    have O4 := Lib.hid o4
    have B4 : Hid (Below w1.heap.size w1 w4) := Lib.hid (B3.out.trans b4)
    clear o4 b4
    go_wp2_with fail
    refine (heldInt64S_any w4 u1 zs.length 1 (by decide) (by decide) O4.out.sl hzl).mono ?_
    rintro e w5 ⟨rfl, b5⟩
    have B5 : Hid (Below w1.heap.size w1 w5) := Lib.hid (bt B4.out b5)
    have BB := Lib.hid (bt B1.out B5.out)
    have S5 : Hid (Sl w5 u1 (upTo 1 zs.length)) := Lib.hid (O4.out.sl.below b5)
    clear b5
    go_wp2_with fail
    refine (C2.out w5 (HP.out.below BB.out) (HE.out.below BB.out) (HM.out.below BB.out)).mono ?_
    rintro e w6 ⟨u2, rfl, ho, b6⟩
    rw [HZ.out] at ho
    have O6 := Lib.hid ho
    have B6 : Hid (Below w1.heap.size w1 w6) := Lib.hid (bt B5.out b6)
    have S6 : Hid (Sl w6 u1 (upTo 1 zs.length)) := Lib.hid (S5.out.below b6)
    clear ho b6
    go_wp2_with fail
    refine (eqInt64S_any w6 u2 u0 zs zs O6.out.sl (S0.out.below B6.out) hzl hzl).mono ?_
    rintro e w7 ⟨rfl, b7⟩
    rw [hself.out]
    have B7 : Hid (Below w1.heap.size w1 w7) := Lib.hid (bt B6.out b7)
    have S7 : Hid (Sl w7 u1 (upTo 1 zs.length)) := Lib.hid (S6.out.below b7)
    clear b7
    go_wp2_with fail
    refine (heldInt64S_any w7 u1 zs.length 1 (by decide) (by decide) S7.out hzl).mono ?_
    rintro e w8 ⟨rfl, b8⟩
    have B8 : Hid (Below w1.heap.size w1 w8) := Lib.hid (bt B7.out b8)
    clear b8
    go_wp2_with fail
    go_ret
    exact ⟨rfl, bt B1.out B8.out⟩
  · have hnl : (1048576 : Int) < a0.size := by omega
    go_enter Tryd.func7, Tryd.ntmps7
    go_wp2_with fail
    go_ret
    exact ⟨rfl, Below.refl _ _⟩
end Go.Proofs.YtoopjefalkdpkaaDoor.fnExactReadList
