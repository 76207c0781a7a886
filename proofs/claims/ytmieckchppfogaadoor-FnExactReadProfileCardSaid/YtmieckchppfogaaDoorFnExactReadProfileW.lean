/-
  The walk of the law FnExactReadProfile and what it stands on: For every string the program's ReadProfile answers as its model, and its answer owns its memory: the law returns true and writes nothing that was there, where the listed variables of the library hold what its text lays (tied by the card). No other condition (beyond 2^20 bytes the law itself returns true).
-/
import Derived.Test.YtmieckchppfogaaDoorRows
import Derived.Test.YtmieckchppfogaaDoorPrS
import Derived.Test.YtmieckchppfogaaDoorLayM
import Derived.WalkKit
import Derived.WalkSpells
import Derived.WalkLawsBesides
import Derived.Outline
import Derived.IntWalk
import Derived.Lib.Hide
import Derived.ProofKit
import Derived.OpenShut
import Derived.ShutString
import Derived.ChangeOld
import Derived.ChangeVars
import Derived.Below
import Derived.WalkSmall
import Derived.Lib.LaidTab
import Derived.LaidMore
import Derived.LaidSub
namespace Go.Proofs.YtmieckchppfogaaDoor.fnExactReadProfile
open Go.ChangeShapes Go.WideShapes Go.ChangeAt Go.RowKit
open Go.ChangeMaps (open_string shut_string)
set_option linter.unusedVariables false
set_option maxRecDepth 100000
theorem walk (a0 : ByteArray) (w : World) (w0 : a0.size ≤ maxLen) (hL : laidMetH Tryd.prog Rows.fnExactReadProfileRow.laid w) (hsh : w.ShapedOpen Tryd.prog) :
    Calls Tryd.prog 6 #[.string a0] w fun e w' => e = .returned (.bool true) ∧ Below w.heap.size w w' := by
  have HP := Lib.hid (pow_of hL (by kernel_rfl))
  have HE := Lib.hid (errs_of hL (by kernel_rfl) (by kernel_rfl))
  have HM := Lib.hid (maxL_of hsh)
  clear hL hsh
  unfold maxLen at w0
  by_cases hs0 : a0.size ≤ 1048576
  · have hsn0 : ¬ 1048576 < a0.size := by omega
    go_enter Tryd.func6, Tryd.ntmps6
    go_wp2_with fail
    refine (specReadProfile_any a0 _ hs0).mono ?_
    rintro e v1 ⟨u1, rfl, o1, b1⟩
    have z1 := Lib.hid b1.size
    have B1 := Lib.hid b1
    have s1 := Lib.hid o1
    clear b1 o1
    have SA := s1
    go_wp2_with fail
    refine (implReadProfile_any a0 _ hs0 (HP.out.below B1.out) (HE.out.below B1.out) (HM.out.below B1.out)).mono ?_
    rintro e v2 ⟨u2, rfl, o2, b2⟩
    have z2 := Lib.hid b2.size
    have B2 := Lib.hid (bt B1.out b2)
    have A2 := Lib.hid b2
    have s2 := Lib.hid (s1.out.belowAll b2)
    clear s1
    have g2 := Lib.hid o2
    clear b2 o2
    have GA : Hid (v1.heap.size ≤ v1.heap.size) := Lib.hid (by exact Nat.le_refl _)
    go_wp2_with fail
    refine (eqLayerS_any _ _ _ ((La.rp a0.data.toList).getD []) ((La.rp a0.data.toList).getD []) g2.out.sl s2.out.sl (La.rp_len a0.data.toList) (La.rp_len a0.data.toList)).mono ?_
    rintro e v3 ⟨rfl, b3⟩
    have z3 := Lib.hid b3.size
    have B3 := Lib.hid (bt B2.out b3)
    have A3 := Lib.hid (bt A2.out b3)
    have s3 := Lib.hid (s2.out.belowAll b3)
    clear s2
    have g3 := Lib.hid (g2.out.belowAll b3)
    clear g2
    clear b3
    rw [La.eqP_self]
    have GB : Hid (v1.heap.size ≤ v3.heap.size) := Lib.hid (by have := z2.out; have := z3.out; omega)
    go_wp2_with fail
    refine (markLayerS_res _ _ _ ((La.rp a0.data.toList).getD []).length _ 1 (by omega) (by omega) g3.out (La.rp_len a0.data.toList) GB.out).mono ?_
    rintro e v4 ⟨rfl, mo4, b4⟩
    clear g3
    have A4 := Lib.hid (A3.out.trans (b4.mono GA.out))
    have B4 := Lib.hid (bt B1.out A4.out)
    have s4 := Lib.hid (SA.out.belowAll A4.out)
    clear s3
    have mk4 := Lib.hid mo4
    clear mo4 b4
    go_wp2_with fail
    refine (heldLayerS_own _ _ _ ((La.rp a0.data.toList).getD []).length 1 (by omega) (by omega) (La.rp_len a0.data.toList) mk4.out).mono ?_
    rintro e v5 ⟨rfl, b5⟩
    have z5 := Lib.hid b5.size
    have B5 := Lib.hid (bt B4.out b5)
    have A5 := Lib.hid (bt A4.out b5)
    have s5 := Lib.hid (s4.out.belowAll b5)
    clear s4
    have mk5 := Lib.hid (own_belowAll mk4.out b5)
    clear mk4
    clear b5
    go_wp2_with fail
    refine (implReadProfile_any a0 _ hs0 (HP.out.below B5.out) (HE.out.below B5.out) (HM.out.below B5.out)).mono ?_
    rintro e v6 ⟨u6, rfl, o6, b6⟩
    have z6 := Lib.hid b6.size
    have B6 := Lib.hid (bt B5.out b6)
    have A6 := Lib.hid (bt A5.out b6)
    have s6 := Lib.hid (s5.out.belowAll b6)
    clear s5
    have mk6 := Lib.hid (own_belowAll mk5.out b6)
    clear mk5
    have h6 := Lib.hid o6
    clear b6 o6
    go_wp2_with fail
    refine (eqLayerS_any _ _ _ ((La.rp a0.data.toList).getD []) ((La.rp a0.data.toList).getD []) h6.out.sl s6.out.sl (La.rp_len a0.data.toList) (La.rp_len a0.data.toList)).mono ?_
    rintro e v7 ⟨rfl, b7⟩
    have z7 := Lib.hid b7.size
    have B7 := Lib.hid (bt B6.out b7)
    have A7 := Lib.hid (bt A6.out b7)
    have s7 := Lib.hid (s6.out.belowAll b7)
    clear s6
    have mk7 := Lib.hid (own_belowAll mk6.out b7)
    clear mk6
    have h7 := Lib.hid (h6.out.belowAll b7)
    clear h6
    clear b7
    rw [La.eqP_self]
    go_wp2_with fail
    refine (heldLayerS_own _ _ _ ((La.rp a0.data.toList).getD []).length 1 (by omega) (by omega) (La.rp_len a0.data.toList) mk7.out).mono ?_
    rintro e v8 ⟨rfl, b8⟩
    have z8 := Lib.hid b8.size
    have B8 := Lib.hid (bt B7.out b8)
    have A8 := Lib.hid (bt A7.out b8)
    have s8 := Lib.hid (s7.out.belowAll b8)
    clear s7
    have mk8 := Lib.hid (own_belowAll mk7.out b8)
    clear mk7
    have h8 := Lib.hid (h7.out.belowAll b8)
    clear h7
    clear b8
    go_wp2_with fail
    go_ret
    exact ⟨rfl, B8.out⟩
  · have hsn : 1048576 < a0.size := by omega
    go_enter Tryd.func6, Tryd.ntmps6
    go_wp2_with fail
    go_ret
    exact ⟨rfl, Below.refl _ _⟩
end Go.Proofs.YtmieckchppfogaaDoor.fnExactReadProfile
