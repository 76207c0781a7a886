/-
  The walk of the law FnExactProtectedStands and what it stands on: For every list of stands (nil, shared and with spare room too; names of any bytes) and all numbers the program's ProtectedStands answers as its model and leaves its arguments as they were: the law returns true and writes nothing that was there. No condition (beyond 2^20 elements and bytes the law itself returns true).
-/
import Derived.Test.YtecobplmkdlagaaRows
import Derived.Test.YtecobplmkdlagaaFoD
import Derived.Test.YtecobplmkdlagaaStdL
import Derived.Test.YtecobplmkdlagaaStdM
import Derived.Test.YtecobplmkdlagaaStdS
import Derived.WalkKit
import Derived.WalkSpells
import Derived.WalkLawsBesides
import Derived.Outline
import Derived.IntWalk
import Derived.Lib.Hide
import Derived.ProofKit
import Derived.OpenShut
import Derived.ShutString
import Derived.ChangeOld
import Derived.ChangeVars
import Derived.Below
import Derived.WalkSmall
namespace Go.Proofs.Ytecobplmkdlagaa.fnExactProtectedStands
open Go.ChangeShapes Go.WideShapes Go.ChangeAt Go.RowKit
open Go.ChangeMaps (open_string shut_string)
set_option linter.unusedVariables false

theorem walk (a0 : Option Addr) (cap0 : Nat) (xs0 : List Std) (a1 : Int) (a2 : Int) (w : World) (w0 : SnSl w (.slice a0 xs0.length cap0) xs0) (m0 : xs0.length ≤ maxLen) (bd0 : ∀ x ∈ xs0, Sn.Bd x) (w1 : (Lit.int .i64 a1).wf = true) (w2 : (Lit.int .i64 a2).wf = true) :
    Calls Try.prog 5 #[.slice a0 xs0.length cap0, .int .i64 a1, .int .i64 a2] w fun e w' => e = .returned (.bool true) ∧ Below w.heap.size w w' := by
  have BD0 := Lib.hid bd0
  clear bd0
  by_cases hb0 : xs0.length + Sn.szl xs0 ≤ 1048576
  · have hn0 : ¬ (1048576 : Int) - xs0.length - Sn.szl xs0 < 0 := by omega
    have hl0 : xs0.length ≤ 1048576 := by omega
    have hi0 : Sn.Sh xs0 := Sn.sh_of (by omega)
    have Z0 := Lib.hid (szStandS_in w (.slice a0 xs0.length cap0) xs0 w0 1048576 (by omega) (by omega))
    have HV0 := Lib.hid w0
    clear w0
    go_enter Try.func5, Try.ntmps5
    go_wp2_with fail
    refine Z0.out.mono ?_
    rintro e v1 ⟨rfl, b1⟩
    have zz1 := Lib.hid b1.size
    have B1 := Lib.hid b1
    clear b1
    go_wp2_with fail
    refine (toStandS_at _ _ xs0 (HV0.out.below B1.out) hl0).mono ?_
    rintro e v2 ⟨rfl, o2, b2⟩
    have zz2 := Lib.hid b2.size
    have B2 := Lib.hid (bt B1.out b2)
    have p0_2 := Lib.hid o2
    clear b2 o2
    go_wp2_with fail
    refine (specProtectedStands_any _ _ xs0 a1 a2 p0_2.out.sl hl0 hi0).mono ?_
    rintro e v3 ⟨u3, rfl, o3, b3⟩
    clear p0_2
    have zz3 := Lib.hid b3.size
    have B3 := Lib.hid (bt B2.out b3)
    have s3 := Lib.hid o3
    clear b3 o3
    have SA := s3
    go_wp2_with fail
    refine (toStandS_at _ _ xs0 (HV0.out.below B3.out) hl0).mono ?_
    rintro e v4 ⟨rfl, o4, b4⟩
    have zz4 := Lib.hid b4.size
    have B4 := Lib.hid (bt B3.out b4)
    have A4 := Lib.hid b4
    have s4 := Lib.hid (s3.out.belowAll b4)
    clear s3
    have x0_4 := Lib.hid o4
    have XL0 := Lib.hid (World.ownsRow.lt o4 _ rfl).2
    clear b4 o4
    go_wp2_with fail
    refine (implProtectedStands_any _ _ xs0 a1 a2 x0_4.out.sl hl0 hi0).mono ?_
    rintro e v5 ⟨u5, rfl, o5, b5⟩
    have zz5 := Lib.hid b5.size
    have B5 := Lib.hid (bt B4.out b5)
    have A5 := Lib.hid (bt A4.out b5)
    have s5 := Lib.hid (s4.out.belowAll b5)
    clear s4
    have x0_5 := Lib.hid (x0_4.out.belowAll b5)
    clear x0_4
    have g5 := Lib.hid o5
    clear b5 o5
    have XB0 : Hid (v3.heap.size ≤ v3.heap.size) := Lib.hid (by exact Nat.le_refl _)
    have XG0 : Hid (v3.heap.size < v4.heap.size) := Lib.hid (by have := XL0.out; omega)
    have GA : Hid (v3.heap.size ≤ v4.heap.size) := Lib.hid (by have := zz4.out; omega)
    go_wp2_with fail
    refine (eqInt64S_any _ _ _ (Fo.psL xs0 a1 a2) (Fo.psL xs0 a1 a2) g5.out.sl s5.out.sl (Fo.psL_len hl0) (Fo.psL_len hl0)).mono ?_
    rintro e v6 ⟨rfl, b6⟩
    have zz6 := Lib.hid b6.size
    have B6 := Lib.hid (bt B5.out b6)
    have A6 := Lib.hid (bt A5.out b6)
    have s6 := Lib.hid (s5.out.belowAll b6)
    clear s5
    have x0_6 := Lib.hid (x0_5.out.belowAll b6)
    clear x0_5
    have g6 := Lib.hid (g5.out.belowAll b6)
    clear g5
    clear b6
    rw [show ((Fo.psL xs0 a1 a2) == (Fo.psL xs0 a1 a2)) = true from beq_self_eq_true _]
    go_wp2_with fail
    refine (toStandS_at _ _ xs0 (HV0.out.below B6.out) hl0).mono ?_
    rintro e v7 ⟨rfl, o7, b7⟩
    have zz7 := Lib.hid b7.size
    have B7 := Lib.hid (bt B6.out b7)
    have A7 := Lib.hid (bt A6.out b7)
    have s7 := Lib.hid (s6.out.belowAll b7)
    clear s6
    have x0_7 := Lib.hid (x0_6.out.belowAll b7)
    clear x0_6
    have g7 := Lib.hid (g6.out.belowAll b7)
    clear g6
    have y7 := Lib.hid o7
    clear b7 o7
    go_wp2_with fail
    refine (eqStandS_any _ _ _ xs0 xs0 x0_7.out.sl y7.out.sl hl0 hl0).mono ?_
    rintro e v8 ⟨rfl, b8⟩
    clear y7
    have zz8 := Lib.hid b8.size
    have B8 := Lib.hid (bt B7.out b8)
    have A8 := Lib.hid (bt A7.out b8)
    have s8 := Lib.hid (s7.out.belowAll b8)
    clear s7
    have x0_8 := Lib.hid (x0_7.out.belowAll b8)
    clear x0_7
    have g8 := Lib.hid (g7.out.belowAll b8)
    clear g7
    clear b8
    rw [Sn.eqP_self]
    go_wp2_with fail
    refine (markStandS_own _ _ _ _ _ _ _ (by omega) (by omega) x0_8.out hl0).mono ?_
    rintro e v9 ⟨rfl, -, hg⟩
    clear x0_8
    have b9 := only_below (B := v3.heap.size) hg XB0.out A8.out.size
    have zz9 := Lib.hid hg.size
    have A9 := Lib.hid (A8.out.trans b9)
    have B9 := Lib.hid (bt B3.out A9.out)
    have s9 := Lib.hid (SA.out.belowAll A9.out)
    clear s8
    have g9 := Lib.hid (g8.out.far hg XG0.out)
    clear g8
    clear hg b9
    go_wp2_with fail
    refine (eqInt64S_any _ _ _ (Fo.psL xs0 a1 a2) (Fo.psL xs0 a1 a2) g9.out.sl s9.out.sl (Fo.psL_len hl0) (Fo.psL_len hl0)).mono ?_
    rintro e v10 ⟨rfl, b10⟩
    have zz10 := Lib.hid b10.size
    have B10 := Lib.hid (bt B9.out b10)
    have A10 := Lib.hid (bt A9.out b10)
    have s10 := Lib.hid (s9.out.belowAll b10)
    clear s9
    have g10 := Lib.hid (g9.out.belowAll b10)
    clear g9
    clear b10
    rw [show ((Fo.psL xs0 a1 a2) == (Fo.psL xs0 a1 a2)) = true from beq_self_eq_true _]
    have GB : Hid (v4.heap.size ≤ v10.heap.size) := Lib.hid (by have := zz5.out; have := zz6.out; have := zz7.out; have := zz8.out; have := zz9.out; have := zz10.out; omega)
    go_wp2_with fail
    refine (markInt64S_res _ _ _ (Fo.psL xs0 a1 a2).length _ 1 (by omega) (by omega) g10.out (Fo.psL_len hl0) GB.out).mono ?_
    rintro e v11 ⟨rfl, mo11, b11⟩
    clear g10
    have A11 := Lib.hid (A10.out.trans (b11.mono GA.out))
    have B11 := Lib.hid (bt B3.out A11.out)
    have s11 := Lib.hid (SA.out.belowAll A11.out)
    clear s10
    have mk11 := Lib.hid mo11
    clear mo11 b11
    go_wp2_with fail
    refine (heldInt64S_own _ _ _ (Fo.psL xs0 a1 a2).length 1 (by omega) (by omega) (Fo.psL_len hl0) mk11.out).mono ?_
    rintro e v12 ⟨rfl, b12⟩
    have zz12 := Lib.hid b12.size
    have B12 := Lib.hid (bt B11.out b12)
    have A12 := Lib.hid (bt A11.out b12)
    have s12 := Lib.hid (s11.out.belowAll b12)
    clear s11
    have mk12 := Lib.hid (own_belowAll mk11.out b12)
    clear mk11
    clear b12
    go_wp2_with fail
    refine (toStandS_at _ _ xs0 (HV0.out.below B12.out) hl0).mono ?_
    rintro e v13 ⟨rfl, o13, b13⟩
    have zz13 := Lib.hid b13.size
    have B13 := Lib.hid (bt B12.out b13)
    have A13 := Lib.hid (bt A12.out b13)
    have s13 := Lib.hid (s12.out.belowAll b13)
    clear s12
    have mk13 := Lib.hid (own_belowAll mk12.out b13)
    clear mk12
    have q0_13 := Lib.hid o13
    clear b13 o13
    go_wp2_with fail
    refine (implProtectedStands_any _ _ xs0 a1 a2 q0_13.out.sl hl0 hi0).mono ?_
    rintro e v14 ⟨u14, rfl, o14, b14⟩
    clear q0_13
    have zz14 := Lib.hid b14.size
    have B14 := Lib.hid (bt B13.out b14)
    have A14 := Lib.hid (bt A13.out b14)
    have s14 := Lib.hid (s13.out.belowAll b14)
    clear s13
    have mk14 := Lib.hid (own_belowAll mk13.out b14)
    clear mk13
    have h14 := Lib.hid o14
    clear b14 o14
    go_wp2_with fail
    refine (eqInt64S_any _ _ _ (Fo.psL xs0 a1 a2) (Fo.psL xs0 a1 a2) h14.out.sl s14.out.sl (Fo.psL_len hl0) (Fo.psL_len hl0)).mono ?_
    rintro e v15 ⟨rfl, b15⟩
    have zz15 := Lib.hid b15.size
    have B15 := Lib.hid (bt B14.out b15)
    have A15 := Lib.hid (bt A14.out b15)
    have s15 := Lib.hid (s14.out.belowAll b15)
    clear s14
    have mk15 := Lib.hid (own_belowAll mk14.out b15)
    clear mk14
    have h15 := Lib.hid (h14.out.belowAll b15)
    clear h14
    clear b15
    rw [show ((Fo.psL xs0 a1 a2) == (Fo.psL xs0 a1 a2)) = true from beq_self_eq_true _]
    go_wp2_with fail
    refine (heldInt64S_own _ _ _ (Fo.psL xs0 a1 a2).length 1 (by omega) (by omega) (Fo.psL_len hl0) mk15.out).mono ?_
    rintro e v16 ⟨rfl, b16⟩
    have zz16 := Lib.hid b16.size
    have B16 := Lib.hid (bt B15.out b16)
    have A16 := Lib.hid (bt A15.out b16)
    have s16 := Lib.hid (s15.out.belowAll b16)
    clear s15
    have mk16 := Lib.hid (own_belowAll mk15.out b16)
    clear mk15
    have h16 := Lib.hid (h15.out.belowAll b16)
    clear h15
    clear b16
    go_wp2_with fail
    go_ret
    exact ⟨rfl, B16.out⟩
  · have Z0 := Lib.hid (szStandS_out w (.slice a0 xs0.length cap0) xs0 w0 BD0.out m0 1048576 (by omega) (by omega) (by omega))
    clear hb0
    go_enter Try.func5, Try.ntmps5
    go_wp2_with fail
    refine Z0.out.mono ?_
    rintro e v1 ⟨rfl, b1⟩
    have zz1 := Lib.hid b1.size
    have B1 := Lib.hid b1
    clear b1
    go_wp2_with fail
    go_ret
    exact ⟨rfl, B1.out⟩
end Go.Proofs.Ytecobplmkdlagaa.fnExactProtectedStands
