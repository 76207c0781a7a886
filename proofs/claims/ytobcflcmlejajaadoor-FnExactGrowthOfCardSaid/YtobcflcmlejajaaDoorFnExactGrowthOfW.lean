/-
  The walk of the law FnExactGrowthOf and what it stands on: For every slice of parts (nil, shared and with spare room too) and all int64 the program's GrowthOf answers as its model, leaves its argument as it was and shares no memory with it: the law returns true and writes nothing that was there, where the variable errTooGreat holds the sentinel that its text lays (tied by the card). No other condition (beyond 2^20 parts the law itself returns true).
-/
import Derived.Test.YtobcflcmlejajaaDoorRows
import Derived.Test.YtobcflcmlejajaaDoorVoF
import Derived.Test.YtobcflcmlejajaaDoorPatM
import Derived.Test.YtobcflcmlejajaaDoorPatS
import Derived.WalkKit
import Derived.WalkSpells
import Derived.WalkLawsBesides
import Derived.Outline
import Derived.IntWalk
import Derived.Lib.Hide
import Derived.ProofKit
import Derived.OpenShut
import Derived.ShutString
import Derived.ChangeOld
import Derived.ChangeVars
import Derived.Below
import Derived.WalkSmall
import Derived.Lib.LaidTab
import Derived.LaidMore
import Derived.LaidSub
namespace Go.Proofs.YtobcflcmlejajaaDoor.fnExactGrowthOf
open Go.ChangeShapes Go.WideShapes Go.ChangeAt Go.RowKit
open Go.ChangeMaps (open_string shut_string)
set_option linter.unusedVariables false
set_option maxRecDepth 100000
set_option maxHeartbeats 3200000
theorem walk (a0 : Option Addr) (cap0 : Nat) (xs0 : List Pat) (a1 : Int) (a2 : Int) (w : World) (w0 : PaSl w (.slice a0 xs0.length cap0) xs0) (m0 : xs0.length ≤ maxLen) (w1 : (Lit.int .i64 a1).wf = true) (w2 : (Lit.int .i64 a2).wf = true) (hL : laidMetH Tryd.prog Rows.fnExactGrowthOfRow.laid w) (hsh : w.ShapedOpen Tryd.prog) :
    Calls Tryd.prog 4 #[.slice a0 xs0.length cap0, .int .i64 a1, .int .i64 a2] w fun e w' => e = .returned (.bool true) ∧ Below w.heap.size w w' := by
  obtain ⟨aT, HT0⟩ := tg_of hL (by kernel_rfl)
  have HT := Lib.hid HT0
  clear hL hsh HT0
  unfold maxLen at m0
  by_cases hb0 : xs0.length ≤ 1048576
  · have hn0 : ¬ (1048576 : Int) - xs0.length < 0 := by omega
    have hl0 : xs0.length ≤ 1048576 := by omega
    have Z0 := Lib.hid (szPartS_in w a0 xs0.length cap0 (1048576 : Int) (by omega) (by omega))
    have HV0 := Lib.hid w0
    clear w0
    go_enter Tryd.func4, Tryd.ntmps4
    go_wp2_with fail
    refine Z0.out.mono ?_
    rintro e _ ⟨rfl, rfl⟩
    go_wp2_with fail
    refine (toPartS_at _ _ xs0 HV0.out hl0).mono ?_
    rintro e v1 ⟨rfl, o1, b1⟩
    have zz1 := Lib.hid b1.size
    have B1 := Lib.hid b1
    have p0_1 := Lib.hid o1
    clear b1 o1
    go_wp2_with fail
    refine (specGrowthOf_any _ _ xs0 a1 a2 p0_1.out.sl hl0).mono ?_
    rintro e v2 ⟨u2, rfl, o2, b2⟩
    clear p0_1
    have zz2 := Lib.hid b2.size
    have B2 := Lib.hid (bt B1.out b2)
    have s2 := Lib.hid o2
    clear b2 o2
    have SA := s2
    go_wp2_with fail
    refine (toPartS_at _ _ xs0 (HV0.out.below B2.out) hl0).mono ?_
    rintro e v3 ⟨rfl, o3, b3⟩
    have zz3 := Lib.hid b3.size
    have B3 := Lib.hid (bt B2.out b3)
    have A3 := Lib.hid b3
    have s3 := Lib.hid (s2.out.belowAll b3)
    clear s2
    have x0_3 := Lib.hid o3
    have XL0 := Lib.hid (World.ownsRow.lt o3 _ rfl).2
    clear b3 o3
    go_wp2_with fail
    refine (implGrowthOf_any _ _ xs0 a1 a2 x0_3.out.sl hl0 (HT.out.below B3)).mono ?_
    rintro e v4 ⟨u4, rfl, o4, b4⟩
    have zz4 := Lib.hid b4.size
    have B4 := Lib.hid (bt B3.out b4)
    have A4 := Lib.hid (bt A3.out b4)
    have s4 := Lib.hid (s3.out.belowAll b4)
    clear s3
    have x0_4 := Lib.hid (x0_3.out.belowAll b4)
    clear x0_3
    have g4 := Lib.hid o4
    clear b4 o4
    have XB0 : Hid (v2.heap.size ≤ v2.heap.size) := Lib.hid (by exact Nat.le_refl _)
    have XG0 : Hid (v2.heap.size < v3.heap.size) := Lib.hid (by have := XL0.out; omega)
    have GA : Hid (v2.heap.size ≤ v3.heap.size) := Lib.hid (by have := zz3.out; omega)
    go_wp2_with fail
    refine (eqInt64S_any _ _ _ (Vm.gL xs0 a1 a2) (Vm.gL xs0 a1 a2) g4.out.sl s4.out.sl ((Nat.le_trans Vm.gL_len hl0)) ((Nat.le_trans Vm.gL_len hl0))).mono ?_
    rintro e v5 ⟨rfl, b5⟩
    have zz5 := Lib.hid b5.size
    have B5 := Lib.hid (bt B4.out b5)
    have A5 := Lib.hid (bt A4.out b5)
    have s5 := Lib.hid (s4.out.belowAll b5)
    clear s4
    have x0_5 := Lib.hid (x0_4.out.belowAll b5)
    clear x0_4
    have g5 := Lib.hid (g4.out.belowAll b5)
    clear g4
    clear b5
    rw [show ((Vm.gL xs0 a1 a2) == (Vm.gL xs0 a1 a2)) = true from beq_self_eq_true _]
    go_wp2_with fail
    refine (toPartS_at _ _ xs0 (HV0.out.below B5.out) hl0).mono ?_
    rintro e v6 ⟨rfl, o6, b6⟩
    have zz6 := Lib.hid b6.size
    have B6 := Lib.hid (bt B5.out b6)
    have A6 := Lib.hid (bt A5.out b6)
    have s6 := Lib.hid (s5.out.belowAll b6)
    clear s5
    have x0_6 := Lib.hid (x0_5.out.belowAll b6)
    clear x0_5
    have g6 := Lib.hid (g5.out.belowAll b6)
    clear g5
    have y6 := Lib.hid o6
    clear b6 o6
    go_wp2_with fail
    refine (eqPartS_any _ _ _ xs0 xs0 x0_6.out.sl y6.out.sl hl0 hl0).mono ?_
    rintro e v7 ⟨rfl, b7⟩
    clear y6
    have zz7 := Lib.hid b7.size
    have B7 := Lib.hid (bt B6.out b7)
    have A7 := Lib.hid (bt A6.out b7)
    have s7 := Lib.hid (s6.out.belowAll b7)
    clear s6
    have x0_7 := Lib.hid (x0_6.out.belowAll b7)
    clear x0_6
    have g7 := Lib.hid (g6.out.belowAll b7)
    clear g6
    clear b7
    rw [Pa.eqP_self]
    go_wp2_with fail
    refine (markPartS_own _ _ _ _ _ _ _ (by omega) (by omega) x0_7.out hl0).mono ?_
    rintro e v8 ⟨rfl, -, hg⟩
    clear x0_7
    have b8 := only_below (B := v2.heap.size) hg XB0.out A7.out.size
    have zz8 := Lib.hid hg.size
    have A8 := Lib.hid (A7.out.trans b8)
    have B8 := Lib.hid (bt B2.out A8.out)
    have s8 := Lib.hid (SA.out.belowAll A8.out)
    clear s7
    have g8 := Lib.hid (g7.out.far hg XG0.out)
    clear g7
    clear hg b8
    go_wp2_with fail
    refine (eqInt64S_any _ _ _ (Vm.gL xs0 a1 a2) (Vm.gL xs0 a1 a2) g8.out.sl s8.out.sl ((Nat.le_trans Vm.gL_len hl0)) ((Nat.le_trans Vm.gL_len hl0))).mono ?_
    rintro e v9 ⟨rfl, b9⟩
    have zz9 := Lib.hid b9.size
    have B9 := Lib.hid (bt B8.out b9)
    have A9 := Lib.hid (bt A8.out b9)
    have s9 := Lib.hid (s8.out.belowAll b9)
    clear s8
    have g9 := Lib.hid (g8.out.belowAll b9)
    clear g8
    clear b9
    rw [show ((Vm.gL xs0 a1 a2) == (Vm.gL xs0 a1 a2)) = true from beq_self_eq_true _]
    have GB : Hid (v3.heap.size ≤ v9.heap.size) := Lib.hid (by have := zz4.out; have := zz5.out; have := zz6.out; have := zz7.out; have := zz8.out; have := zz9.out; omega)
    go_wp2_with fail
    refine (markInt64S_resT _ _ _ (Vm.gL xs0 a1 a2).length _ 1 (by omega) (by omega) g9.out ((Nat.le_trans Vm.gL_len hl0)) GB.out).mono ?_
    rintro e v10 ⟨rfl, mo10, b10⟩
    clear g9
    have A10 := Lib.hid (A9.out.trans (b10.mono GA.out))
    have B10 := Lib.hid (bt B2.out A10.out)
    have s10 := Lib.hid (SA.out.belowAll A10.out)
    clear s9
    have mk10 := Lib.hid mo10
    clear mo10 b10
    go_wp2_with fail
    refine (heldInt64S_ownT _ _ _ (Vm.gL xs0 a1 a2).length 1 (by omega) (by omega) ((Nat.le_trans Vm.gL_len hl0)) mk10.out).mono ?_
    rintro e v11 ⟨rfl, b11⟩
    have zz11 := Lib.hid b11.size
    have B11 := Lib.hid (bt B10.out b11)
    have A11 := Lib.hid (bt A10.out b11)
    have s11 := Lib.hid (s10.out.belowAll b11)
    clear s10
    have mk11 := Lib.hid (OwnT.belowAll mk10.out b11)
    clear mk10
    clear b11
    go_wp2_with fail
    refine (toPartS_at _ _ xs0 (HV0.out.below B11.out) hl0).mono ?_
    rintro e v12 ⟨rfl, o12, b12⟩
    have zz12 := Lib.hid b12.size
    have B12 := Lib.hid (bt B11.out b12)
    have A12 := Lib.hid (bt A11.out b12)
    have s12 := Lib.hid (s11.out.belowAll b12)
    clear s11
    have mk12 := Lib.hid (OwnT.belowAll mk11.out b12)
    clear mk11
    have q0_12 := Lib.hid o12
    clear b12 o12
    go_wp2_with fail
    refine (implGrowthOf_any _ _ xs0 a1 a2 q0_12.out.sl hl0 (HT.out.below B12)).mono ?_
    rintro e v13 ⟨u13, rfl, o13, b13⟩
    clear q0_12
    have zz13 := Lib.hid b13.size
    have B13 := Lib.hid (bt B12.out b13)
    have A13 := Lib.hid (bt A12.out b13)
    have s13 := Lib.hid (s12.out.belowAll b13)
    clear s12
    have mk13 := Lib.hid (OwnT.belowAll mk12.out b13)
    clear mk12
    have h13 := Lib.hid o13
    clear b13 o13
    go_wp2_with fail
    refine (eqInt64S_any _ _ _ (Vm.gL xs0 a1 a2) (Vm.gL xs0 a1 a2) h13.out.sl s13.out.sl ((Nat.le_trans Vm.gL_len hl0)) ((Nat.le_trans Vm.gL_len hl0))).mono ?_
    rintro e v14 ⟨rfl, b14⟩
    have zz14 := Lib.hid b14.size
    have B14 := Lib.hid (bt B13.out b14)
    have A14 := Lib.hid (bt A13.out b14)
    have s14 := Lib.hid (s13.out.belowAll b14)
    clear s13
    have mk14 := Lib.hid (OwnT.belowAll mk13.out b14)
    clear mk13
    have h14 := Lib.hid (h13.out.belowAll b14)
    clear h13
    clear b14
    rw [show ((Vm.gL xs0 a1 a2) == (Vm.gL xs0 a1 a2)) = true from beq_self_eq_true _]
    go_wp2_with fail
    refine (heldInt64S_ownT _ _ _ (Vm.gL xs0 a1 a2).length 1 (by omega) (by omega) ((Nat.le_trans Vm.gL_len hl0)) mk14.out).mono ?_
    rintro e v15 ⟨rfl, b15⟩
    have zz15 := Lib.hid b15.size
    have B15 := Lib.hid (bt B14.out b15)
    have A15 := Lib.hid (bt A14.out b15)
    have s15 := Lib.hid (s14.out.belowAll b15)
    clear s14
    have mk15 := Lib.hid (OwnT.belowAll mk14.out b15)
    clear mk14
    have h15 := Lib.hid (h14.out.belowAll b15)
    clear h14
    clear b15
    go_wp2_with fail
    go_ret
    exact ⟨rfl, B15.out⟩
  · have hn0 : (1048576 : Int) < xs0.length := by omega
    have Z0 := Lib.hid (szPartS_out w a0 xs0.length cap0 (1048576 : Int) (by omega) hn0 (by omega))
    go_enter Tryd.func4, Tryd.ntmps4
    go_wp2_with fail
    refine Z0.out.mono ?_
    rintro e _ ⟨rfl, rfl⟩
    go_wp2_with fail
    go_ret
    exact ⟨rfl, Below.refl _ _⟩
end Go.Proofs.YtobcflcmlejajaaDoor.fnExactGrowthOf
