/-
  The walk of the law FnExactRunHours and what it stands on: For every slice of layers and every slice of int64 (nil, shared and with spare room too) the program's RunHours answers as its model, leaves its arguments as they were, and its answer owns its memory: the law returns true and writes nothing that was there, where impl.formRules holds what the program's text lays (tied by the card). No other condition (beyond 2^20 values the law itself returns true).
-/
import Derived.Test.YtbdhdlgenfpjgaaDoorRows
import Derived.Test.YtbdhdlgenfpjgaaDoorHrM
import Derived.Test.YtbdhdlgenfpjgaaDoorLayM
import Derived.Test.YtbdhdlgenfpjgaaDoorIntsM
import Derived.Test.YtbdhdlgenfpjgaaDoorOpen
import Derived.WalkKit
import Derived.WalkSpells
import Derived.WalkLawsBesides
import Derived.Outline
import Derived.IntWalk
import Derived.Lib.Hide
import Derived.ProofKit
import Derived.OpenShut
import Derived.ShutString
import Derived.ChangeOld
import Derived.ChangeVars
import Derived.Below
import Derived.WalkSmall
import Derived.Lib.LaidTab
import Derived.LaidMore
import Derived.LaidSub
namespace Go.Proofs.YtbdhdlgenfpjgaaDoor.fnExactRunHours
open Go.ChangeShapes Go.WideShapes Go.ChangeAt Go.RowKit
open Go.ChangeMaps (open_string shut_string)
set_option linter.unusedVariables false
def IsRow (k : IntKind) (w : World) (a : Option Addr) (len cap : Nat) (zs : List Int) : Prop :=
  (a = none ∧ len = 0 ∧ cap = 0 ∧ zs = []) ∨
  ∃ x, a = some x ∧ len ≤ cap ∧ cap ≤ maxLen ∧ zs.length = cap ∧ (∀ i, i < zs.length → w.cell? (x.add i) = some (.int k (zs.getD i 0))) ∧ ∀ n ∈ zs, (Lit.int k n).wf = true
set_option maxRecDepth 100000
set_option maxHeartbeats 3200000
theorem walk (a0 : Option Addr) (cap0 : Nat) (xs0 : List Lay) (a1 : Option Addr) (len1 cap1 : Nat) (z1 : List Int) (w : World) (w0 : LSl w (.slice a0 xs0.length cap0) xs0) (m0 : xs0.length ≤ maxLen) (w1 : IsRow .i64 w a1 len1 cap1 z1) (hL : laidMetH Tryd.prog Rows.fnExactRunHoursRow.laid w) (hsh : w.ShapedOpen Tryd.prog) :
    Calls Tryd.prog 3 #[.slice a0 xs0.length cap0, .slice a1 len1 cap1] w fun e w' => e = .returned (.bool true) ∧ Below w.heap.size w w' := by
  have HR := Lib.hid (rules_of hL (by kernel_rfl))
  clear hL hsh
  have wfs := row_wf w1
  unfold maxLen at m0
  obtain ⟨s1, hz1⟩ := Sl.of_row w1
  have hlm1 : len1 ≤ 9223372036854775807 := by rcases w1 with ⟨_, h, _⟩ | ⟨_, _, h1, h2, _⟩ <;> unfold maxLen at * <;> omega
  clear w1
  generalize z1.take len1 = zs1 at *
  subst hz1
  by_cases hb1 : zs1.length ≤ 1048576
  · have hsn1 : ¬ (1048576 : Int) < zs1.length := by omega
    have hl1 : zs1.length ≤ 1048576 := by omega
    by_cases hb0 : xs0.length ≤ 1048576
    · have hn0 : ¬ (1048576 : Int) - xs0.length < 0 := by omega
      have hl0 : xs0.length ≤ 1048576 := by omega
      have Z0 := Lib.hid (szLayerS_in w a0 xs0.length cap0 (1048576 : Int) (by omega) (by omega))
      have HV0 := Lib.hid w0
      have HV1 := Lib.hid s1
      clear w0 s1
      go_enter Tryd.func3, Tryd.ntmps3
      go_wp2_with fail
      refine Z0.out.mono ?_
      rintro e _ ⟨rfl, rfl⟩
      go_wp2_with fail
      refine (toLayerS_at _ _ xs0 HV0.out hl0).mono ?_
      rintro e v1 ⟨rfl, o1, b1⟩
      have zz1 := Lib.hid b1.size
      have B1 := Lib.hid b1
      have p0_1 := Lib.hid o1
      clear b1 o1
      go_wp2_with fail
      refine (toInt64S_at _ _ zs1 (HV1.out.below B1.out) hl1).mono ?_
      rintro e v2 ⟨rfl, o2, b2⟩
      have zz2 := Lib.hid b2.size
      have B2 := Lib.hid (bt B1.out b2)
      have p0_2 := Lib.hid (p0_1.out.belowAll b2)
      clear p0_1
      have p1_2 := Lib.hid o2
      clear b2 o2
      go_wp2_with fail
      refine (specRunHours_any _ _ xs0 _ zs1 ⟨_, _, _, rfl, p0_2.out⟩ hl0 p1_2.out.sl hl1 wfs).mono ?_
      rintro e v3 ⟨u3, rfl, o3, b3⟩
      clear p0_2
      clear p1_2
      have zz3 := Lib.hid b3.size
      have B3 := Lib.hid (bt B2.out b3)
      have s3 := Lib.hid o3
      clear b3 o3
      have SA := s3
      go_wp2_with fail
      refine (toLayerS_at _ _ xs0 (HV0.out.below B3.out) hl0).mono ?_
      rintro e v4 ⟨rfl, o4, b4⟩
      have zz4 := Lib.hid b4.size
      have B4 := Lib.hid (bt B3.out b4)
      have A4 := Lib.hid b4
      have s4 := Lib.hid (s3.out.belowAll b4)
      clear s3
      have x0_4 := Lib.hid o4
      have XL0 := Lib.hid (World.ownsRow.lt o4 _ rfl).2
      clear b4 o4
      go_wp2_with fail
      refine (toInt64S_at _ _ zs1 (HV1.out.below B4.out) hl1).mono ?_
      rintro e v5 ⟨rfl, o5, b5⟩
      have zz5 := Lib.hid b5.size
      have B5 := Lib.hid (bt B4.out b5)
      have A5 := Lib.hid (bt A4.out b5)
      have s5 := Lib.hid (s4.out.belowAll b5)
      clear s4
      have x0_5 := Lib.hid (x0_4.out.belowAll b5)
      clear x0_4
      have x1_5 := Lib.hid o5
      have XL1 := Lib.hid (World.ownsRow.lt o5 _ rfl).2
      clear b5 o5
      go_wp2_with fail
      refine (implRunHours_any _ _ xs0 _ zs1 ⟨_, _, _, rfl, x0_5.out⟩ hl0 x1_5.out.sl hl1 wfs (HR.out.below B5.out)).mono ?_
      rintro e v6 ⟨u6, rfl, o6, b6⟩
      have zz6 := Lib.hid b6.size
      have B6 := Lib.hid (bt B5.out b6)
      have A6 := Lib.hid (bt A5.out b6)
      have s6 := Lib.hid (s5.out.belowAll b6)
      clear s5
      have x0_6 := Lib.hid (x0_5.out.belowAll b6)
      clear x0_5
      have x1_6 := Lib.hid (x1_5.out.belowAll b6)
      clear x1_5
      have g6 := Lib.hid o6
      clear b6 o6
      have XB0 : Hid (v3.heap.size ≤ v3.heap.size) := Lib.hid (by exact Nat.le_refl _)
      have XG0 : Hid (v3.heap.size < v5.heap.size) := Lib.hid (by have := XL0.out; have := zz5.out; omega)
      have XX0_1 : Hid (v3.heap.size < v4.heap.size) := Lib.hid (by have := XL0.out; skip; omega)
      have XB1 : Hid (v3.heap.size ≤ v4.heap.size) := Lib.hid (by have := zz4.out; omega)
      have XG1 : Hid (v4.heap.size < v5.heap.size) := Lib.hid (by have := XL1.out; omega)
      have GA : Hid (v3.heap.size ≤ v5.heap.size) := Lib.hid (by have := zz4.out; have := zz5.out; omega)
      go_wp2_with fail
      refine (eqLayerS_any _ _ _ (La.rhL xs0 zs1) (La.rhL xs0 zs1) g6.out.sl s6.out.sl (La.rhL_len xs0 zs1) (La.rhL_len xs0 zs1)).mono ?_
      rintro e v7 ⟨rfl, b7⟩
      have zz7 := Lib.hid b7.size
      have B7 := Lib.hid (bt B6.out b7)
      have A7 := Lib.hid (bt A6.out b7)
      have s7 := Lib.hid (s6.out.belowAll b7)
      clear s6
      have x0_7 := Lib.hid (x0_6.out.belowAll b7)
      clear x0_6
      have x1_7 := Lib.hid (x1_6.out.belowAll b7)
      clear x1_6
      have g7 := Lib.hid (g6.out.belowAll b7)
      clear g6
      clear b7
      rw [La.eqP_self]
      go_wp2_with fail
      refine (toLayerS_at _ _ xs0 (HV0.out.below B7.out) hl0).mono ?_
      rintro e v8 ⟨rfl, o8, b8⟩
      have zz8 := Lib.hid b8.size
      have B8 := Lib.hid (bt B7.out b8)
      have A8 := Lib.hid (bt A7.out b8)
      have s8 := Lib.hid (s7.out.belowAll b8)
      clear s7
      have x0_8 := Lib.hid (x0_7.out.belowAll b8)
      clear x0_7
      have x1_8 := Lib.hid (x1_7.out.belowAll b8)
      clear x1_7
      have g8 := Lib.hid (g7.out.belowAll b8)
      clear g7
      have y8 := Lib.hid o8
      clear b8 o8
      go_wp2_with fail
      refine (eqLayerS_any _ _ _ xs0 xs0 x0_8.out.sl y8.out.sl hl0 hl0).mono ?_
      rintro e v9 ⟨rfl, b9⟩
      clear y8
      have zz9 := Lib.hid b9.size
      have B9 := Lib.hid (bt B8.out b9)
      have A9 := Lib.hid (bt A8.out b9)
      have s9 := Lib.hid (s8.out.belowAll b9)
      clear s8
      have x0_9 := Lib.hid (x0_8.out.belowAll b9)
      clear x0_8
      have x1_9 := Lib.hid (x1_8.out.belowAll b9)
      clear x1_8
      have g9 := Lib.hid (g8.out.belowAll b9)
      clear g8
      clear b9
      rw [La.eqP_self]
      go_wp2_with fail
      refine (toInt64S_at _ _ zs1 (HV1.out.below B9.out) hl1).mono ?_
      rintro e v10 ⟨rfl, o10, b10⟩
      have zz10 := Lib.hid b10.size
      have B10 := Lib.hid (bt B9.out b10)
      have A10 := Lib.hid (bt A9.out b10)
      have s10 := Lib.hid (s9.out.belowAll b10)
      clear s9
      have x0_10 := Lib.hid (x0_9.out.belowAll b10)
      clear x0_9
      have x1_10 := Lib.hid (x1_9.out.belowAll b10)
      clear x1_9
      have g10 := Lib.hid (g9.out.belowAll b10)
      clear g9
      have y10 := Lib.hid o10
      clear b10 o10
      go_wp2_with fail
      refine (eqInt64S_any _ _ _ zs1 zs1 x1_10.out.sl y10.out.sl hl1 hl1).mono ?_
      rintro e v11 ⟨rfl, b11⟩
      clear y10
      have zz11 := Lib.hid b11.size
      have B11 := Lib.hid (bt B10.out b11)
      have A11 := Lib.hid (bt A10.out b11)
      have s11 := Lib.hid (s10.out.belowAll b11)
      clear s10
      have x0_11 := Lib.hid (x0_10.out.belowAll b11)
      clear x0_10
      have x1_11 := Lib.hid (x1_10.out.belowAll b11)
      clear x1_10
      have g11 := Lib.hid (g10.out.belowAll b11)
      clear g10
      clear b11
      rw [show (zs1 == zs1) = true from beq_self_eq_true _]
      go_wp2_with fail
      refine (markLayerS_own _ _ _ _ _ _ _ (by omega) (by omega) x0_11.out hl0).mono ?_
      rintro e v12 ⟨rfl, -, hg⟩
      clear x0_11
      have b12 := only_below (B := v3.heap.size) hg XB0.out A11.out.size
      have zz12 := Lib.hid hg.size
      have A12 := Lib.hid (A11.out.trans b12)
      have B12 := Lib.hid (bt B3.out A12.out)
      have s12 := Lib.hid (SA.out.belowAll A12.out)
      clear s11
      have g12 := Lib.hid (g11.out.far hg XG0.out)
      clear g11
      have x1_12 := Lib.hid (x1_11.out.far hg XX0_1.out)
      clear x1_11
      clear hg b12
      go_wp2_with fail
      refine (markInt64S_own _ _ _ _ _ _ _ (by omega) (by omega) x1_12.out hl1).mono ?_
      rintro e v13 ⟨rfl, -, hg⟩
      clear x1_12
      have b13 := only_below (B := v3.heap.size) hg XB1.out A12.out.size
      have zz13 := Lib.hid hg.size
      have A13 := Lib.hid (A12.out.trans b13)
      have B13 := Lib.hid (bt B3.out A13.out)
      have s13 := Lib.hid (SA.out.belowAll A13.out)
      clear s12
      have g13 := Lib.hid (g12.out.far hg XG1.out)
      clear g12
      clear hg b13
      go_wp2_with fail
      refine (eqLayerS_any _ _ _ (La.rhL xs0 zs1) (La.rhL xs0 zs1) g13.out.sl s13.out.sl (La.rhL_len xs0 zs1) (La.rhL_len xs0 zs1)).mono ?_
      rintro e v14 ⟨rfl, b14⟩
      have zz14 := Lib.hid b14.size
      have B14 := Lib.hid (bt B13.out b14)
      have A14 := Lib.hid (bt A13.out b14)
      have s14 := Lib.hid (s13.out.belowAll b14)
      clear s13
      have g14 := Lib.hid (g13.out.belowAll b14)
      clear g13
      clear b14
      rw [La.eqP_self]
      have GB : Hid (v5.heap.size ≤ v14.heap.size) := Lib.hid (by have := zz6.out; have := zz7.out; have := zz8.out; have := zz9.out; have := zz10.out; have := zz11.out; have := zz12.out; have := zz13.out; have := zz14.out; omega)
      go_wp2_with fail
      refine (markLayerS_res _ _ _ (La.rhL xs0 zs1).length _ 1 (by omega) (by omega) g14.out (La.rhL_len xs0 zs1) GB.out).mono ?_
      rintro e v15 ⟨rfl, mo15, b15⟩
      clear g14
      have A15 := Lib.hid (A14.out.trans (b15.mono GA.out))
      have B15 := Lib.hid (bt B3.out A15.out)
      have s15 := Lib.hid (SA.out.belowAll A15.out)
      clear s14
      have mk15 := Lib.hid mo15
      clear mo15 b15
      go_wp2_with fail
      refine (heldLayerS_own _ _ _ (La.rhL xs0 zs1).length 1 (by omega) (by omega) (La.rhL_len xs0 zs1) mk15.out).mono ?_
      rintro e v16 ⟨rfl, b16⟩
      have zz16 := Lib.hid b16.size
      have B16 := Lib.hid (bt B15.out b16)
      have A16 := Lib.hid (bt A15.out b16)
      have s16 := Lib.hid (s15.out.belowAll b16)
      clear s15
      have mk16 := Lib.hid (own_belowAll mk15.out b16)
      clear mk15
      clear b16
      go_wp2_with fail
      refine (toLayerS_at _ _ xs0 (HV0.out.below B16.out) hl0).mono ?_
      rintro e v17 ⟨rfl, o17, b17⟩
      have zz17 := Lib.hid b17.size
      have B17 := Lib.hid (bt B16.out b17)
      have A17 := Lib.hid (bt A16.out b17)
      have s17 := Lib.hid (s16.out.belowAll b17)
      clear s16
      have mk17 := Lib.hid (own_belowAll mk16.out b17)
      clear mk16
      have q0_17 := Lib.hid o17
      clear b17 o17
      go_wp2_with fail
      refine (toInt64S_at _ _ zs1 (HV1.out.below B17.out) hl1).mono ?_
      rintro e v18 ⟨rfl, o18, b18⟩
      have zz18 := Lib.hid b18.size
      have B18 := Lib.hid (bt B17.out b18)
      have A18 := Lib.hid (bt A17.out b18)
      have s18 := Lib.hid (s17.out.belowAll b18)
      clear s17
      have mk18 := Lib.hid (own_belowAll mk17.out b18)
      clear mk17
      have q0_18 := Lib.hid (q0_17.out.belowAll b18)
      clear q0_17
      have q1_18 := Lib.hid o18
      clear b18 o18
      go_wp2_with fail
      refine (implRunHours_any _ _ xs0 _ zs1 ⟨_, _, _, rfl, q0_18.out⟩ hl0 q1_18.out.sl hl1 wfs (HR.out.below B18.out)).mono ?_
      rintro e v19 ⟨u19, rfl, o19, b19⟩
      clear q0_18
      clear q1_18
      have zz19 := Lib.hid b19.size
      have B19 := Lib.hid (bt B18.out b19)
      have A19 := Lib.hid (bt A18.out b19)
      have s19 := Lib.hid (s18.out.belowAll b19)
      clear s18
      have mk19 := Lib.hid (own_belowAll mk18.out b19)
      clear mk18
      have h19 := Lib.hid o19
      clear b19 o19
      go_wp2_with fail
      refine (eqLayerS_any _ _ _ (La.rhL xs0 zs1) (La.rhL xs0 zs1) h19.out.sl s19.out.sl (La.rhL_len xs0 zs1) (La.rhL_len xs0 zs1)).mono ?_
      rintro e v20 ⟨rfl, b20⟩
      have zz20 := Lib.hid b20.size
      have B20 := Lib.hid (bt B19.out b20)
      have A20 := Lib.hid (bt A19.out b20)
      have s20 := Lib.hid (s19.out.belowAll b20)
      clear s19
      have mk20 := Lib.hid (own_belowAll mk19.out b20)
      clear mk19
      have h20 := Lib.hid (h19.out.belowAll b20)
      clear h19
      clear b20
      rw [La.eqP_self]
      go_wp2_with fail
      refine (heldLayerS_own _ _ _ (La.rhL xs0 zs1).length 1 (by omega) (by omega) (La.rhL_len xs0 zs1) mk20.out).mono ?_
      rintro e v21 ⟨rfl, b21⟩
      have zz21 := Lib.hid b21.size
      have B21 := Lib.hid (bt B20.out b21)
      have A21 := Lib.hid (bt A20.out b21)
      have s21 := Lib.hid (s20.out.belowAll b21)
      clear s20
      have mk21 := Lib.hid (own_belowAll mk20.out b21)
      clear mk20
      have h21 := Lib.hid (h20.out.belowAll b21)
      clear h20
      clear b21
      go_wp2_with fail
      go_ret
      exact ⟨rfl, B21.out⟩
    · have hn0 : (1048576 : Int) < xs0.length := by omega
      have Z0 := Lib.hid (szLayerS_out w a0 xs0.length cap0 (1048576 : Int) (by omega) hn0 (by omega))
      go_enter Tryd.func3, Tryd.ntmps3
      go_wp2_with fail
      refine Z0.out.mono ?_
      rintro e _ ⟨rfl, rfl⟩
      go_wp2_with fail
      go_ret
      exact ⟨rfl, Below.refl _ _⟩
  · have hsn : (1048576 : Int) < zs1.length := by omega
    go_enter Tryd.func3, Tryd.ntmps3
    go_wp2_with fail
    go_ret
    exact ⟨rfl, Below.refl _ _⟩
end Go.Proofs.YtbdhdlgenfpjgaaDoor.fnExactRunHours
