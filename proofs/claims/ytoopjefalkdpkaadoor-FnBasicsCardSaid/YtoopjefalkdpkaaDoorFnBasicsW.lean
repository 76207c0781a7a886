/-
  The walk of the law FnBasics and what it stands on: For every two slices of bytes (nil, shared and with spare room too) the law Basics returns true and leaves both as they were, where the listed variables of the library hold what its text lays (tied by the card). No other condition (beyond 2^20 bytes the law itself returns true).
-/
import Derived.Test.YtoopjefalkdpkaaDoorRows
import Derived.Test.YtoopjefalkdpkaaDoorBasW
import Derived.WalkKit
import Derived.WalkSpells
import Derived.WalkLawsBesides
import Derived.Outline
import Derived.IntWalk
import Derived.Lib.Hide
import Derived.ProofKit
import Derived.OpenShut
import Derived.ShutString
import Derived.ChangeOld
import Derived.ChangeVars
import Derived.Below
import Derived.WalkSmall
import Derived.Lib.LaidTab
import Derived.LaidMore
import Derived.LaidSub
namespace Go.Proofs.YtoopjefalkdpkaaDoor.fnBasics
open Go.ChangeShapes Go.WideShapes Go.ChangeAt Go.RowKit
open Go.ChangeMaps (open_string shut_string)
set_option linter.unusedVariables false
def IsRow (k : IntKind) (w : World) (a : Option Addr) (len cap : Nat) (zs : List Int) : Prop :=
  (a = none ∧ len = 0 ∧ cap = 0 ∧ zs = []) ∨
  ∃ x, a = some x ∧ len ≤ cap ∧ cap ≤ maxLen ∧ zs.length = cap ∧ (∀ i, i < zs.length → w.cell? (x.add i) = some (.int k (zs.getD i 0))) ∧ ∀ n ∈ zs, (Lit.int k n).wf = true
set_option maxRecDepth 100000
set_option maxHeartbeats 6400000
theorem walk (a0 : Option Addr) (len0 cap0 : Nat) (z0 : List Int) (a1 : Option Addr) (len1 cap1 : Nat) (z1 : List Int) (w : World) (w0 : IsRow .u8 w a0 len0 cap0 z0) (w1 : IsRow .u8 w a1 len1 cap1 z1) (hL : laidMetH Tryd.prog Rows.fnBasicsRow.laid w) (hsh : w.ShapedOpen Tryd.prog) :
    Calls Tryd.prog 8 #[.slice a0 len0 cap0, .slice a1 len1 cap1] w fun e w' => e = .returned (.bool true) ∧ Below w.heap.size w w' := by
  by_cases hb0 : len0 ≤ 1048576 ∧ len1 ≤ 1048576
  · obtain ⟨hb1, hb2⟩ := hb0
    have HP := Lib.hid (pow_of hL (by kernel_rfl))
    have HE := Lib.hid (errs_of hL (by kernel_rfl) (by kernel_rfl))
    have HM := Lib.hid (maxL_of hsh)
    have V0 := Lib.hid (Bs.of_row w0)
    have V1 := Lib.hid (Bs.of_row w1)
    clear hL hsh w0 w1
    go_enter Tryd.func8, Tryd.ntmps8
    go_wp2_with fail
    refine (r8Long_no w _ _ len0 len1 _ _ hb1 hb2).mono ?_
    rintro e w' ⟨rfl, rfl⟩
    go_wp2_with fail
    refine (r8Numbers_any w _ len0 V0.out hb1).mono ?_
    rintro e w1 ⟨a, b, rfl, a0, a1, b0, b1, B1⟩
    have HB1 := Lib.hid B1
    clear B1 V0
    go_wp2_with fail
    refine (implRootOf_any a w1 (by omega) (by omega)).mono ?_
    rintro e w' ⟨rfl, rfl⟩
    have hr : (a < 0 ∧ rt a = 0) ∨ (0 ≤ a ∧ 0 ≤ rt a ∧ rt a ≤ 60000 ∧ rt a * rt a ≤ a ∧ a < (rt a + 1) * (rt a + 1)) := by
      by_cases h : a < 0
      · exact Or.inl ⟨h, rt_neg h⟩
      · exact Or.inr ⟨by omega, rt_props (by omega) (by omega)⟩
    have q0 := dr_near (a := a) (b := b) (by omega)
    have q1 := Ar.dr_bd (a := a) (b := b) (m := 4000000000) (by omega) (by omega) (by omega)
    have hd1 : Ar.dR a b = Ar.dr a b := by unfold Ar.dR; rw [if_neg (by omega)]
    have hd2 : Ar.dR (-a) b = -Ar.dr a b := by unfold Ar.dR; rw [if_neg (by omega), dr_odd (by omega)]
    have D1 : Hid (∀ W, Calls Tryd.prog 26 #[.int .i64 a, .int .i64 b] W fun e w' => e = .returned (.int .i64 (Ar.dr a b)) ∧ W = w') := Lib.hid (fun W => by rw [← hd1]; exact implDivRound_any a b W)
    have D2 : Hid (∀ W, Calls Tryd.prog 26 #[.int .i64 (-a), .int .i64 b] W fun e w' => e = .returned (.int .i64 (-Ar.dr a b)) ∧ W = w') := Lib.hid (fun W => by rw [← hd2]; exact implDivRound_any (-a) b W)
    have LT : Hid (∀ x y z : Int, -1000000 ≤ x → x ≤ 1000000 → -1000000 ≤ y → y ≤ 1000000 → -1000000 ≤ z → z ≤ 1000000 → fitB [a, b, x, y, z] = true) := Lib.hid (by
      intro x y z x1 x2 y1 y2 z1 z2
      have e1 : okV a = true := Ar.inB_t (by omega) (by omega)
      have e2 : okV b = true := Ar.inB_t (by omega) (by omega)
      have e3 : okV x = true := Ar.inB_t (by omega) (by omega)
      have e4 : okV y = true := Ar.inB_t (by omega) (by omega)
      have e5 : okV z = true := Ar.inB_t (by omega) (by omega)
      unfold fitB
      simp [e1, e2, e3, e4, e5])
    clear hd1 hd2
    generalize rt a = r at *
    generalize Ar.dr a b = q at *
    have qb : -5000000000 ≤ q * b ∧ q * b ≤ 5000000000 := by omega
    have ab0 := Ar.ab_nonneg (a - q * b)
    have ab1 : 2 * Ar.ab (a - q * b) ≤ b := by unfold Ar.ab; split <;> omega
    have ab2 : ¬ b < 2 * Ar.ab (a - q * b) := by omega
    have hx1 : (-q != -q) = false := by simp
    obtain ⟨qb1, qb2⟩ := qb
    obtain ⟨q00, q01⟩ := q0
    obtain ⟨q10, q11⟩ := q1
    rcases hr with ⟨h, rfl⟩ | ⟨h0, h1, h2, h3, h4⟩
    all_goals
      first
        | have p0 := Int.mul_nonneg h1 h1
          have p1 := Int.mul_le_mul (show r + 1 ≤ 60001 by omega) (show r + 1 ≤ 60001 by omega) (by omega) (by omega)
          have n1 : ¬ a < r * r := by omega
          have n2 : ¬ (r + 1) * (r + 1) ≤ a := by omega
        | have n0 : ¬ 0 ≤ a := by omega
      go_wp2_with fail
      refine (D1.out _).mono ?_
      rintro e w' ⟨rfl, rfl⟩
      go_wp2_with fail
      refine (r8Abs_any _ _ (by omega) (by omega)).mono ?_
      rintro e w' ⟨rfl, rfl⟩
      generalize Ar.ab (a - q * b) = t at *
      go_wp2_with fail
      refine (D2.out _).mono ?_
      rintro e w' ⟨rfl, rfl⟩
      clear D1 D2
      go_wp2_with fail
      clear q00 q01 q10 q11 qb1 qb2 ab0 ab1 ab2 hx1
      first | clear p0 p1 n1 n2 h0 h1 h2 h3 h4 | clear n0 h
      refine (r8Wide_any w.heap.size w1 _ len1 0 1000 (V1.out.below HB1.out) (by omega) (by omega) (by omega) (by omega) hb2).mono ?_
      rintro e w2 ⟨x, rfl, x0, x1, b2⟩
      have HB2 := Lib.hid (HB1.out.trans b2)
      clear b2
      go_wp2_with fail
      refine (r8Wide_any w.heap.size w2 _ len1 2 5000 (V1.out.below HB2.out) (by omega) (by omega) (by omega) (by omega) hb2).mono ?_
      rintro e w3 ⟨y, rfl, y0, y1, b3⟩
      have HB3 := Lib.hid (HB2.out.trans b3)
      clear b3
      go_wp2_with fail
      refine (r8Wide_any w.heap.size w3 _ len1 4 5000 (V1.out.below HB3.out) (by omega) (by omega) (by omega) (by omega) hb2).mono ?_
      rintro e w4 ⟨z, rfl, z0, z1, b4⟩
      have HB4 := Lib.hid (HB3.out.trans b4)
      clear b4
      go_wp2_with fail
      have Y0 : -2500 ≤ y - 2500 := by omega
      have Y1 : y - 2500 ≤ 2499 := by omega
      have Z0 : -2500 ≤ z - 2500 := by omega
      have Z1 : z - 2500 ≤ 2499 := by omega
      generalize y - 2500 = Y at *
      generalize z - 2500 = Z at *
      clear y0 y1 z0 z1
      obtain ⟨v0, v1, -, -⟩ := bl_law (x := x) Y0 Y1 Z0 Z1 x0 (by omega)
      have E0 : Hid (∀ W, Calls Tryd.prog 29 #[.int .i64 0, .int .i64 Y, .int .i64 1000, .int .i64 Z, .int .i64 0] W fun e w' => e = .returned (.int .i64 Y) ∧ W = w') := Lib.hid (fun W => by
        have := implBlend_any 0 Y 1000 Z 0 W
        rwa [(bl_law (x := 0) Y0 Y1 Z0 Z1 (by omega) (by omega)).2.2.1 rfl] at this)
      have E1 : Hid (∀ W, Calls Tryd.prog 29 #[.int .i64 0, .int .i64 Y, .int .i64 1000, .int .i64 Z, .int .i64 1000] W fun e w' => e = .returned (.int .i64 Z) ∧ W = w') := Lib.hid (fun W => by
        have := implBlend_any 0 Y 1000 Z 1000 W
        rwa [(bl_law (x := 1000) Y0 Y1 Z0 Z1 (by omega) (by omega)).2.2.2 rfl] at this)
      have LF := Lib.hid (LT.out x Y Z (by omega) (by omega) (by omega) (by omega) (by omega) (by omega))
      clear LT
      refine (implBlend_any 0 Y 1000 Z x w4).mono ?_
      rintro e w' ⟨rfl, rfl⟩
      generalize Ar.bl 0 Y 1000 Z x = v at *
      have hyy : (Y != Y) = false := by simp
      have hzz : (Z != Z) = false := by simp
      go_wp2_with fail
      refine (E0.out _).mono ?_
      rintro e w' ⟨rfl, rfl⟩
      go_wp2_with fail
      refine (E1.out _).mono ?_
      rintro e w' ⟨rfl, rfl⟩
      have A5 := five_sl w4 a b x Y Z
      have BA : Hid (∀ o, Below w.heap.size w (w4.alloc o)) := Lib.hid (fun o => HB4.out.alloc HB4.out.size o)
      go_wp2_with fail
      clear E0 E1 v0 v1 hyy hzz x0 x1 Y0 Y1 Z0 Z1 HB1 HB2 HB3 V1
      have C1 := implListText_any _ _ [a, b, x, Y, Z] (A5.out 2) (by simp) (HP.out.below (BA.out _))
      refine C1.mono ?_
      clear C1
      rintro e w5 ⟨rfl, b5⟩
      have HB5 : Hid (Below w.heap.size w w5) := Lib.hid ((BA.out _).trans (b5.mono (BA.out _).size))
      have HL5 : Hid (Sl w5 (.slice (some ⟨w4.heap.size, 0, none⟩) 5 5) [a, b, x, Y, Z]) := Lib.hid ((A5.out _).below b5)
      have hls := ltext_size LF.out
      have hrl := Lib.hid (rl_text LF.out)
      clear b5 A5 BA
      generalize ltext [a, b, x, Y, Z] = tx at *
      go_wp2_with fail
      have C2 := implReadList_any ⟨tx.toArray⟩ w5 (by rw [sz_mk]; omega) (HP.out.below HB5.out) (HE.out.below HB5.out) (HM.out.below HB5.out)
      refine C2.mono ?_
      clear C2
      rintro e w6 ⟨u, rfl, hu, b6⟩
      have hd : (⟨tx.toArray⟩ : ByteArray).data.toList = tx := by simp
      rw [hd, hrl.out] at hu ⊢
      have HU : Hid (Sl w6 u [a, b, x, Y, Z]) := Lib.hid hu.sl
      have HB6 : Hid (Below w.heap.size w w6) := Lib.hid (HB5.out.trans (b6.mono HB5.out.size))
      have HL6 := Lib.hid (HL5.out.below b6)
      clear hd hu b6 HL5 hls hrl
      go_wp2_with fail
      have C3 := implDecimal_any a w6 (by omega) (by omega) (HP.out.below HB6.out)
      refine C3.mono ?_
      clear C3
      rintro e w7 ⟨rfl, b7⟩
      have HB7 : Hid (Below w.heap.size w w7) := Lib.hid (HB6.out.trans (b7.mono HB6.out.size))
      have HU7 := Lib.hid (HU.out.below b7)
      have HL7 := Lib.hid (HL6.out.below b7)
      have hrd := Lib.hid (rd_itoa (x := a) (by omega) (by omega))
      have hil := itoa_len (x := a) (by omega) (by omega)
      clear b7 HU HL6
      generalize Lib.itoa a = ta at *
      go_wp2_with fail
      have C4 := implReadDecimal_any ⟨ta.toArray⟩ w7 (by rw [sz_mk]; omega) (HP.out.below HB7.out) (HE.out.below HB7.out)
      refine C4.mono ?_
      clear C4
      have hd : (⟨ta.toArray⟩ : ByteArray).data.toList = ta := by simp
      rw [hd, hrd.out]
      rintro e w8 ⟨rfl, b8⟩
      have HB8 : Hid (Below w.heap.size w w8) := Lib.hid (HB7.out.trans (b8.mono HB7.out.size))
      have HU8 := Lib.hid (HU7.out.below b8)
      have HL8 := Lib.hid (HL7.out.below b8)
      have hself : Hid (([a, b, x, Y, Z] == [a, b, x, Y, Z]) = true) := Lib.hid (beq_self_eq_true _)
      have hlz : [a, b, x, Y, Z].length ≤ 1048576 := by simp
      have haa : (a == a) = true := beq_self_eq_true _
      clear b8 hd hil hrd HU7 HL7
      generalize [a, b, x, Y, Z] = zs at *
      go_wp2_with fail
      have C5 := r8Same_any w8 u (.slice (some ⟨w4.heap.size, 0, none⟩) 5 5) zs zs HU8.out HL8.out hlz hlz
      refine C5.mono ?_
      clear C5
      rw [hself.out]
      rintro e w9 ⟨rfl, b9⟩
      have HB9 : Hid (Below w.heap.size w w9) := Lib.hid (HB8.out.trans (b9.mono HB8.out.size))
      clear b9
      go_wp2_with fail
      go_ret
      exact ⟨rfl, HB9.out⟩
  · have hb1 : 1048576 < len0 ∨ 1048576 < len1 := by omega
    clear hL hsh w0 w1
    go_enter Tryd.func8, Tryd.ntmps8
    go_wp2_with fail
    refine (r8Long_yes w _ _ len0 len1 _ _ hb1).mono ?_
    rintro e w' ⟨rfl, rfl⟩
    go_wp2_with fail
    go_ret
    exact ⟨rfl, Below.refl _ _⟩
end Go.Proofs.YtoopjefalkdpkaaDoor.fnBasics
