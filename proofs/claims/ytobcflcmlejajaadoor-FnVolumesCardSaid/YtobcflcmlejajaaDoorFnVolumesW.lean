/-
  The walk of the law FnVolumes and what it stands on: For every two slices of bytes (nil, shared and with spare room too) the law Volumes returns true and writes nothing that was there, where the table sizeLimits and the variable errTooGreat hold what their text lays (tied by the card). No other condition (beyond 2^20 bytes the law itself returns true).
-/
import Derived.Test.YtobcflcmlejajaaDoorRows
import Derived.Test.YtobcflcmlejajaaDoorVoW
import Derived.WalkKit
import Derived.WalkSpells
import Derived.WalkLawsBesides
import Derived.Outline
import Derived.IntWalk
import Derived.Lib.Hide
import Derived.ProofKit
import Derived.OpenShut
import Derived.ShutString
import Derived.ChangeOld
import Derived.ChangeVars
import Derived.Below
import Derived.WalkSmall
import Derived.Lib.LaidTab
import Derived.LaidMore
import Derived.LaidSub
namespace Go.Proofs.YtobcflcmlejajaaDoor.fnVolumes
open Go.ChangeShapes Go.WideShapes Go.ChangeAt Go.RowKit
open Go.ChangeMaps (open_string shut_string)
set_option linter.unusedVariables false
def IsRow (k : IntKind) (w : World) (a : Option Addr) (len cap : Nat) (zs : List Int) : Prop :=
  (a = none ∧ len = 0 ∧ cap = 0 ∧ zs = []) ∨
  ∃ x, a = some x ∧ len ≤ cap ∧ cap ≤ maxLen ∧ zs.length = cap ∧ (∀ i, i < zs.length → w.cell? (x.add i) = some (.int k (zs.getD i 0))) ∧ ∀ n ∈ zs, (Lit.int k n).wf = true
set_option maxRecDepth 100000
set_option maxHeartbeats 24000000
theorem walk (a0 : Option Addr) (len0 cap0 : Nat) (z0 : List Int) (a1 : Option Addr) (len1 cap1 : Nat) (z1 : List Int) (w : World) (w0 : IsRow .u8 w a0 len0 cap0 z0) (w1 : IsRow .u8 w a1 len1 cap1 z1) (hL : laidMetH Tryd.prog Rows.fnVolumesRow.laid w) (hsh : w.ShapedOpen Tryd.prog) :
    Calls Tryd.prog 8 #[.slice a0 len0 cap0, .slice a1 len1 cap1] w fun e w' => e = .returned (.bool true) ∧ Below w.heap.size w w' := by
  by_cases hb0 : len0 ≤ 1048576
  · by_cases hb1 : len1 ≤ 1048576
    · obtain ⟨aT, HT0⟩ := tg_of hL (by kernel_rfl)
      have HT := Lib.hid HT0
      have HL := Lib.hid (lm_of hL (by kernel_rfl))
      have V0 := Lib.hid (bsOfRowV w0)
      have V1 := Lib.hid (bsOfRowV w1)
      clear w0 w1 hL hsh HT0
      go_enter Tryd.func8, Tryd.ntmps8
      go_wp2_with fail
      refine (b10Vno w _ len0 _ hb0).mono ?_
      rintro e w' ⟨rfl, rfl⟩
      go_wp2_with fail
      refine (b10Vno w _ len1 _ hb1).mono ?_
      rintro e w' ⟨rfl, rfl⟩
      go_wp2_with fail
      refine (drawSlabTonnes_any w _ len0 V0.out hb0).mono ?_
      rintro e v1 ⟨q, d, n, rfl, ⟨q1, q2⟩, ⟨d1, d2⟩, ⟨n1, n2⟩, b1⟩
      have B1 := Lib.hid b1
      clear b1
      by_cases hc : Vm.stC q d n = 0
      focus
        obtain ⟨⟨q3, q4⟩, ⟨d3, d4⟩, n3, n4⟩ := Vm.st_ok hc
        have P1 := Lib.hid (fun W => implSlabTonnes_any q d n W)
        rw [(Vm.st_is q3 q4 d3 d4 n3 n4).1, (Vm.st_is q3 q4 d3 d4 n3 n4).2] at P1
        have P4 := Lib.hid (fun W => implSlabVolume_any q d W)
        obtain ⟨v0, vc⟩ := Vm.sl_is q3 q4 d3 d4
        rw [vc] at P4
        have SP := Lib.hid (fun p (h0 : 0 ≤ p) (h1 : p ≤ q) => Vm.slab_split (d := d) (n := n) q4 h0 h1 d3 d4 n3 n4)
        have PP := Lib.hid (fun p (h0 : 0 ≤ p) (h1 : p ≤ q) W => implSlabTonnes_any p d n W)
        have PI := Lib.hid (fun p (h0 : 0 ≤ p) (h1 : p ≤ q) => Vm.st_is h0 (show p ≤ 1000000 by omega) d3 d4 n3 n4)
        have PB := Lib.hid (fun p (h0 : 0 ≤ p) (h1 : p ≤ q) => Vm.slab_bd (d := d) (n := n) h0 (show p ≤ 1000000 by omega) d3 d4 (by omega) n4)
        have DD := Lib.hid (fun (h : 1 ≤ q) => Vm.dd_is h q4 d3 d4 n3 n4)
        have DN := Lib.hid (fun (h : 1 ≤ q) => Vm.depth_near h q4 d3 d4 n3 n4)
        have DI := Lib.hid (fun W => implDepositDepth_any (Vm.slab q d n) q n W)
        obtain ⟨m0, m1⟩ := PB.out q q3 (by omega)
        have Z1 := Lib.hid (fun W (h : Lm W) => implSizeClass_any (Vm.slab q d n) W h)
        have Z2 := Lib.hid (fun W (h : Lm W) => implSizeClass_any (Vm.slab q d n + 1) W h)
        rw [(Vm.sz_is m0 (by omega)).1, (Vm.sz_is m0 (by omega)).2] at Z1
        rw [(Vm.sz_is (t := Vm.slab q d n + 1) (by omega) (by omega)).1, (Vm.sz_is (t := Vm.slab q d n + 1) (by omega) (by omega)).2] at Z2
        obtain ⟨y1, y2⟩ := Vm.cls_step (Vm.slab q d n)
        obtain ⟨y3, y4⟩ := Vm.cls_bd (Vm.slab q d n)
        generalize Vm.slV q d = vo at *
        generalize hm : Vm.slab q d n = m at *
        replace hm := Lib.hid hm
        generalize Vm.cls (m + 1) = k2 at *
        generalize Vm.cls m = k1 at *
        clear hc vc
        have f1 : ¬ k2 < k1 := by omega
        have f2 : ¬ k1 + 1 < k2 := by omega
        have f3 : ¬ vo < 0 := by omega
        go_wp2_with fail
        refine (P1.out _).mono ?_
        rintro e w' ⟨rfl, rfl⟩
        go_wp2_with fail
        refine (b10At0_any _ _ _ len1 (q + 1) (V1.out.below B1.out) hb1 (by omega) (by omega)).mono ?_
        rintro e w' ⟨p, rfl, p0, p1, rfl⟩
        have P2 := Lib.hid (PP.out p p0 (by omega))
        have P3 := Lib.hid (PP.out (q - p) (by omega) (by omega))
        rw [(PI.out p p0 (by omega)).1, (PI.out p p0 (by omega)).2] at P2
        rw [(PI.out (q - p) (by omega) (by omega)).1, (PI.out (q - p) (by omega) (by omega)).2] at P3
        obtain ⟨a0', a1'⟩ := PB.out p p0 (by omega)
        obtain ⟨c0', c1'⟩ := PB.out (q - p) (by omega) (by omega)
        have sp := SP.out p p0 (by omega)
        generalize Vm.slab p d n = s1 at *
        generalize Vm.slab (q - p) d n = s2 at *
        have AB := Lib.hid (fun W => b10Abs_any (m - s1 - s2) W (by omega) (by omega))
        have ab := Vm.ab_le1 sp
        have ab' : ¬ 1 < Ar.ab (m - s1 - s2) := by omega
        clear SP PP PI PB sp ab P1
        generalize Ar.ab (m - s1 - s2) = y at *
        go_wp2_with fail
        refine (P2.out _).mono ?_
        rintro e w' ⟨rfl, rfl⟩
        go_wp2_with fail
        refine (P3.out _).mono ?_
        rintro e w' ⟨rfl, rfl⟩
        go_wp2_with fail
        refine (P4.out _).mono ?_
        rintro e w' ⟨rfl, rfl⟩
        go_wp2_with fail
        refine (AB.out _).mono ?_
        rintro e w' ⟨rfl, rfl⟩
        go_wp2_with fail
        refine (Z1.out _ (HL.out.below B1.out)).mono ?_
        rintro e v2 ⟨rfl, b2⟩
        have B2 := Lib.hid (bt B1.out b2)
        clear b2 B1
        go_wp2_with fail
        refine (Z2.out _ (HL.out.below B2.out)).mono ?_
        rintro e v3 ⟨rfl, b3⟩
        have B3 := Lib.hid (bt B2.out b3)
        clear b3 B2 P2 P3 P4 AB Z1 Z2
        by_cases hq : 0 < q
        focus
          have dd := DD.out (by omega)
          have dn := DN.out (by omega)
          have DI2 := Lib.hid DI.out
          rw [dd.1, dd.2] at DI2
          generalize Ar.dr (m * 100000) (q * n) = D at *
          obtain ⟨g1, g2⟩ := Vm.mul2p (show 1 ≤ q by omega) q4 n3 n4
          have u2 : -(1000050000 : Int) ≤ (D - d) * q * n ∧ (D - d) * q * n ≤ 1000050000 := by omega
          have u1 := Vm.mul_dn n3 u2
          have u0 := Vm.mul_dn (show 1 ≤ q by omega) u1
          have AB := Lib.hid (fun W => b10Abs_any ((D - d) * q * n) W (by omega) (by omega))
          have ab := Vm.ab_le dn
          have ab' : ¬ 50000 + q * n < Ar.ab ((D - d) * q * n) := by omega
          obtain ⟨u01, u02⟩ := u0
          obtain ⟨u11, u12⟩ := u1
          obtain ⟨u21, u22⟩ := u2
          clear DD DN DI dd dn ab
          generalize Ar.ab ((D - d) * q * n) = z at *
          go_wp2_with fail
          refine (DI2.out _).mono ?_
          rintro e w' ⟨rfl, rfl⟩
          go_wp2_with fail
          refine (AB.out _).mono ?_
          rintro e w' ⟨rfl, rfl⟩
          clear AB DI2
          go_wp2_with fail
        rotate_left 1
        clear DD DN DI
        go_wp2_with fail
      rotate_left 2
      have B3 := Lib.hid B1.out
      have hcb : (Vm.stC q d n == 0) = false := beq_eq_false_iff_ne.2 hc
      have P1 := Lib.hid (fun W => implSlabTonnes_any q d n W)
      generalize Vm.stC q d n = c at *
      generalize Vm.stV q d n = sv at *
      clear hc B1
      go_wp2_with fail
      refine (P1.out _).mono ?_
      rintro e w' ⟨rfl, rfl⟩
      clear P1
      go_wp2_with fail
      all_goals (
        refine (drawSplitTonnes_any _ _ len1 (bsMonoV (V1.out.below B3.out) B3.out.size) hb1).mono ?_
        rintro e v4 ⟨t, u, zs, rfl, sl, hzl, b4⟩
        have B4 := Lib.hid (bt B3.out b4)
        have SL := Lib.hid sl
        clear b4 B3 sl
        go_wp2_with fail
        refine (implSplitTonnes_any _ t u zs SL.out (by omega)).mono ?_
        rintro e v5 ⟨u5, rfl, o5, b5⟩
        have B5 := Lib.hid (bt B4.out b5)
        have O5 := Lib.hid o5
        have SL5 := Lib.hid (SL.out.below b5)
        clear o5 b5 B4
        by_cases h0 : Vm.spC t zs = 0
        · obtain ⟨j1, j2, j3, j4⟩ := Vm.jt_split h0
          obtain ⟨⟨t1, t2⟩, -⟩ := Vm.spC_0 h0
          have hl5 := Vm.spL_len t zs
          have J := Lib.hid (fun W (hb : Below v5.heap.size v5 W) => implJoinTonnes_any W u5 (Vm.spL t zs) (O5.out.sl.below hb) (by omega) ⟨HT.out.below (bt B5.out hb), HL.out.below (bt B5.out hb)⟩)
          have Z := Lib.hid (fun W (h : Lm W) => implSizeClass_any t W h)
          rw [(Vm.sz_is t1 t2).1, (Vm.sz_is t1 t2).2] at Z
          rw [j1, j2, j3] at J
          obtain ⟨a5, c5, hf5⟩ := O5.out.sl.form
          rw [j4] at hf5
          subst hf5
          obtain ⟨a6, c6, hf6⟩ := SL.out.form
          subst hf6
          rw [h0]
          generalize Vm.cls t = ct at *
          clear h0 j1 j2 j3 hl5 O5 SL SL5
          go_wp2_with fail
          refine (J.out _ (Below.refl _ _)).mono ?_
          rintro e v6 ⟨rfl, b6⟩
          have B6 := Lib.hid (bt B5.out b6)
          clear b6 B5
          go_wp2_with fail
          refine (Z.out _ (HL.out.below B6.out)).mono ?_
          rintro e v7 ⟨rfl, b7⟩
          have B7 := Lib.hid (bt B6.out b7)
          clear b7 B6
          go_wp2_with fail
          go_ret
          exact ⟨rfl, B7.out⟩
        · have hcz : (Vm.spC t zs != 0) = true := by rw [bne_iff_ne]; exact h0
          have hL0 := Vm.spC_no h0
          obtain ⟨a5, c5, hf5⟩ := O5.out.sl.form
          rw [hL0] at hf5
          subst hf5
          generalize Vm.spC t zs = sc at *
          clear h0 O5 SL SL5
          go_wp2_with fail
          go_ret
          exact ⟨rfl, B5.out⟩)
    · have hb1' : 1048576 < len1 := by omega
      go_enter Tryd.func8, Tryd.ntmps8
      go_wp2_with fail
      refine (b10Vno w _ len0 _ hb0).mono ?_
      rintro e w' ⟨rfl, rfl⟩
      go_wp2_with fail
      refine (b10Vyes w _ len1 _ hb1').mono ?_
      rintro e w' ⟨rfl, rfl⟩
      go_wp2_with fail
      go_ret
      exact ⟨rfl, Below.refl _ _⟩
  · have hb0' : 1048576 < len0 := by omega
    go_enter Tryd.func8, Tryd.ntmps8
    go_wp2_with fail
    refine (b10Vyes w _ len0 _ hb0').mono ?_
    rintro e w' ⟨rfl, rfl⟩
    go_wp2_with fail
    go_ret
    exact ⟨rfl, Below.refl _ _⟩
end Go.Proofs.YtobcflcmlejajaaDoor.fnVolumes
