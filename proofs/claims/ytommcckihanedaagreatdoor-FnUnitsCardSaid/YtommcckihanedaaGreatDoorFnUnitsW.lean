/-
  The walk of the law FnUnits and what it stands on: For every two slices of bytes (nil, shared and with spare room too) the law Units returns true and writes nothing that was there, where impl.beaufortSpeeds and the library's table of powers of ten and its two errors hold what their texts lay (tied by the card). No other condition (beyond 2^20 bytes the law itself returns true).
-/
import Derived.Test.YtommcckihanedaaGreatDoorRows
import Derived.Test.YtommcckihanedaaGreatDoorUnR
import Derived.WalkKit
import Derived.WalkSpells
import Derived.WalkLawsBesides
import Derived.Outline
import Derived.IntWalk
import Derived.Lib.Hide
import Derived.ProofKit
import Derived.OpenShut
import Derived.ShutString
import Derived.ChangeOld
import Derived.ChangeVars
import Derived.Below
import Derived.WalkSmall
import Derived.Lib.LaidTab
import Derived.LaidMore
import Derived.LaidSub
namespace Go.Proofs.YtommcckihanedaaGreatDoor.fnUnits
open Go.ChangeShapes Go.WideShapes Go.ChangeAt Go.RowKit
open Go.ChangeMaps (open_string shut_string)
set_option linter.unusedVariables false
def IsRow (k : IntKind) (w : World) (a : Option Addr) (len cap : Nat) (zs : List Int) : Prop :=
  (a = none ∧ len = 0 ∧ cap = 0 ∧ zs = []) ∨
  ∃ x, a = some x ∧ len ≤ cap ∧ cap ≤ maxLen ∧ zs.length = cap ∧ (∀ i, i < zs.length → w.cell? (x.add i) = some (.int k (zs.getD i 0))) ∧ ∀ n ∈ zs, (Lit.int k n).wf = true
set_option maxRecDepth 100000
set_option maxHeartbeats 12800000
theorem walk (a0 : Option Addr) (len0 cap0 : Nat) (z0 : List Int) (a1 : Option Addr) (len1 cap1 : Nat) (z1 : List Int) (w : World) (w0 : IsRow .u8 w a0 len0 cap0 z0) (w1 : IsRow .u8 w a1 len1 cap1 z1) (hL : laidMetH Tryz.prog Rows.fnUnitsRow.laid w) (hsh : w.ShapedOpen Tryz.prog) :
    Calls Tryz.prog 3 #[.slice a0 len0 cap0, .slice a1 len1 cap1] w fun e w' => e = .returned (.bool true) ∧ Below w.heap.size w w' := by
  by_cases hb0 : len0 ≤ 1048576
  · by_cases hb1 : len1 ≤ 1048576
    · have HP := Lib.hid (pow_of hL (by kernel_rfl))
      have HS := Lib.hid (speeds_of hL (by kernel_rfl))
      have HE := Lib.hid (errs_of hL (by kernel_rfl) (by kernel_rfl))
      have HM := Lib.hid (maxN_of hsh)
      have V0 := Lib.hid (un_bs_of_row w0)
      have V1 := Lib.hid (un_bs_of_row w1)
      clear hL hsh w0 w1
      go_enter Tryz.func3, Tryz.ntmps3
      go_wp2_with fail
      refine (b10no w _ len0 _ hb0).mono ?_
      rintro e w' ⟨rfl, rfl⟩
      go_wp2_with fail
      refine (b10no w _ len1 _ hb1).mono ?_
      rintro e w' ⟨rfl, rfl⟩
      go_wp2_with fail
      refine (drawClockText_any w _ len0 V0.out hb0).mono ?_
      rintro e w1 ⟨m, rfl, m0, m1, b1⟩
      have B1 := Lib.hid b1
      clear b1
      have hem := un_em
      by_cases hm : 0 ≤ m ∧ m ≤ 1439
      · obtain ⟨c1, c2⟩ := hm
        have C1 := fun W hp => Lib.hid (unClk_in c1 c2 W hp)
        have hmm : (m != m) = false := bne_self_eq_false' _
        go_wp2_with fail
        refine (C1 _ (HP.out.below B1.out)).out.mono ?_
        rintro e w2 ⟨t, rfl, ht, t5, tv, b2⟩
        have B2 := Lib.hid (bt B1.out b2)
        have C2 : ∀ W, MaxN W → Hid (Calls Tryz.prog 7 #[.string t] W fun e w' => e = .returned (.tuple #[.int .i64 m, .bool true]) ∧ Below W.heap.size W w') := fun W hM => Lib.hid (unRdC (o := some m) (by omega) tv W hM)
        clear b2 tv
        go_wp2_with fail
        refine (C2 _ (HM.out.below B2.out)).out.mono ?_
        rintro e wb ⟨rfl, bb⟩
        have BW := Lib.hid (bt B2.out bb)
        clear bb B1 B2 C1 C2 m0 m1 c1 c2
        have V2 := Lib.hid (un_bs_up V1.out BW.out)
        go_wp2_with fail
        refine (drawFixedText_any _ _ len1 V2.out hb1).mono ?_
        rintro e w3 ⟨n, p, rfl, n0, n1, p0, p1, b3⟩
        have B3 := Lib.hid (bt BW.out b3)
        clear b3 V2 BW
        by_cases hf : (-1000000000 ≤ n ∧ n ≤ 1000000000) ∧ 1 ≤ p ∧ p ≤ 6
        · obtain ⟨⟨f1, f2⟩, f3, f4⟩ := hf
          obtain ⟨q, rfl⟩ := Int.eq_ofNat_of_zero_le (show 0 ≤ p by omega)
          have q1 : 1 ≤ q := by omega
          have q2 : q ≤ 6 := by omega
          have C3 := fun W hp => Lib.hid (unFx_in f1 f2 q1 q2 W hp)
          have hnn : (n != n) = false := bne_self_eq_false' _
          go_wp2_with fail
          refine (C3 _ (HP.out.below B3.out)).out.mono ?_
          rintro e w4 ⟨u, rfl, hu, us, ut, b4⟩
          have B4 := Lib.hid (bt B3.out b4)
          have C4 := fun W hp hE hm => Lib.hid (unRdF f1 f2 q1 q2 us ut W hp hE hm)
          clear b4 us ut
          go_wp2_with fail
          refine (C4 _ (HP.out.below B4.out) (HE.out.below B4.out) (HM.out.below B4.out)).out.mono ?_
          rintro e w5 ⟨rfl, b5⟩
          have BX := Lib.hid (bt B4.out b5)
          clear b5 B4 B3 C3 C4 n0 n1 p0 p1 f1 f2 f3 f4 q1 q2
          have V3 := Lib.hid (un_bs_up V0.out BX.out)
          go_wp2_with fail
          refine (drawSnowMass_any _ _ len0 V3.out hb0).mono ?_
          rintro e w6 ⟨d, h, rfl, d0, d1, h0, h1, b6⟩
          have B6 := Lib.hid (bt BX.out b6)
          clear b6 V3 V0 BX
          have C7 := fun W => Lib.hid (implSnowMass_any d h W)
          have C8 := fun W => Lib.hid (implSnowHeight_any (10 * d * h) h W)
          by_cases hs : (0 ≤ d ∧ d ≤ 2000) ∧ 1 ≤ h ∧ h ≤ 1000
          · obtain ⟨⟨d2, d3⟩, h2, h3⟩ := hs
            have e1 := Ar.inB_t (l := 0) (x := d) (h := 2000) d2 d3
            have e2 := Ar.inB_t (l := 1) (x := h) (h := 1000) h2 h3
            obtain ⟨m0, m1⟩ := Un.snow_bd d2 d3 h2 h3
            have e3 := Ar.inB_t (l := 0) (x := 10 * d * h) (h := 1000000000) m0 m1
            rw [two_t e1 e2, rv_t, rc_t] at C7
            rw [two_t e3 e2, rv_t, rc_t, Un.snow_back d2 h2] at C8
            clear e1 e2 e3
            generalize 10 * d * h = ms at *
            have hdd : (d != d) = false := bne_self_eq_false' _
            go_wp2_with fail
            refine (C7 _).out.mono ?_
            rintro e w' ⟨rfl, rfl⟩
            go_wp2_with fail
            refine (C8 _).out.mono ?_
            rintro e w' ⟨rfl, rfl⟩
            have BY := Lib.hid B6.out
            clear B6 hdd d0 d1 h0 h1 d2 d3 h2 h3 m0 m1 C7 C8
            have V4 := Lib.hid (un_bs_up V1.out BY.out)
            clear V1
            go_wp2_with fail
            refine (drawBeaufortOf_any _ _ len1 V4.out hb1).mono ?_
            rintro e w8 ⟨s, rfl, s0, s1, b8⟩
            have B8 := Lib.hid (bt BY.out b8)
            clear b8 V4 BY
            have C5 := fun W hS => Lib.hid (implBeaufortOf_any s W hS)
            have C6 := fun W hS => Lib.hid (implBeaufortOf_any (s + 1) W hS)
            have PS := fun W => Lib.hid (implShareOf_any s W)
            have PT := fun W => Lib.hid (implShareOf_any (s + 1) W)
            obtain ⟨u1, u2, u3, u4⟩ := bft_up s
            obtain ⟨g1, g2⟩ := shrV_bd s
            have g3 := shrV_up s
            generalize bft s = ba at *
            generalize bft (s + 1) = bb at *
            generalize shrV s = pa at *
            generalize shrV (s + 1) = pb at *
            rcases in_cases 0 s 100000 with ⟨j1, j2, i1⟩ | ⟨-, i1⟩
            · rw [i1, rv_t, rc_t] at C5 PS
              rcases in_cases 0 (s + 1) 100000 with ⟨k1, k2, i2⟩ | ⟨-, i2⟩
              · rw [i2, rv_t, rc_t] at C6 PT
                clear i1 i2
                go_wp2_with fail
                refine (C5 _ (HS.out.below B8.out)).out.mono ?_
                rintro e w9 ⟨rfl, b9⟩
                have B9 := Lib.hid (bt B8.out b9)
                clear b9
                go_wp2_with fail
                refine (C6 _ (HS.out.below B9.out)).out.mono ?_
                rintro e wz ⟨rfl, bz⟩
                have BZ := Lib.hid (bt B9.out bz)
                clear bz
                go_wp2_with fail
                refine (PS _).out.mono ?_
                rintro e w' ⟨rfl, rfl⟩
                go_wp2_with fail
                refine (PT _).out.mono ?_
                rintro e w' ⟨rfl, rfl⟩
                go_wp2_with fail
                go_ret
                exact ⟨rfl, BZ.out⟩
              · rw [i2, rv_f, rc_f] at C6 PT
                clear i1 i2
                go_wp2_with fail
                refine (C5 _ (HS.out.below B8.out)).out.mono ?_
                rintro e w9 ⟨rfl, b9⟩
                have B9 := Lib.hid (bt B8.out b9)
                clear b9
                go_wp2_with fail
                refine (C6 _ (HS.out.below B9.out)).out.mono ?_
                rintro e wz ⟨rfl, bz⟩
                have BZ := Lib.hid (bt B9.out bz)
                clear bz
                go_wp2_with fail
                refine (PS _).out.mono ?_
                rintro e w' ⟨rfl, rfl⟩
                go_wp2_with fail
                refine (PT _).out.mono ?_
                rintro e w' ⟨rfl, rfl⟩
                go_wp2_with fail
                go_ret
                exact ⟨rfl, BZ.out⟩
            · rw [i1, rv_f, rc_f] at C5 PS
              generalize rv (Ar.inB 0 (s + 1) 100000) bb = x6 at *
              generalize rc (Ar.inB 0 (s + 1) 100000) 2 = c6 at *
              generalize rv (Ar.inB 0 (s + 1) 100000) pb = x7 at *
              clear i1
              go_wp2_with fail
              refine (C5 _ (HS.out.below B8.out)).out.mono ?_
              rintro e w9 ⟨rfl, b9⟩
              have B9 := Lib.hid (bt B8.out b9)
              clear b9
              go_wp2_with fail
              refine (C6 _ (HS.out.below B9.out)).out.mono ?_
              rintro e wz ⟨rfl, bz⟩
              have BZ := Lib.hid (bt B9.out bz)
              clear bz
              go_wp2_with fail
              refine (PS _).out.mono ?_
              rintro e w' ⟨rfl, rfl⟩
              go_wp2_with fail
              refine (PT _).out.mono ?_
              rintro e w' ⟨rfl, rfl⟩
              go_wp2_with fail
              go_ret
              exact ⟨rfl, BZ.out⟩
          · have hn : two 0 d 2000 1 h 1000 = false := two_f (by
              rcases in_cases 0 d 2000 with ⟨a1, a2, -⟩ | ⟨-, a⟩
              · rcases in_cases 1 h 1000 with ⟨a3, a4, -⟩ | ⟨-, a⟩
                · exact absurd ⟨⟨a1, a2⟩, a3, a4⟩ hs
                · exact Or.inr a
              · exact Or.inl a)
            rw [hn, rv_f, rc_f] at C7
            clear hn hs C8
            go_wp2_with fail
            refine (C7 _).out.mono ?_
            rintro e w' ⟨rfl, rfl⟩
            have BY := Lib.hid B6.out
            clear B6 d0 d1 h0 h1 C7
            have V4 := Lib.hid (un_bs_up V1.out BY.out)
            clear V1
            go_wp2_with fail
            refine (drawBeaufortOf_any _ _ len1 V4.out hb1).mono ?_
            rintro e w8 ⟨s, rfl, s0, s1, b8⟩
            have B8 := Lib.hid (bt BY.out b8)
            clear b8 V4 BY
            have C5 := fun W hS => Lib.hid (implBeaufortOf_any s W hS)
            have C6 := fun W hS => Lib.hid (implBeaufortOf_any (s + 1) W hS)
            have PS := fun W => Lib.hid (implShareOf_any s W)
            have PT := fun W => Lib.hid (implShareOf_any (s + 1) W)
            obtain ⟨u1, u2, u3, u4⟩ := bft_up s
            obtain ⟨g1, g2⟩ := shrV_bd s
            have g3 := shrV_up s
            generalize bft s = ba at *
            generalize bft (s + 1) = bb at *
            generalize shrV s = pa at *
            generalize shrV (s + 1) = pb at *
            rcases in_cases 0 s 100000 with ⟨j1, j2, i1⟩ | ⟨-, i1⟩
            · rw [i1, rv_t, rc_t] at C5 PS
              rcases in_cases 0 (s + 1) 100000 with ⟨k1, k2, i2⟩ | ⟨-, i2⟩
              · rw [i2, rv_t, rc_t] at C6 PT
                clear i1 i2
                go_wp2_with fail
                refine (C5 _ (HS.out.below B8.out)).out.mono ?_
                rintro e w9 ⟨rfl, b9⟩
                have B9 := Lib.hid (bt B8.out b9)
                clear b9
                go_wp2_with fail
                refine (C6 _ (HS.out.below B9.out)).out.mono ?_
                rintro e wz ⟨rfl, bz⟩
                have BZ := Lib.hid (bt B9.out bz)
                clear bz
                go_wp2_with fail
                refine (PS _).out.mono ?_
                rintro e w' ⟨rfl, rfl⟩
                go_wp2_with fail
                refine (PT _).out.mono ?_
                rintro e w' ⟨rfl, rfl⟩
                go_wp2_with fail
                go_ret
                exact ⟨rfl, BZ.out⟩
              · rw [i2, rv_f, rc_f] at C6 PT
                clear i1 i2
                go_wp2_with fail
                refine (C5 _ (HS.out.below B8.out)).out.mono ?_
                rintro e w9 ⟨rfl, b9⟩
                have B9 := Lib.hid (bt B8.out b9)
                clear b9
                go_wp2_with fail
                refine (C6 _ (HS.out.below B9.out)).out.mono ?_
                rintro e wz ⟨rfl, bz⟩
                have BZ := Lib.hid (bt B9.out bz)
                clear bz
                go_wp2_with fail
                refine (PS _).out.mono ?_
                rintro e w' ⟨rfl, rfl⟩
                go_wp2_with fail
                refine (PT _).out.mono ?_
                rintro e w' ⟨rfl, rfl⟩
                go_wp2_with fail
                go_ret
                exact ⟨rfl, BZ.out⟩
            · rw [i1, rv_f, rc_f] at C5 PS
              generalize rv (Ar.inB 0 (s + 1) 100000) bb = x6 at *
              generalize rc (Ar.inB 0 (s + 1) 100000) 2 = c6 at *
              generalize rv (Ar.inB 0 (s + 1) 100000) pb = x7 at *
              clear i1
              go_wp2_with fail
              refine (C5 _ (HS.out.below B8.out)).out.mono ?_
              rintro e w9 ⟨rfl, b9⟩
              have B9 := Lib.hid (bt B8.out b9)
              clear b9
              go_wp2_with fail
              refine (C6 _ (HS.out.below B9.out)).out.mono ?_
              rintro e wz ⟨rfl, bz⟩
              have BZ := Lib.hid (bt B9.out bz)
              clear bz
              go_wp2_with fail
              refine (PS _).out.mono ?_
              rintro e w' ⟨rfl, rfl⟩
              go_wp2_with fail
              refine (PT _).out.mono ?_
              rintro e w' ⟨rfl, rfl⟩
              go_wp2_with fail
              go_ret
              exact ⟨rfl, BZ.out⟩
        · have C3 := fun W => Lib.hid (unFx_out hf W)
          have C4 := fun W hp hE hm => Lib.hid (unRdF_no p W hp hE hm)
          clear hf
          go_wp2_with fail
          refine (C3 _).out.mono ?_
          rintro e w4 ⟨rfl, b4⟩
          have B4 := Lib.hid (bt B3.out b4)
          clear b4
          go_wp2_with fail
          refine (C4 _ (HP.out.below B4.out) (HE.out.below B4.out) (HM.out.below B4.out)).out.mono ?_
          rintro e w5 ⟨rfl, b5⟩
          have BX := Lib.hid (bt B4.out b5)
          clear b5 B4 B3 C3 C4 n0 n1 p0 p1
          have V3 := Lib.hid (un_bs_up V0.out BX.out)
          go_wp2_with fail
          refine (drawSnowMass_any _ _ len0 V3.out hb0).mono ?_
          rintro e w6 ⟨d, h, rfl, d0, d1, h0, h1, b6⟩
          have B6 := Lib.hid (bt BX.out b6)
          clear b6 V3 V0 BX
          have C7 := fun W => Lib.hid (implSnowMass_any d h W)
          have C8 := fun W => Lib.hid (implSnowHeight_any (10 * d * h) h W)
          by_cases hs : (0 ≤ d ∧ d ≤ 2000) ∧ 1 ≤ h ∧ h ≤ 1000
          · obtain ⟨⟨d2, d3⟩, h2, h3⟩ := hs
            have e1 := Ar.inB_t (l := 0) (x := d) (h := 2000) d2 d3
            have e2 := Ar.inB_t (l := 1) (x := h) (h := 1000) h2 h3
            obtain ⟨m0, m1⟩ := Un.snow_bd d2 d3 h2 h3
            have e3 := Ar.inB_t (l := 0) (x := 10 * d * h) (h := 1000000000) m0 m1
            rw [two_t e1 e2, rv_t, rc_t] at C7
            rw [two_t e3 e2, rv_t, rc_t, Un.snow_back d2 h2] at C8
            clear e1 e2 e3
            generalize 10 * d * h = ms at *
            have hdd : (d != d) = false := bne_self_eq_false' _
            go_wp2_with fail
            refine (C7 _).out.mono ?_
            rintro e w' ⟨rfl, rfl⟩
            go_wp2_with fail
            refine (C8 _).out.mono ?_
            rintro e w' ⟨rfl, rfl⟩
            have BY := Lib.hid B6.out
            clear B6 hdd d0 d1 h0 h1 d2 d3 h2 h3 m0 m1 C7 C8
            have V4 := Lib.hid (un_bs_up V1.out BY.out)
            clear V1
            go_wp2_with fail
            refine (drawBeaufortOf_any _ _ len1 V4.out hb1).mono ?_
            rintro e w8 ⟨s, rfl, s0, s1, b8⟩
            have B8 := Lib.hid (bt BY.out b8)
            clear b8 V4 BY
            have C5 := fun W hS => Lib.hid (implBeaufortOf_any s W hS)
            have C6 := fun W hS => Lib.hid (implBeaufortOf_any (s + 1) W hS)
            have PS := fun W => Lib.hid (implShareOf_any s W)
            have PT := fun W => Lib.hid (implShareOf_any (s + 1) W)
            obtain ⟨u1, u2, u3, u4⟩ := bft_up s
            obtain ⟨g1, g2⟩ := shrV_bd s
            have g3 := shrV_up s
            generalize bft s = ba at *
            generalize bft (s + 1) = bb at *
            generalize shrV s = pa at *
            generalize shrV (s + 1) = pb at *
            rcases in_cases 0 s 100000 with ⟨j1, j2, i1⟩ | ⟨-, i1⟩
            · rw [i1, rv_t, rc_t] at C5 PS
              rcases in_cases 0 (s + 1) 100000 with ⟨k1, k2, i2⟩ | ⟨-, i2⟩
              · rw [i2, rv_t, rc_t] at C6 PT
                clear i1 i2
                go_wp2_with fail
                refine (C5 _ (HS.out.below B8.out)).out.mono ?_
                rintro e w9 ⟨rfl, b9⟩
                have B9 := Lib.hid (bt B8.out b9)
                clear b9
                go_wp2_with fail
                refine (C6 _ (HS.out.below B9.out)).out.mono ?_
                rintro e wz ⟨rfl, bz⟩
                have BZ := Lib.hid (bt B9.out bz)
                clear bz
                go_wp2_with fail
                refine (PS _).out.mono ?_
                rintro e w' ⟨rfl, rfl⟩
                go_wp2_with fail
                refine (PT _).out.mono ?_
                rintro e w' ⟨rfl, rfl⟩
                go_wp2_with fail
                go_ret
                exact ⟨rfl, BZ.out⟩
              · rw [i2, rv_f, rc_f] at C6 PT
                clear i1 i2
                go_wp2_with fail
                refine (C5 _ (HS.out.below B8.out)).out.mono ?_
                rintro e w9 ⟨rfl, b9⟩
                have B9 := Lib.hid (bt B8.out b9)
                clear b9
                go_wp2_with fail
                refine (C6 _ (HS.out.below B9.out)).out.mono ?_
                rintro e wz ⟨rfl, bz⟩
                have BZ := Lib.hid (bt B9.out bz)
                clear bz
                go_wp2_with fail
                refine (PS _).out.mono ?_
                rintro e w' ⟨rfl, rfl⟩
                go_wp2_with fail
                refine (PT _).out.mono ?_
                rintro e w' ⟨rfl, rfl⟩
                go_wp2_with fail
                go_ret
                exact ⟨rfl, BZ.out⟩
            · rw [i1, rv_f, rc_f] at C5 PS
              generalize rv (Ar.inB 0 (s + 1) 100000) bb = x6 at *
              generalize rc (Ar.inB 0 (s + 1) 100000) 2 = c6 at *
              generalize rv (Ar.inB 0 (s + 1) 100000) pb = x7 at *
              clear i1
              go_wp2_with fail
              refine (C5 _ (HS.out.below B8.out)).out.mono ?_
              rintro e w9 ⟨rfl, b9⟩
              have B9 := Lib.hid (bt B8.out b9)
              clear b9
              go_wp2_with fail
              refine (C6 _ (HS.out.below B9.out)).out.mono ?_
              rintro e wz ⟨rfl, bz⟩
              have BZ := Lib.hid (bt B9.out bz)
              clear bz
              go_wp2_with fail
              refine (PS _).out.mono ?_
              rintro e w' ⟨rfl, rfl⟩
              go_wp2_with fail
              refine (PT _).out.mono ?_
              rintro e w' ⟨rfl, rfl⟩
              go_wp2_with fail
              go_ret
              exact ⟨rfl, BZ.out⟩
          · have hn : two 0 d 2000 1 h 1000 = false := two_f (by
              rcases in_cases 0 d 2000 with ⟨a1, a2, -⟩ | ⟨-, a⟩
              · rcases in_cases 1 h 1000 with ⟨a3, a4, -⟩ | ⟨-, a⟩
                · exact absurd ⟨⟨a1, a2⟩, a3, a4⟩ hs
                · exact Or.inr a
              · exact Or.inl a)
            rw [hn, rv_f, rc_f] at C7
            clear hn hs C8
            go_wp2_with fail
            refine (C7 _).out.mono ?_
            rintro e w' ⟨rfl, rfl⟩
            have BY := Lib.hid B6.out
            clear B6 d0 d1 h0 h1 C7
            have V4 := Lib.hid (un_bs_up V1.out BY.out)
            clear V1
            go_wp2_with fail
            refine (drawBeaufortOf_any _ _ len1 V4.out hb1).mono ?_
            rintro e w8 ⟨s, rfl, s0, s1, b8⟩
            have B8 := Lib.hid (bt BY.out b8)
            clear b8 V4 BY
            have C5 := fun W hS => Lib.hid (implBeaufortOf_any s W hS)
            have C6 := fun W hS => Lib.hid (implBeaufortOf_any (s + 1) W hS)
            have PS := fun W => Lib.hid (implShareOf_any s W)
            have PT := fun W => Lib.hid (implShareOf_any (s + 1) W)
            obtain ⟨u1, u2, u3, u4⟩ := bft_up s
            obtain ⟨g1, g2⟩ := shrV_bd s
            have g3 := shrV_up s
            generalize bft s = ba at *
            generalize bft (s + 1) = bb at *
            generalize shrV s = pa at *
            generalize shrV (s + 1) = pb at *
            rcases in_cases 0 s 100000 with ⟨j1, j2, i1⟩ | ⟨-, i1⟩
            · rw [i1, rv_t, rc_t] at C5 PS
              rcases in_cases 0 (s + 1) 100000 with ⟨k1, k2, i2⟩ | ⟨-, i2⟩
              · rw [i2, rv_t, rc_t] at C6 PT
                clear i1 i2
                go_wp2_with fail
                refine (C5 _ (HS.out.below B8.out)).out.mono ?_
                rintro e w9 ⟨rfl, b9⟩
                have B9 := Lib.hid (bt B8.out b9)
                clear b9
                go_wp2_with fail
                refine (C6 _ (HS.out.below B9.out)).out.mono ?_
                rintro e wz ⟨rfl, bz⟩
                have BZ := Lib.hid (bt B9.out bz)
                clear bz
                go_wp2_with fail
                refine (PS _).out.mono ?_
                rintro e w' ⟨rfl, rfl⟩
                go_wp2_with fail
                refine (PT _).out.mono ?_
                rintro e w' ⟨rfl, rfl⟩
                go_wp2_with fail
                go_ret
                exact ⟨rfl, BZ.out⟩
              · rw [i2, rv_f, rc_f] at C6 PT
                clear i1 i2
                go_wp2_with fail
                refine (C5 _ (HS.out.below B8.out)).out.mono ?_
                rintro e w9 ⟨rfl, b9⟩
                have B9 := Lib.hid (bt B8.out b9)
                clear b9
                go_wp2_with fail
                refine (C6 _ (HS.out.below B9.out)).out.mono ?_
                rintro e wz ⟨rfl, bz⟩
                have BZ := Lib.hid (bt B9.out bz)
                clear bz
                go_wp2_with fail
                refine (PS _).out.mono ?_
                rintro e w' ⟨rfl, rfl⟩
                go_wp2_with fail
                refine (PT _).out.mono ?_
                rintro e w' ⟨rfl, rfl⟩
                go_wp2_with fail
                go_ret
                exact ⟨rfl, BZ.out⟩
            · rw [i1, rv_f, rc_f] at C5 PS
              generalize rv (Ar.inB 0 (s + 1) 100000) bb = x6 at *
              generalize rc (Ar.inB 0 (s + 1) 100000) 2 = c6 at *
              generalize rv (Ar.inB 0 (s + 1) 100000) pb = x7 at *
              clear i1
              go_wp2_with fail
              refine (C5 _ (HS.out.below B8.out)).out.mono ?_
              rintro e w9 ⟨rfl, b9⟩
              have B9 := Lib.hid (bt B8.out b9)
              clear b9
              go_wp2_with fail
              refine (C6 _ (HS.out.below B9.out)).out.mono ?_
              rintro e wz ⟨rfl, bz⟩
              have BZ := Lib.hid (bt B9.out bz)
              clear bz
              go_wp2_with fail
              refine (PS _).out.mono ?_
              rintro e w' ⟨rfl, rfl⟩
              go_wp2_with fail
              refine (PT _).out.mono ?_
              rintro e w' ⟨rfl, rfl⟩
              go_wp2_with fail
              go_ret
              exact ⟨rfl, BZ.out⟩
      · have C1 := fun W hp => Lib.hid (unClk_out hm W hp)
        have C2 : ∀ W, MaxN W → Hid (Calls Tryz.prog 7 #[.string ⟨#[]⟩] W fun e w' => e = .returned (.tuple #[.int .i64 0, .bool false]) ∧ Below W.heap.size W w') := fun W hM => Lib.hid (unRdC (o := none) (by decide) clk_nil W hM)
        clear hm
        go_wp2_with fail
        refine (C1 _ (HP.out.below B1.out)).out.mono ?_
        rintro e w2 ⟨rfl, b2⟩
        have B2 := Lib.hid (bt B1.out b2)
        clear b2
        go_wp2_with fail
        refine (C2 _ (HM.out.below B2.out)).out.mono ?_
        rintro e wb ⟨rfl, bb⟩
        have BW := Lib.hid (bt B2.out bb)
        clear bb B1 B2 C1 C2 m0 m1
        have V2 := Lib.hid (un_bs_up V1.out BW.out)
        go_wp2_with fail
        refine (drawFixedText_any _ _ len1 V2.out hb1).mono ?_
        rintro e w3 ⟨n, p, rfl, n0, n1, p0, p1, b3⟩
        have B3 := Lib.hid (bt BW.out b3)
        clear b3 V2 BW
        by_cases hf : (-1000000000 ≤ n ∧ n ≤ 1000000000) ∧ 1 ≤ p ∧ p ≤ 6
        · obtain ⟨⟨f1, f2⟩, f3, f4⟩ := hf
          obtain ⟨q, rfl⟩ := Int.eq_ofNat_of_zero_le (show 0 ≤ p by omega)
          have q1 : 1 ≤ q := by omega
          have q2 : q ≤ 6 := by omega
          have C3 := fun W hp => Lib.hid (unFx_in f1 f2 q1 q2 W hp)
          have hnn : (n != n) = false := bne_self_eq_false' _
          go_wp2_with fail
          refine (C3 _ (HP.out.below B3.out)).out.mono ?_
          rintro e w4 ⟨u, rfl, hu, us, ut, b4⟩
          have B4 := Lib.hid (bt B3.out b4)
          have C4 := fun W hp hE hm => Lib.hid (unRdF f1 f2 q1 q2 us ut W hp hE hm)
          clear b4 us ut
          go_wp2_with fail
          refine (C4 _ (HP.out.below B4.out) (HE.out.below B4.out) (HM.out.below B4.out)).out.mono ?_
          rintro e w5 ⟨rfl, b5⟩
          have BX := Lib.hid (bt B4.out b5)
          clear b5 B4 B3 C3 C4 n0 n1 p0 p1 f1 f2 f3 f4 q1 q2
          have V3 := Lib.hid (un_bs_up V0.out BX.out)
          go_wp2_with fail
          refine (drawSnowMass_any _ _ len0 V3.out hb0).mono ?_
          rintro e w6 ⟨d, h, rfl, d0, d1, h0, h1, b6⟩
          have B6 := Lib.hid (bt BX.out b6)
          clear b6 V3 V0 BX
          have C7 := fun W => Lib.hid (implSnowMass_any d h W)
          have C8 := fun W => Lib.hid (implSnowHeight_any (10 * d * h) h W)
          by_cases hs : (0 ≤ d ∧ d ≤ 2000) ∧ 1 ≤ h ∧ h ≤ 1000
          · obtain ⟨⟨d2, d3⟩, h2, h3⟩ := hs
            have e1 := Ar.inB_t (l := 0) (x := d) (h := 2000) d2 d3
            have e2 := Ar.inB_t (l := 1) (x := h) (h := 1000) h2 h3
            obtain ⟨m0, m1⟩ := Un.snow_bd d2 d3 h2 h3
            have e3 := Ar.inB_t (l := 0) (x := 10 * d * h) (h := 1000000000) m0 m1
            rw [two_t e1 e2, rv_t, rc_t] at C7
            rw [two_t e3 e2, rv_t, rc_t, Un.snow_back d2 h2] at C8
            clear e1 e2 e3
            generalize 10 * d * h = ms at *
            have hdd : (d != d) = false := bne_self_eq_false' _
            go_wp2_with fail
            refine (C7 _).out.mono ?_
            rintro e w' ⟨rfl, rfl⟩
            go_wp2_with fail
            refine (C8 _).out.mono ?_
            rintro e w' ⟨rfl, rfl⟩
            have BY := Lib.hid B6.out
            clear B6 hdd d0 d1 h0 h1 d2 d3 h2 h3 m0 m1 C7 C8
            have V4 := Lib.hid (un_bs_up V1.out BY.out)
            clear V1
            go_wp2_with fail
            refine (drawBeaufortOf_any _ _ len1 V4.out hb1).mono ?_
            rintro e w8 ⟨s, rfl, s0, s1, b8⟩
            have B8 := Lib.hid (bt BY.out b8)
            clear b8 V4 BY
            have C5 := fun W hS => Lib.hid (implBeaufortOf_any s W hS)
            have C6 := fun W hS => Lib.hid (implBeaufortOf_any (s + 1) W hS)
            have PS := fun W => Lib.hid (implShareOf_any s W)
            have PT := fun W => Lib.hid (implShareOf_any (s + 1) W)
            obtain ⟨u1, u2, u3, u4⟩ := bft_up s
            obtain ⟨g1, g2⟩ := shrV_bd s
            have g3 := shrV_up s
            generalize bft s = ba at *
            generalize bft (s + 1) = bb at *
            generalize shrV s = pa at *
            generalize shrV (s + 1) = pb at *
            rcases in_cases 0 s 100000 with ⟨j1, j2, i1⟩ | ⟨-, i1⟩
            · rw [i1, rv_t, rc_t] at C5 PS
              rcases in_cases 0 (s + 1) 100000 with ⟨k1, k2, i2⟩ | ⟨-, i2⟩
              · rw [i2, rv_t, rc_t] at C6 PT
                clear i1 i2
                go_wp2_with fail
                refine (C5 _ (HS.out.below B8.out)).out.mono ?_
                rintro e w9 ⟨rfl, b9⟩
                have B9 := Lib.hid (bt B8.out b9)
                clear b9
                go_wp2_with fail
                refine (C6 _ (HS.out.below B9.out)).out.mono ?_
                rintro e wz ⟨rfl, bz⟩
                have BZ := Lib.hid (bt B9.out bz)
                clear bz
                go_wp2_with fail
                refine (PS _).out.mono ?_
                rintro e w' ⟨rfl, rfl⟩
                go_wp2_with fail
                refine (PT _).out.mono ?_
                rintro e w' ⟨rfl, rfl⟩
                go_wp2_with fail
                go_ret
                exact ⟨rfl, BZ.out⟩
              · rw [i2, rv_f, rc_f] at C6 PT
                clear i1 i2
                go_wp2_with fail
                refine (C5 _ (HS.out.below B8.out)).out.mono ?_
                rintro e w9 ⟨rfl, b9⟩
                have B9 := Lib.hid (bt B8.out b9)
                clear b9
                go_wp2_with fail
                refine (C6 _ (HS.out.below B9.out)).out.mono ?_
                rintro e wz ⟨rfl, bz⟩
                have BZ := Lib.hid (bt B9.out bz)
                clear bz
                go_wp2_with fail
                refine (PS _).out.mono ?_
                rintro e w' ⟨rfl, rfl⟩
                go_wp2_with fail
                refine (PT _).out.mono ?_
                rintro e w' ⟨rfl, rfl⟩
                go_wp2_with fail
                go_ret
                exact ⟨rfl, BZ.out⟩
            · rw [i1, rv_f, rc_f] at C5 PS
              generalize rv (Ar.inB 0 (s + 1) 100000) bb = x6 at *
              generalize rc (Ar.inB 0 (s + 1) 100000) 2 = c6 at *
              generalize rv (Ar.inB 0 (s + 1) 100000) pb = x7 at *
              clear i1
              go_wp2_with fail
              refine (C5 _ (HS.out.below B8.out)).out.mono ?_
              rintro e w9 ⟨rfl, b9⟩
              have B9 := Lib.hid (bt B8.out b9)
              clear b9
              go_wp2_with fail
              refine (C6 _ (HS.out.below B9.out)).out.mono ?_
              rintro e wz ⟨rfl, bz⟩
              have BZ := Lib.hid (bt B9.out bz)
              clear bz
              go_wp2_with fail
              refine (PS _).out.mono ?_
              rintro e w' ⟨rfl, rfl⟩
              go_wp2_with fail
              refine (PT _).out.mono ?_
              rintro e w' ⟨rfl, rfl⟩
              go_wp2_with fail
              go_ret
              exact ⟨rfl, BZ.out⟩
          · have hn : two 0 d 2000 1 h 1000 = false := two_f (by
              rcases in_cases 0 d 2000 with ⟨a1, a2, -⟩ | ⟨-, a⟩
              · rcases in_cases 1 h 1000 with ⟨a3, a4, -⟩ | ⟨-, a⟩
                · exact absurd ⟨⟨a1, a2⟩, a3, a4⟩ hs
                · exact Or.inr a
              · exact Or.inl a)
            rw [hn, rv_f, rc_f] at C7
            clear hn hs C8
            go_wp2_with fail
            refine (C7 _).out.mono ?_
            rintro e w' ⟨rfl, rfl⟩
            have BY := Lib.hid B6.out
            clear B6 d0 d1 h0 h1 C7
            have V4 := Lib.hid (un_bs_up V1.out BY.out)
            clear V1
            go_wp2_with fail
            refine (drawBeaufortOf_any _ _ len1 V4.out hb1).mono ?_
            rintro e w8 ⟨s, rfl, s0, s1, b8⟩
            have B8 := Lib.hid (bt BY.out b8)
            clear b8 V4 BY
            have C5 := fun W hS => Lib.hid (implBeaufortOf_any s W hS)
            have C6 := fun W hS => Lib.hid (implBeaufortOf_any (s + 1) W hS)
            have PS := fun W => Lib.hid (implShareOf_any s W)
            have PT := fun W => Lib.hid (implShareOf_any (s + 1) W)
            obtain ⟨u1, u2, u3, u4⟩ := bft_up s
            obtain ⟨g1, g2⟩ := shrV_bd s
            have g3 := shrV_up s
            generalize bft s = ba at *
            generalize bft (s + 1) = bb at *
            generalize shrV s = pa at *
            generalize shrV (s + 1) = pb at *
            rcases in_cases 0 s 100000 with ⟨j1, j2, i1⟩ | ⟨-, i1⟩
            · rw [i1, rv_t, rc_t] at C5 PS
              rcases in_cases 0 (s + 1) 100000 with ⟨k1, k2, i2⟩ | ⟨-, i2⟩
              · rw [i2, rv_t, rc_t] at C6 PT
                clear i1 i2
                go_wp2_with fail
                refine (C5 _ (HS.out.below B8.out)).out.mono ?_
                rintro e w9 ⟨rfl, b9⟩
                have B9 := Lib.hid (bt B8.out b9)
                clear b9
                go_wp2_with fail
                refine (C6 _ (HS.out.below B9.out)).out.mono ?_
                rintro e wz ⟨rfl, bz⟩
                have BZ := Lib.hid (bt B9.out bz)
                clear bz
                go_wp2_with fail
                refine (PS _).out.mono ?_
                rintro e w' ⟨rfl, rfl⟩
                go_wp2_with fail
                refine (PT _).out.mono ?_
                rintro e w' ⟨rfl, rfl⟩
                go_wp2_with fail
                go_ret
                exact ⟨rfl, BZ.out⟩
              · rw [i2, rv_f, rc_f] at C6 PT
                clear i1 i2
                go_wp2_with fail
                refine (C5 _ (HS.out.below B8.out)).out.mono ?_
                rintro e w9 ⟨rfl, b9⟩
                have B9 := Lib.hid (bt B8.out b9)
                clear b9
                go_wp2_with fail
                refine (C6 _ (HS.out.below B9.out)).out.mono ?_
                rintro e wz ⟨rfl, bz⟩
                have BZ := Lib.hid (bt B9.out bz)
                clear bz
                go_wp2_with fail
                refine (PS _).out.mono ?_
                rintro e w' ⟨rfl, rfl⟩
                go_wp2_with fail
                refine (PT _).out.mono ?_
                rintro e w' ⟨rfl, rfl⟩
                go_wp2_with fail
                go_ret
                exact ⟨rfl, BZ.out⟩
            · rw [i1, rv_f, rc_f] at C5 PS
              generalize rv (Ar.inB 0 (s + 1) 100000) bb = x6 at *
              generalize rc (Ar.inB 0 (s + 1) 100000) 2 = c6 at *
              generalize rv (Ar.inB 0 (s + 1) 100000) pb = x7 at *
              clear i1
              go_wp2_with fail
              refine (C5 _ (HS.out.below B8.out)).out.mono ?_
              rintro e w9 ⟨rfl, b9⟩
              have B9 := Lib.hid (bt B8.out b9)
              clear b9
              go_wp2_with fail
              refine (C6 _ (HS.out.below B9.out)).out.mono ?_
              rintro e wz ⟨rfl, bz⟩
              have BZ := Lib.hid (bt B9.out bz)
              clear bz
              go_wp2_with fail
              refine (PS _).out.mono ?_
              rintro e w' ⟨rfl, rfl⟩
              go_wp2_with fail
              refine (PT _).out.mono ?_
              rintro e w' ⟨rfl, rfl⟩
              go_wp2_with fail
              go_ret
              exact ⟨rfl, BZ.out⟩
        · have C3 := fun W => Lib.hid (unFx_out hf W)
          have C4 := fun W hp hE hm => Lib.hid (unRdF_no p W hp hE hm)
          clear hf
          go_wp2_with fail
          refine (C3 _).out.mono ?_
          rintro e w4 ⟨rfl, b4⟩
          have B4 := Lib.hid (bt B3.out b4)
          clear b4
          go_wp2_with fail
          refine (C4 _ (HP.out.below B4.out) (HE.out.below B4.out) (HM.out.below B4.out)).out.mono ?_
          rintro e w5 ⟨rfl, b5⟩
          have BX := Lib.hid (bt B4.out b5)
          clear b5 B4 B3 C3 C4 n0 n1 p0 p1
          have V3 := Lib.hid (un_bs_up V0.out BX.out)
          go_wp2_with fail
          refine (drawSnowMass_any _ _ len0 V3.out hb0).mono ?_
          rintro e w6 ⟨d, h, rfl, d0, d1, h0, h1, b6⟩
          have B6 := Lib.hid (bt BX.out b6)
          clear b6 V3 V0 BX
          have C7 := fun W => Lib.hid (implSnowMass_any d h W)
          have C8 := fun W => Lib.hid (implSnowHeight_any (10 * d * h) h W)
          by_cases hs : (0 ≤ d ∧ d ≤ 2000) ∧ 1 ≤ h ∧ h ≤ 1000
          · obtain ⟨⟨d2, d3⟩, h2, h3⟩ := hs
            have e1 := Ar.inB_t (l := 0) (x := d) (h := 2000) d2 d3
            have e2 := Ar.inB_t (l := 1) (x := h) (h := 1000) h2 h3
            obtain ⟨m0, m1⟩ := Un.snow_bd d2 d3 h2 h3
            have e3 := Ar.inB_t (l := 0) (x := 10 * d * h) (h := 1000000000) m0 m1
            rw [two_t e1 e2, rv_t, rc_t] at C7
            rw [two_t e3 e2, rv_t, rc_t, Un.snow_back d2 h2] at C8
            clear e1 e2 e3
            generalize 10 * d * h = ms at *
            have hdd : (d != d) = false := bne_self_eq_false' _
            go_wp2_with fail
            refine (C7 _).out.mono ?_
            rintro e w' ⟨rfl, rfl⟩
            go_wp2_with fail
            refine (C8 _).out.mono ?_
            rintro e w' ⟨rfl, rfl⟩
            have BY := Lib.hid B6.out
            clear B6 hdd d0 d1 h0 h1 d2 d3 h2 h3 m0 m1 C7 C8
            have V4 := Lib.hid (un_bs_up V1.out BY.out)
            clear V1
            go_wp2_with fail
            refine (drawBeaufortOf_any _ _ len1 V4.out hb1).mono ?_
            rintro e w8 ⟨s, rfl, s0, s1, b8⟩
            have B8 := Lib.hid (bt BY.out b8)
            clear b8 V4 BY
            have C5 := fun W hS => Lib.hid (implBeaufortOf_any s W hS)
            have C6 := fun W hS => Lib.hid (implBeaufortOf_any (s + 1) W hS)
            have PS := fun W => Lib.hid (implShareOf_any s W)
            have PT := fun W => Lib.hid (implShareOf_any (s + 1) W)
            obtain ⟨u1, u2, u3, u4⟩ := bft_up s
            obtain ⟨g1, g2⟩ := shrV_bd s
            have g3 := shrV_up s
            generalize bft s = ba at *
            generalize bft (s + 1) = bb at *
            generalize shrV s = pa at *
            generalize shrV (s + 1) = pb at *
            rcases in_cases 0 s 100000 with ⟨j1, j2, i1⟩ | ⟨-, i1⟩
            · rw [i1, rv_t, rc_t] at C5 PS
              rcases in_cases 0 (s + 1) 100000 with ⟨k1, k2, i2⟩ | ⟨-, i2⟩
              · rw [i2, rv_t, rc_t] at C6 PT
                clear i1 i2
                go_wp2_with fail
                refine (C5 _ (HS.out.below B8.out)).out.mono ?_
                rintro e w9 ⟨rfl, b9⟩
                have B9 := Lib.hid (bt B8.out b9)
                clear b9
                go_wp2_with fail
                refine (C6 _ (HS.out.below B9.out)).out.mono ?_
                rintro e wz ⟨rfl, bz⟩
                have BZ := Lib.hid (bt B9.out bz)
                clear bz
                go_wp2_with fail
                refine (PS _).out.mono ?_
                rintro e w' ⟨rfl, rfl⟩
                go_wp2_with fail
                refine (PT _).out.mono ?_
                rintro e w' ⟨rfl, rfl⟩
                go_wp2_with fail
                go_ret
                exact ⟨rfl, BZ.out⟩
              · rw [i2, rv_f, rc_f] at C6 PT
                clear i1 i2
                go_wp2_with fail
                refine (C5 _ (HS.out.below B8.out)).out.mono ?_
                rintro e w9 ⟨rfl, b9⟩
                have B9 := Lib.hid (bt B8.out b9)
                clear b9
                go_wp2_with fail
                refine (C6 _ (HS.out.below B9.out)).out.mono ?_
                rintro e wz ⟨rfl, bz⟩
                have BZ := Lib.hid (bt B9.out bz)
                clear bz
                go_wp2_with fail
                refine (PS _).out.mono ?_
                rintro e w' ⟨rfl, rfl⟩
                go_wp2_with fail
                refine (PT _).out.mono ?_
                rintro e w' ⟨rfl, rfl⟩
                go_wp2_with fail
                go_ret
                exact ⟨rfl, BZ.out⟩
            · rw [i1, rv_f, rc_f] at C5 PS
              generalize rv (Ar.inB 0 (s + 1) 100000) bb = x6 at *
              generalize rc (Ar.inB 0 (s + 1) 100000) 2 = c6 at *
              generalize rv (Ar.inB 0 (s + 1) 100000) pb = x7 at *
              clear i1
              go_wp2_with fail
              refine (C5 _ (HS.out.below B8.out)).out.mono ?_
              rintro e w9 ⟨rfl, b9⟩
              have B9 := Lib.hid (bt B8.out b9)
              clear b9
              go_wp2_with fail
              refine (C6 _ (HS.out.below B9.out)).out.mono ?_
              rintro e wz ⟨rfl, bz⟩
              have BZ := Lib.hid (bt B9.out bz)
              clear bz
              go_wp2_with fail
              refine (PS _).out.mono ?_
              rintro e w' ⟨rfl, rfl⟩
              go_wp2_with fail
              refine (PT _).out.mono ?_
              rintro e w' ⟨rfl, rfl⟩
              go_wp2_with fail
              go_ret
              exact ⟨rfl, BZ.out⟩
          · have hn : two 0 d 2000 1 h 1000 = false := two_f (by
              rcases in_cases 0 d 2000 with ⟨a1, a2, -⟩ | ⟨-, a⟩
              · rcases in_cases 1 h 1000 with ⟨a3, a4, -⟩ | ⟨-, a⟩
                · exact absurd ⟨⟨a1, a2⟩, a3, a4⟩ hs
                · exact Or.inr a
              · exact Or.inl a)
            rw [hn, rv_f, rc_f] at C7
            clear hn hs C8
            go_wp2_with fail
            refine (C7 _).out.mono ?_
            rintro e w' ⟨rfl, rfl⟩
            have BY := Lib.hid B6.out
            clear B6 d0 d1 h0 h1 C7
            have V4 := Lib.hid (un_bs_up V1.out BY.out)
            clear V1
            go_wp2_with fail
            refine (drawBeaufortOf_any _ _ len1 V4.out hb1).mono ?_
            rintro e w8 ⟨s, rfl, s0, s1, b8⟩
            have B8 := Lib.hid (bt BY.out b8)
            clear b8 V4 BY
            have C5 := fun W hS => Lib.hid (implBeaufortOf_any s W hS)
            have C6 := fun W hS => Lib.hid (implBeaufortOf_any (s + 1) W hS)
            have PS := fun W => Lib.hid (implShareOf_any s W)
            have PT := fun W => Lib.hid (implShareOf_any (s + 1) W)
            obtain ⟨u1, u2, u3, u4⟩ := bft_up s
            obtain ⟨g1, g2⟩ := shrV_bd s
            have g3 := shrV_up s
            generalize bft s = ba at *
            generalize bft (s + 1) = bb at *
            generalize shrV s = pa at *
            generalize shrV (s + 1) = pb at *
            rcases in_cases 0 s 100000 with ⟨j1, j2, i1⟩ | ⟨-, i1⟩
            · rw [i1, rv_t, rc_t] at C5 PS
              rcases in_cases 0 (s + 1) 100000 with ⟨k1, k2, i2⟩ | ⟨-, i2⟩
              · rw [i2, rv_t, rc_t] at C6 PT
                clear i1 i2
                go_wp2_with fail
                refine (C5 _ (HS.out.below B8.out)).out.mono ?_
                rintro e w9 ⟨rfl, b9⟩
                have B9 := Lib.hid (bt B8.out b9)
                clear b9
                go_wp2_with fail
                refine (C6 _ (HS.out.below B9.out)).out.mono ?_
                rintro e wz ⟨rfl, bz⟩
                have BZ := Lib.hid (bt B9.out bz)
                clear bz
                go_wp2_with fail
                refine (PS _).out.mono ?_
                rintro e w' ⟨rfl, rfl⟩
                go_wp2_with fail
                refine (PT _).out.mono ?_
                rintro e w' ⟨rfl, rfl⟩
                go_wp2_with fail
                go_ret
                exact ⟨rfl, BZ.out⟩
              · rw [i2, rv_f, rc_f] at C6 PT
                clear i1 i2
                go_wp2_with fail
                refine (C5 _ (HS.out.below B8.out)).out.mono ?_
                rintro e w9 ⟨rfl, b9⟩
                have B9 := Lib.hid (bt B8.out b9)
                clear b9
                go_wp2_with fail
                refine (C6 _ (HS.out.below B9.out)).out.mono ?_
                rintro e wz ⟨rfl, bz⟩
                have BZ := Lib.hid (bt B9.out bz)
                clear bz
                go_wp2_with fail
                refine (PS _).out.mono ?_
                rintro e w' ⟨rfl, rfl⟩
                go_wp2_with fail
                refine (PT _).out.mono ?_
                rintro e w' ⟨rfl, rfl⟩
                go_wp2_with fail
                go_ret
                exact ⟨rfl, BZ.out⟩
            · rw [i1, rv_f, rc_f] at C5 PS
              generalize rv (Ar.inB 0 (s + 1) 100000) bb = x6 at *
              generalize rc (Ar.inB 0 (s + 1) 100000) 2 = c6 at *
              generalize rv (Ar.inB 0 (s + 1) 100000) pb = x7 at *
              clear i1
              go_wp2_with fail
              refine (C5 _ (HS.out.below B8.out)).out.mono ?_
              rintro e w9 ⟨rfl, b9⟩
              have B9 := Lib.hid (bt B8.out b9)
              clear b9
              go_wp2_with fail
              refine (C6 _ (HS.out.below B9.out)).out.mono ?_
              rintro e wz ⟨rfl, bz⟩
              have BZ := Lib.hid (bt B9.out bz)
              clear bz
              go_wp2_with fail
              refine (PS _).out.mono ?_
              rintro e w' ⟨rfl, rfl⟩
              go_wp2_with fail
              refine (PT _).out.mono ?_
              rintro e w' ⟨rfl, rfl⟩
              go_wp2_with fail
              go_ret
              exact ⟨rfl, BZ.out⟩
    · clear hL hsh w0 w1
      go_enter Tryz.func3, Tryz.ntmps3
      go_wp2_with fail
      refine (b10no w _ len0 _ hb0).mono ?_
      rintro e w' ⟨rfl, rfl⟩
      go_wp2_with fail
      refine (b10yes w _ len1 _ (by omega)).mono ?_
      rintro e w' ⟨rfl, rfl⟩
      go_wp2_with fail
      go_ret
      exact ⟨rfl, Below.refl _ _⟩
  · clear hL hsh w0 w1
    go_enter Tryz.func3, Tryz.ntmps3
    go_wp2_with fail
    refine (b10yes w _ len0 _ (by omega)).mono ?_
    rintro e w' ⟨rfl, rfl⟩
    go_wp2_with fail
    go_ret
    exact ⟨rfl, Below.refl _ _⟩
end Go.Proofs.YtommcckihanedaaGreatDoor.fnUnits
