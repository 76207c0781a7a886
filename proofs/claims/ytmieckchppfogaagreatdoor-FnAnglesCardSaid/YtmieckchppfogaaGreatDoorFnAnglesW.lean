/-
  The walk of the law FnAngles and what it stands on: For every two slices of bytes (nil, shared and with spare room too) the law Angles returns true and writes nothing that was there, where the listed variables of the library hold what its text lays (tied by the card). No other condition (beyond 2^20 bytes the law itself returns true).
-/
import Derived.Test.YtmieckchppfogaaGreatDoorRows
import Derived.Test.YtmieckchppfogaaGreatDoorAgRz
import Derived.Test.YtmieckchppfogaaGreatDoorPthM
import Derived.WalkKit
import Derived.WalkSpells
import Derived.WalkLawsBesides
import Derived.Outline
import Derived.IntWalk
import Derived.Lib.Hide
import Derived.ProofKit
import Derived.OpenShut
import Derived.ShutString
import Derived.ChangeOld
import Derived.ChangeVars
import Derived.Below
import Derived.WalkSmall
import Derived.Lib.LaidTab
import Derived.LaidMore
import Derived.LaidSub
namespace Go.Proofs.YtmieckchppfogaaGreatDoor.fnAngles
open Go.ChangeShapes Go.WideShapes Go.ChangeAt Go.RowKit
open Go.ChangeMaps (open_string shut_string)
set_option linter.unusedVariables false
def IsRow (k : IntKind) (w : World) (a : Option Addr) (len cap : Nat) (zs : List Int) : Prop :=
  (a = none ∧ len = 0 ∧ cap = 0 ∧ zs = []) ∨
  ∃ x, a = some x ∧ len ≤ cap ∧ cap ≤ maxLen ∧ zs.length = cap ∧ (∀ i, i < zs.length → w.cell? (x.add i) = some (.int k (zs.getD i 0))) ∧ ∀ n ∈ zs, (Lit.int k n).wf = true
set_option maxRecDepth 100000
set_option maxHeartbeats 24000000
theorem walk (a0 : Option Addr) (len0 cap0 : Nat) (z0 : List Int) (a1 : Option Addr) (len1 cap1 : Nat) (z1 : List Int) (w : World) (w0 : IsRow .u8 w a0 len0 cap0 z0) (w1 : IsRow .u8 w a1 len1 cap1 z1) (hL : laidMetH Tryz.prog Rows.fnAnglesRow.laid w) (hsh : w.ShapedOpen Tryz.prog) :
    Calls Tryz.prog 3 #[.slice a0 len0 cap0, .slice a1 len1 cap1] w fun e w' => e = .returned (.bool true) ∧ Below w.heap.size w w' := by
  have HP := Lib.hid (pow_of hL (by kernel_rfl))
  have HE := Lib.hid (errs_of hL (by kernel_rfl) (by kernel_rfl))
  have HM := Lib.hid (maxL_of hsh)
  clear hL hsh
  by_cases hb0 : len0 ≤ 1048576
  · by_cases hb1 : len1 ≤ 1048576
    · have V0 := Lib.hid (bsOfRowA w0)
      have V1 := Lib.hid (bsOfRowA w1)
      clear w0 w1
      go_enter Tryz.func3, Tryz.ntmps3
      go_wp2_with fail
      refine (b10no w _ len0 _ hb0).mono ?_
      rintro e w' ⟨rfl, rfl⟩
      go_wp2_with fail
      refine (b10no w _ len1 _ hb1).mono ?_
      rintro e w' ⟨rfl, rfl⟩
      go_wp2_with fail
      refine (drawStopOf_any w _ len0 V0.out hb0).mono ?_
      rintro e v1 ⟨u, t, rfl, ⟨xs, hx, N, q, cp, rfl, Y0⟩, b1⟩
      have U1 : Hid (PpAt v1 (.slice (some ⟨q, 0, none⟩) xs.length cp) xs) := Lib.hid ⟨N, q, cp, rfl, Y0⟩
      have B1 := Lib.hid b1
      clear b1 Y0 V0
      have P1 := Lib.hid (fun W (h : PpAt W (.slice (some ⟨q, 0, none⟩) xs.length cp) xs) => implStopOf_any W _ xs t h (by omega))
      rcases An.ra0 xs t with ⟨c1, c2⟩ | ⟨ho, ht, ⟨c1, c2⟩ | ⟨c1, c2, s1, hst⟩⟩
      · have P2 := Lib.hid (fun W (h : PpAt W (.slice (some ⟨q, 0, none⟩) xs.length cp) xs) => implFastestAt_any W _ xs t h (by omega))
        have f1 : (Cd.cd (An.okB xs) (An.tg t) (An.sC xs t 3) == 0) = false := by simpa using c1
        have f2 : (Cd.cd (An.okB xs) (An.tg t) 0 == 0) = false := by simpa using c2
        clear c1 c2 hx
        generalize Cd.cd (An.okB xs) (An.tg t) (An.sC xs t 3) = c1 at *
        generalize Cd.cd (An.okB xs) (An.tg t) 0 = c2 at *
        generalize Cd.vl (An.okB xs) (An.tg t) (An.sV xs t) = z1 at *
        generalize Cd.vl (An.okB xs) (An.tg t) (An.be xs t (An.st xs t) : Int) = z2 at *
        generalize Cd.vl (An.okB xs) (An.tg t) (An.spd (An.mo xs t (An.st xs t))) = z3 at *
        go_wp2_with fail
        refine (P1.out _ U1.out).mono ?_
        rintro e v2 ⟨rfl, bb⟩
        have B2 := Lib.hid (bt B1.out bb)
        have U2 := Lib.hid (U1.out.below bb)
        clear bb B1 U1 P1
        go_wp2_with fail
        refine (P2.out _ U2.out).mono ?_
        rintro e v3 ⟨rfl, bb⟩
        have B3 := Lib.hid (bt B2.out bb)
        have U3 := Lib.hid (U2.out.below bb)
        clear bb B2 U2 P2
        go_wp2_with fail
        clear f1 f2 U3 HP HE HM
        refine (drawSpeedAt_any v3 _ len1 (Bs.mono (V1.out.below B3.out) B3.out.size) hb1).mono ?_
        rintro e x1 ⟨u', t', d', rfl, ⟨ys, hy, Y0⟩, bb⟩
        have BX := Lib.hid (bt B3.out bb)
        have PX := Lib.hid (raW _ u' ys t' d' Y0 hy)
        clear bb Y0 B3 V1
        go_wp2_with fail
        refine PX.out.mono ?_
        rintro e x2 ⟨z, c, rfl, hzc, bb⟩
        have BY := Lib.hid (bt BX.out bb)
        clear bb BX PX
        rcases hzc with ⟨h1, rfl⟩ | ⟨rfl, h1⟩
        · have h2 : (c != 0) = true := by simpa using h1
          have h3 : (c == 0) = false := by simpa using h1
          clear h1
          go_wp2_with fail
          go_ret
          exact ⟨rfl, BY.out⟩
        · go_wp2_with fail
          go_ret
          exact ⟨rfl, BY.out⟩
      · have f1 : (Cd.cd (An.okB xs) (An.tg t) (An.sC xs t 3) == 0) = false := by simpa using c1
        have o := An.okB_ok ho
        have n2 := o.n2
        have P2 := Lib.hid (fun W (h : PpAt W (.slice (some ⟨q, 0, none⟩) xs.length cp) xs) => raF W _ xs t h hx ho ht)
        obtain ⟨f3, f4, f5⟩ := An.vS_be o (t := t)
        have P5 := Lib.hid (fun W (h : PpAt W (.slice (some ⟨q, 0, none⟩) xs.length cp) xs) => raV W _ xs t (An.be xs t (An.st xs t) : Int) h hx ho ht f5)
        rw [f3] at P5
        have P6 := Lib.hid (fun W (h : PpAt W (.slice (some ⟨q, 0, none⟩) xs.length cp) xs) (hp : Pow W) => implPathText_any W _ xs h.sl (by omega) hp)
        have P7 := Lib.hid (fun W (hp : Pow W) (he : Errs W) (hm : MaxL W) => raR ho W hp he hm)
        have HI := Lib.hid (fun i (hi : i < xs.length) (h0 : 0 < i) => An.ra2 ho hi h0)
        have HB := Lib.hid (fun i (hi : i < xs.length) => (⟨o.dl i hi, o.dh i hi, o.hl i hi, o.h9 i hi⟩ : 0 ≤ (An.nd xs i).di ∧ (An.nd xs i).di ≤ 20000 ∧ 0 ≤ (An.nd xs i).he ∧ (An.nd xs i).he ≤ 9000))
        have PK := Lib.hid (fun W i (h : PpAt W (.slice (some ⟨q, 0, none⟩) xs.length cp) xs) hk => raK W _ xs i h hx ho hk)
        have PG := Lib.hid (fun W d (h : PpAt W (.slice (some ⟨q, 0, none⟩) xs.length cp) xs) ha => raG W _ xs d h hx ho ha)
        clear o f3 f5
        clear c1 c2
        generalize Cd.cd (An.okB xs) (An.tg t) (An.sC xs t 3) = c1 at *
        generalize Cd.vl (An.okB xs) (An.tg t) (An.sV xs t) = z1 at *
        generalize An.spd (An.mo xs t (An.st xs t)) = F at *
        generalize An.be xs t (An.st xs t) = bn at *
        have f6 : ¬ F < 0 := by omega
        go_wp2_with fail
        refine (P1.out _ U1.out).mono ?_
        rintro e v2 ⟨rfl, bb⟩
        have B2 := Lib.hid (bt B1.out bb)
        have U2 := Lib.hid (U1.out.below bb)
        clear bb B1 U1 P1
        go_wp2_with fail
        refine (P2.out _ U2.out).mono ?_
        rintro e v3 ⟨rfl, bb⟩
        have B3 := Lib.hid (bt B2.out bb)
        have U3 := Lib.hid (U2.out.below bb)
        clear bb B2 U2 P2
        go_wp2_with fail
        refine (P5.out _ U3.out).mono ?_
        rintro e v11 ⟨rfl, bb⟩
        have B11 := Lib.hid (bt B3.out bb)
        have U11 := Lib.hid (U3.out.below bb)
        clear bb B3 U3 P5
        go_wp2_with fail
        refine (P6.out _ U11.out (HP.out.below B11.out)).mono ?_
        rintro e v12 ⟨rfl, bb⟩
        have B12 := Lib.hid (bt B11.out bb)
        have U12 := Lib.hid (U11.out.below bb)
        clear bb B11 U11 P6
        go_wp2_with fail
        refine (P7.out _ (HP.out.below B12.out) (HE.out.below B12.out) (HM.out.below B12.out)).mono ?_
        rintro e v13 ⟨q2, cp2, rfl, R, bb⟩
        have B13 := Lib.hid (bt B12.out bb)
        have U13 := Lib.hid (U12.out.below bb)
        have R13 := Lib.hid R
        clear bb B12 U12 P7 R HP HE HM
        go_wp2_with fail
        go_loopw [26, 27, 28, 29, 30] (fun i _ _ _ _ wr => ∃ k : Nat, k ≤ xs.length ∧ i = .int .i64 k ∧ Hid (Below v13.heap.size v13 wr)) (fun i _ _ _ _ _ => xs.length - (intOf i).toNat)
        case atStart => exact ⟨0, Nat.zero_le _, rfl, Lib.hid (Below.refl _ _)⟩
        case round =>
          obtain ⟨k, hk, rfl, hb⟩ := hrel
          by_cases hlt : k < xs.length
          · have hltz : (k : Int) < (xs.length : Int) := by omega
            have UU := Lib.hid (U13.out.below hb.out)
            have RR := Lib.hid (R13.out.below hb.out)
            obtain ⟨c0, c1⟩ := UU.out.at2 hlt
            obtain ⟨d0, d1⟩ := RR.out.at2 hlt
            have hne := fun W => neq_same (An.nd xs k) W
            by_cases hk0 : k = 0
            · have hk0z : ¬ (0 : Int) < (k : Int) := by omega
              clear hk0 U13 R13 UU RR
              generalize An.nd xs k = x at *
              go_wp2_with fail
              go_quiet (fail)
              go_wp2_with fail
              exact ⟨⟨k + 1, by omega, by go_num, Lib.hid (by first | exact hb.out | exact below_drewN hb.out _ | exact below_drewN (below_drewN hb.out _) _)⟩, by simp only [intOf]; omega⟩
            · have hk0z : (0 : Int) < (k : Int) := by omega
              obtain ⟨a1, a2, a3, a4, a5⟩ := HI.out k hlt (by omega)
              obtain ⟨g1, g7, g2, g3⟩ := HB.out k hlt
              obtain ⟨g4, g8, g5, g6⟩ := HB.out 0 (by omega)
              have CK := Lib.hid (fun W h => PK.out W k h a1)
              have CG := Lib.hid (fun W h => PG.out W (An.nd xs k).di h a2)
              rw [a3] at CG
              have HU := Lib.hid (fun W (h : PpAt W (.slice (some ⟨q, 0, none⟩) xs.length cp) xs) => (h.at2 hlt).1)
              have HV := Lib.hid (fun W (h : PpAt W (.slice (some ⟨q, 0, none⟩) xs.length cp) xs) => (h.at2 hlt).2)
              have HZ := Lib.hid (fun W (h : PpAt W (.slice (some ⟨q, 0, none⟩) xs.length cp) xs) => (h.at2 (k := 0) (by omega)).2)
              rw [show 0 * 2 + 1 = 1 by omega] at HZ
              obtain ⟨y, y1, y2, y3⟩ := An.ab_two a4 a5
              have CA := Lib.hid (fun W => b10Abs_to _ y W (by omega) (by omega) y1)
              have UA := Lib.hid (fun n => UU.out.drewN n)
              have UB := Lib.hid (fun n => below_drewN hb.out n)
              clear U13 R13 RR a1 a2 a3 g4 g8 y1 hk0
              generalize An.tn xs k = o at *
              generalize An.nd xs k = x at *
              generalize (An.nd xs 0).he = z at *
              have hyd : decide (x.di < y * 2) = false := decide_eq_false (by omega)
              have w1 : IntKind.i64.wrap (o * x.di) = o * x.di := wrap_in (by omega) (by omega)
              have w2 : IntKind.i64.wrap (1000 * x.he) = 1000 * x.he := wrap_in (by omega) (by omega)
              have hh : ((1000 * x.he : Int) != 1000 * x.he) = false := by simp
              go_wp2_with fail
              go_quiet (fail)
              go_wp2_with fail
              refine (CK.out _ (by first | exact UU.out | exact UA.out _)).mono ?_
              rintro e y1 ⟨rfl, bb⟩
              have U2 := Lib.hid ((by first | exact UU.out | exact UA.out _ : PpAt _ (.slice (some ⟨q, 0, none⟩) xs.length cp) xs).below bb)
              have b2 := Lib.hid (bt (by first | exact hb.out | exact UB.out _ : Below v13.heap.size v13 _) bb)
              clear bb c0 c1 d0 d1 UU UA UB hb CK
              have c0 := HU.out _ U2.out
              go_wp2_with fail
              refine (CG.out _ U2.out).mono ?_
              rintro e y2 ⟨rfl, bb⟩
              have U3 := Lib.hid (U2.out.below bb)
              have b3 := Lib.hid (bt b2.out bb)
              clear bb c0 U2 b2 CG
              have c0 := HU.out _ U3.out
              have c1 := HV.out _ U3.out
              have c2 := HZ.out _ U3.out
              go_wp2_with fail
              go_quiet ((go_at_call 14; exact Calls.quiet_of_same ((CA.out _).mono fun _ _ ⟨h, h'⟩ => ⟨h, h'.symm⟩)))
              go_wp2_with fail
              exact ⟨⟨k + 1, by omega, by go_num, Lib.hid (by first | exact b3.out | exact below_drewN b3.out _ | exact below_drewN (below_drewN b3.out _) _)⟩, by simp only [intOf]; omega⟩
          · have hltz : ¬ (k : Int) < (xs.length : Int) := by omega
            have BZ := Lib.hid (bt B13.out hb.out)
            clear U13 R13 B13 hb HI HB PK PG
            go_wp2_with fail
            refine (drawSpeedAt_any wr _ len1 (Bs.mono (V1.out.below BZ.out) BZ.out.size) hb1).mono ?_
            rintro e x1 ⟨u', t', d', rfl, ⟨ys, hy, Y0⟩, bb⟩
            have BX := Lib.hid (bt BZ.out bb)
            have PX := Lib.hid (raW _ u' ys t' d' Y0 hy)
            clear bb Y0 BZ V1
            go_wp2_with fail
            refine PX.out.mono ?_
            rintro e x2 ⟨z, c, rfl, hzc, bb⟩
            have BY := Lib.hid (bt BX.out bb)
            clear bb BX PX
            rcases hzc with ⟨h1, rfl⟩ | ⟨rfl, h1⟩
            · have h2 : (c != 0) = true := by simpa using h1
              have h3 : (c == 0) = false := by simpa using h1
              clear h1
              go_wp2_with fail
              go_ret
              exact ⟨rfl, BY.out⟩
            · go_wp2_with fail
              go_ret
              exact ⟨rfl, BY.out⟩
      · obtain ⟨s, e1, s2, s3, k1, k2, k3, k4, k5, k6⟩ := An.ra4 ho hst
        have o := An.okB_ok ho
        have n2 := o.n2
        have P2 := Lib.hid (fun W (h : PpAt W (.slice (some ⟨q, 0, none⟩) xs.length cp) xs) => raF W _ xs t h hx ho ht)
        obtain ⟨f3, f4, f5⟩ := An.vS_be o (t := t)
        have P5 := Lib.hid (fun W (h : PpAt W (.slice (some ⟨q, 0, none⟩) xs.length cp) xs) => raV W _ xs t (An.be xs t (An.st xs t) : Int) h hx ho ht f5)
        rw [f3] at P5
        have P6 := Lib.hid (fun W (h : PpAt W (.slice (some ⟨q, 0, none⟩) xs.length cp) xs) (hp : Pow W) => implPathText_any W _ xs h.sl (by omega) hp)
        have P7 := Lib.hid (fun W (hp : Pow W) (he : Errs W) (hm : MaxL W) => raR ho W hp he hm)
        have HI := Lib.hid (fun i (hi : i < xs.length) (h0 : 0 < i) => An.ra2 ho hi h0)
        have HB := Lib.hid (fun i (hi : i < xs.length) => (⟨o.dl i hi, o.dh i hi, o.hl i hi, o.h9 i hi⟩ : 0 ≤ (An.nd xs i).di ∧ (An.nd xs i).di ≤ 20000 ∧ 0 ≤ (An.nd xs i).he ∧ (An.nd xs i).he ≤ 9000))
        have PK := Lib.hid (fun W i (h : PpAt W (.slice (some ⟨q, 0, none⟩) xs.length cp) xs) hk => raK W _ xs i h hx ho hk)
        have PG := Lib.hid (fun W d (h : PpAt W (.slice (some ⟨q, 0, none⟩) xs.length cp) xs) ha => raG W _ xs d h hx ho ha)
        clear o f3 f5
        rw [c1, s1, e1] at P1
        have Q1 := Lib.hid (fun W (h : PpAt W (.slice (some ⟨q, 0, none⟩) xs.length cp) xs) => raG W _ xs s h hx ho k1)
        have Q2 := Lib.hid (fun W (h : PpAt W (.slice (some ⟨q, 0, none⟩) xs.length cp) xs) => raL W _ xs t s h hx ho ht k1)
        have Q3 := Lib.hid (fun W (h : PpAt W (.slice (some ⟨q, 0, none⟩) xs.length cp) xs) => raV W _ xs t s h hx ho ht k1)
        have Q4 := Lib.hid (fun W (h : PpAt W (.slice (some ⟨q, 0, none⟩) xs.length cp) xs) => raG W _ xs (s - 1) h hx ho k5)
        have Q5 := Lib.hid (fun W (h : PpAt W (.slice (some ⟨q, 0, none⟩) xs.length cp) xs) => raL W _ xs t (s - 1) h hx ho ht k5)
        rw [k2] at Q3
        clear c1 c2 s1 k1 k2 k5 hst
        generalize An.spd (An.mo xs t (An.st xs t)) = F at *
        generalize An.be xs t (An.st xs t) = bn at *
        have f6 : ¬ F < 0 := by omega
        clear e1
        generalize An.gr xs s = gg at *
        generalize An.en xs t s = ll at *
        generalize An.gr xs (s - 1) = g2 at *
        generalize An.en xs t (s - 1) = l2 at *
        have r1 : ¬ s < 1 := by omega
        have r2 : ¬ gg < ll := by omega
        have r3 : ¬ s ≤ (bn : Int) := by omega
        have r4 : ¬ (bn : Int) < 0 := by omega
        clear k3 k4
        go_wp2_with fail
        refine (P1.out _ U1.out).mono ?_
        rintro e v2 ⟨rfl, bb⟩
        have B2 := Lib.hid (bt B1.out bb)
        have U2 := Lib.hid (U1.out.below bb)
        clear bb B1 U1 P1
        go_wp2_with fail
        refine (P2.out _ U2.out).mono ?_
        rintro e v3 ⟨rfl, bb⟩
        have B3 := Lib.hid (bt B2.out bb)
        have U3 := Lib.hid (U2.out.below bb)
        clear bb B2 U2 P2
        go_wp2_with fail
        refine (Q1.out _ U3.out).mono ?_
        rintro e v4 ⟨rfl, bb⟩
        have B4 := Lib.hid (bt B3.out bb)
        have U4 := Lib.hid (U3.out.below bb)
        clear bb B3 U3 Q1
        go_wp2_with fail
        refine (Q2.out _ U4.out).mono ?_
        rintro e v5 ⟨rfl, bb⟩
        have B5 := Lib.hid (bt B4.out bb)
        have U5 := Lib.hid (U4.out.below bb)
        clear bb B4 U4 Q2
        go_wp2_with fail
        refine (Q3.out _ U5.out).mono ?_
        rintro e v6 ⟨rfl, bb⟩
        have B6 := Lib.hid (bt B5.out bb)
        have U6 := Lib.hid (U5.out.below bb)
        clear bb B5 U5 Q3
        by_cases h1s : 1 < s
        · have r5 : ¬ l2 ≤ g2 := by have := k6 h1s; omega
          clear k6
          go_wp2_with fail
          refine (Q4.out _ U6.out).mono ?_
          rintro e v7 ⟨rfl, bb⟩
          have B7 := Lib.hid (bt B6.out bb)
          have U7 := Lib.hid (U6.out.below bb)
          clear bb B6 U6 Q4
          go_wp2_with fail
          refine (Q5.out _ U7.out).mono ?_
          rintro e v8 ⟨rfl, bb⟩
          have B8 := Lib.hid (bt B7.out bb)
          have U8 := Lib.hid (U7.out.below bb)
          clear bb B7 U7 Q5
          go_wp2_with fail
          clear r1 r2 r3 r4 r5 h1s
          refine (P5.out _ U8.out).mono ?_
          rintro e v11 ⟨rfl, bb⟩
          have B11 := Lib.hid (bt B8.out bb)
          have U11 := Lib.hid (U8.out.below bb)
          clear bb B8 U8 P5
          go_wp2_with fail
          refine (P6.out _ U11.out (HP.out.below B11.out)).mono ?_
          rintro e v12 ⟨rfl, bb⟩
          have B12 := Lib.hid (bt B11.out bb)
          have U12 := Lib.hid (U11.out.below bb)
          clear bb B11 U11 P6
          go_wp2_with fail
          refine (P7.out _ (HP.out.below B12.out) (HE.out.below B12.out) (HM.out.below B12.out)).mono ?_
          rintro e v13 ⟨q2, cp2, rfl, R, bb⟩
          have B13 := Lib.hid (bt B12.out bb)
          have U13 := Lib.hid (U12.out.below bb)
          have R13 := Lib.hid R
          clear bb B12 U12 P7 R HP HE HM
          go_wp2_with fail
          go_loopw [26, 27, 28, 29, 30] (fun i _ _ _ _ wr => ∃ k : Nat, k ≤ xs.length ∧ i = .int .i64 k ∧ Hid (Below v13.heap.size v13 wr)) (fun i _ _ _ _ _ => xs.length - (intOf i).toNat)
          case atStart => exact ⟨0, Nat.zero_le _, rfl, Lib.hid (Below.refl _ _)⟩
          case round =>
            obtain ⟨k, hk, rfl, hb⟩ := hrel
            by_cases hlt : k < xs.length
            · have hltz : (k : Int) < (xs.length : Int) := by omega
              have UU := Lib.hid (U13.out.below hb.out)
              have RR := Lib.hid (R13.out.below hb.out)
              obtain ⟨c0, c1⟩ := UU.out.at2 hlt
              obtain ⟨d0, d1⟩ := RR.out.at2 hlt
              have hne := fun W => neq_same (An.nd xs k) W
              by_cases hk0 : k = 0
              · have hk0z : ¬ (0 : Int) < (k : Int) := by omega
                clear hk0 U13 R13 UU RR
                generalize An.nd xs k = x at *
                go_wp2_with fail
                go_quiet (fail)
                go_wp2_with fail
                exact ⟨⟨k + 1, by omega, by go_num, Lib.hid (by first | exact hb.out | exact below_drewN hb.out _ | exact below_drewN (below_drewN hb.out _) _)⟩, by simp only [intOf]; omega⟩
              · have hk0z : (0 : Int) < (k : Int) := by omega
                obtain ⟨a1, a2, a3, a4, a5⟩ := HI.out k hlt (by omega)
                obtain ⟨g1, g7, g2, g3⟩ := HB.out k hlt
                obtain ⟨g4, g8, g5, g6⟩ := HB.out 0 (by omega)
                have CK := Lib.hid (fun W h => PK.out W k h a1)
                have CG := Lib.hid (fun W h => PG.out W (An.nd xs k).di h a2)
                rw [a3] at CG
                have HU := Lib.hid (fun W (h : PpAt W (.slice (some ⟨q, 0, none⟩) xs.length cp) xs) => (h.at2 hlt).1)
                have HV := Lib.hid (fun W (h : PpAt W (.slice (some ⟨q, 0, none⟩) xs.length cp) xs) => (h.at2 hlt).2)
                have HZ := Lib.hid (fun W (h : PpAt W (.slice (some ⟨q, 0, none⟩) xs.length cp) xs) => (h.at2 (k := 0) (by omega)).2)
                rw [show 0 * 2 + 1 = 1 by omega] at HZ
                obtain ⟨y, y1, y2, y3⟩ := An.ab_two a4 a5
                have CA := Lib.hid (fun W => b10Abs_to _ y W (by omega) (by omega) y1)
                have UA := Lib.hid (fun n => UU.out.drewN n)
                have UB := Lib.hid (fun n => below_drewN hb.out n)
                clear U13 R13 RR a1 a2 a3 g4 g8 y1 hk0
                generalize An.tn xs k = o at *
                generalize An.nd xs k = x at *
                generalize (An.nd xs 0).he = z at *
                have hyd : decide (x.di < y * 2) = false := decide_eq_false (by omega)
                have w1 : IntKind.i64.wrap (o * x.di) = o * x.di := wrap_in (by omega) (by omega)
                have w2 : IntKind.i64.wrap (1000 * x.he) = 1000 * x.he := wrap_in (by omega) (by omega)
                have hh : ((1000 * x.he : Int) != 1000 * x.he) = false := by simp
                go_wp2_with fail
                go_quiet (fail)
                go_wp2_with fail
                refine (CK.out _ (by first | exact UU.out | exact UA.out _)).mono ?_
                rintro e y1 ⟨rfl, bb⟩
                have U2 := Lib.hid ((by first | exact UU.out | exact UA.out _ : PpAt _ (.slice (some ⟨q, 0, none⟩) xs.length cp) xs).below bb)
                have b2 := Lib.hid (bt (by first | exact hb.out | exact UB.out _ : Below v13.heap.size v13 _) bb)
                clear bb c0 c1 d0 d1 UU UA UB hb CK
                have c0 := HU.out _ U2.out
                go_wp2_with fail
                refine (CG.out _ U2.out).mono ?_
                rintro e y2 ⟨rfl, bb⟩
                have U3 := Lib.hid (U2.out.below bb)
                have b3 := Lib.hid (bt b2.out bb)
                clear bb c0 U2 b2 CG
                have c0 := HU.out _ U3.out
                have c1 := HV.out _ U3.out
                have c2 := HZ.out _ U3.out
                go_wp2_with fail
                go_quiet ((go_at_call 14; exact Calls.quiet_of_same ((CA.out _).mono fun _ _ ⟨h, h'⟩ => ⟨h, h'.symm⟩)))
                go_wp2_with fail
                exact ⟨⟨k + 1, by omega, by go_num, Lib.hid (by first | exact b3.out | exact below_drewN b3.out _ | exact below_drewN (below_drewN b3.out _) _)⟩, by simp only [intOf]; omega⟩
            · have hltz : ¬ (k : Int) < (xs.length : Int) := by omega
              have BZ := Lib.hid (bt B13.out hb.out)
              clear U13 R13 B13 hb HI HB PK PG
              go_wp2_with fail
              refine (drawSpeedAt_any wr _ len1 (Bs.mono (V1.out.below BZ.out) BZ.out.size) hb1).mono ?_
              rintro e x1 ⟨u', t', d', rfl, ⟨ys, hy, Y0⟩, bb⟩
              have BX := Lib.hid (bt BZ.out bb)
              have PX := Lib.hid (raW _ u' ys t' d' Y0 hy)
              clear bb Y0 BZ V1
              go_wp2_with fail
              refine PX.out.mono ?_
              rintro e x2 ⟨z, c, rfl, hzc, bb⟩
              have BY := Lib.hid (bt BX.out bb)
              clear bb BX PX
              rcases hzc with ⟨h1, rfl⟩ | ⟨rfl, h1⟩
              · have h2 : (c != 0) = true := by simpa using h1
                have h3 : (c == 0) = false := by simpa using h1
                clear h1
                go_wp2_with fail
                go_ret
                exact ⟨rfl, BY.out⟩
              · go_wp2_with fail
                go_ret
                exact ⟨rfl, BY.out⟩
        · clear k6 Q4 Q5
          go_wp2_with fail
          clear r1 r2 r3 r4 h1s
          refine (P5.out _ U6.out).mono ?_
          rintro e v11 ⟨rfl, bb⟩
          have B11 := Lib.hid (bt B6.out bb)
          have U11 := Lib.hid (U6.out.below bb)
          clear bb B6 U6 P5
          go_wp2_with fail
          refine (P6.out _ U11.out (HP.out.below B11.out)).mono ?_
          rintro e v12 ⟨rfl, bb⟩
          have B12 := Lib.hid (bt B11.out bb)
          have U12 := Lib.hid (U11.out.below bb)
          clear bb B11 U11 P6
          go_wp2_with fail
          refine (P7.out _ (HP.out.below B12.out) (HE.out.below B12.out) (HM.out.below B12.out)).mono ?_
          rintro e v13 ⟨q2, cp2, rfl, R, bb⟩
          have B13 := Lib.hid (bt B12.out bb)
          have U13 := Lib.hid (U12.out.below bb)
          have R13 := Lib.hid R
          clear bb B12 U12 P7 R HP HE HM
          go_wp2_with fail
          go_loopw [26, 27, 28, 29, 30] (fun i _ _ _ _ wr => ∃ k : Nat, k ≤ xs.length ∧ i = .int .i64 k ∧ Hid (Below v13.heap.size v13 wr)) (fun i _ _ _ _ _ => xs.length - (intOf i).toNat)
          case atStart => exact ⟨0, Nat.zero_le _, rfl, Lib.hid (Below.refl _ _)⟩
          case round =>
            obtain ⟨k, hk, rfl, hb⟩ := hrel
            by_cases hlt : k < xs.length
            · have hltz : (k : Int) < (xs.length : Int) := by omega
              have UU := Lib.hid (U13.out.below hb.out)
              have RR := Lib.hid (R13.out.below hb.out)
              obtain ⟨c0, c1⟩ := UU.out.at2 hlt
              obtain ⟨d0, d1⟩ := RR.out.at2 hlt
              have hne := fun W => neq_same (An.nd xs k) W
              by_cases hk0 : k = 0
              · have hk0z : ¬ (0 : Int) < (k : Int) := by omega
                clear hk0 U13 R13 UU RR
                generalize An.nd xs k = x at *
                go_wp2_with fail
                go_quiet (fail)
                go_wp2_with fail
                exact ⟨⟨k + 1, by omega, by go_num, Lib.hid (by first | exact hb.out | exact below_drewN hb.out _ | exact below_drewN (below_drewN hb.out _) _)⟩, by simp only [intOf]; omega⟩
              · have hk0z : (0 : Int) < (k : Int) := by omega
                obtain ⟨a1, a2, a3, a4, a5⟩ := HI.out k hlt (by omega)
                obtain ⟨g1, g7, g2, g3⟩ := HB.out k hlt
                obtain ⟨g4, g8, g5, g6⟩ := HB.out 0 (by omega)
                have CK := Lib.hid (fun W h => PK.out W k h a1)
                have CG := Lib.hid (fun W h => PG.out W (An.nd xs k).di h a2)
                rw [a3] at CG
                have HU := Lib.hid (fun W (h : PpAt W (.slice (some ⟨q, 0, none⟩) xs.length cp) xs) => (h.at2 hlt).1)
                have HV := Lib.hid (fun W (h : PpAt W (.slice (some ⟨q, 0, none⟩) xs.length cp) xs) => (h.at2 hlt).2)
                have HZ := Lib.hid (fun W (h : PpAt W (.slice (some ⟨q, 0, none⟩) xs.length cp) xs) => (h.at2 (k := 0) (by omega)).2)
                rw [show 0 * 2 + 1 = 1 by omega] at HZ
                obtain ⟨y, y1, y2, y3⟩ := An.ab_two a4 a5
                have CA := Lib.hid (fun W => b10Abs_to _ y W (by omega) (by omega) y1)
                have UA := Lib.hid (fun n => UU.out.drewN n)
                have UB := Lib.hid (fun n => below_drewN hb.out n)
                clear U13 R13 RR a1 a2 a3 g4 g8 y1 hk0
                generalize An.tn xs k = o at *
                generalize An.nd xs k = x at *
                generalize (An.nd xs 0).he = z at *
                have hyd : decide (x.di < y * 2) = false := decide_eq_false (by omega)
                have w1 : IntKind.i64.wrap (o * x.di) = o * x.di := wrap_in (by omega) (by omega)
                have w2 : IntKind.i64.wrap (1000 * x.he) = 1000 * x.he := wrap_in (by omega) (by omega)
                have hh : ((1000 * x.he : Int) != 1000 * x.he) = false := by simp
                go_wp2_with fail
                go_quiet (fail)
                go_wp2_with fail
                refine (CK.out _ (by first | exact UU.out | exact UA.out _)).mono ?_
                rintro e y1 ⟨rfl, bb⟩
                have U2 := Lib.hid ((by first | exact UU.out | exact UA.out _ : PpAt _ (.slice (some ⟨q, 0, none⟩) xs.length cp) xs).below bb)
                have b2 := Lib.hid (bt (by first | exact hb.out | exact UB.out _ : Below v13.heap.size v13 _) bb)
                clear bb c0 c1 d0 d1 UU UA UB hb CK
                have c0 := HU.out _ U2.out
                go_wp2_with fail
                refine (CG.out _ U2.out).mono ?_
                rintro e y2 ⟨rfl, bb⟩
                have U3 := Lib.hid (U2.out.below bb)
                have b3 := Lib.hid (bt b2.out bb)
                clear bb c0 U2 b2 CG
                have c0 := HU.out _ U3.out
                have c1 := HV.out _ U3.out
                have c2 := HZ.out _ U3.out
                go_wp2_with fail
                go_quiet ((go_at_call 14; exact Calls.quiet_of_same ((CA.out _).mono fun _ _ ⟨h, h'⟩ => ⟨h, h'.symm⟩)))
                go_wp2_with fail
                exact ⟨⟨k + 1, by omega, by go_num, Lib.hid (by first | exact b3.out | exact below_drewN b3.out _ | exact below_drewN (below_drewN b3.out _) _)⟩, by simp only [intOf]; omega⟩
            · have hltz : ¬ (k : Int) < (xs.length : Int) := by omega
              have BZ := Lib.hid (bt B13.out hb.out)
              clear U13 R13 B13 hb HI HB PK PG
              go_wp2_with fail
              refine (drawSpeedAt_any wr _ len1 (Bs.mono (V1.out.below BZ.out) BZ.out.size) hb1).mono ?_
              rintro e x1 ⟨u', t', d', rfl, ⟨ys, hy, Y0⟩, bb⟩
              have BX := Lib.hid (bt BZ.out bb)
              have PX := Lib.hid (raW _ u' ys t' d' Y0 hy)
              clear bb Y0 BZ V1
              go_wp2_with fail
              refine PX.out.mono ?_
              rintro e x2 ⟨z, c, rfl, hzc, bb⟩
              have BY := Lib.hid (bt BX.out bb)
              clear bb BX PX
              rcases hzc with ⟨h1, rfl⟩ | ⟨rfl, h1⟩
              · have h2 : (c != 0) = true := by simpa using h1
                have h3 : (c == 0) = false := by simpa using h1
                clear h1
                go_wp2_with fail
                go_ret
                exact ⟨rfl, BY.out⟩
              · go_wp2_with fail
                go_ret
                exact ⟨rfl, BY.out⟩
    · clear w0 w1 HP HE HM
      go_enter Tryz.func3, Tryz.ntmps3
      go_wp2_with fail
      refine (b10no w _ len0 _ hb0).mono ?_
      rintro e w' ⟨rfl, rfl⟩
      go_wp2_with fail
      refine (b10yes w _ len1 _ (by omega)).mono ?_
      rintro e w' ⟨rfl, rfl⟩
      go_wp2_with fail
      go_ret
      exact ⟨rfl, Below.refl _ _⟩
  · clear w0 w1 HP HE HM
    go_enter Tryz.func3, Tryz.ntmps3
    go_wp2_with fail
    refine (b10yes w _ len0 _ (by omega)).mono ?_
    rintro e w' ⟨rfl, rfl⟩
    go_wp2_with fail
    go_ret
    exact ⟨rfl, Below.refl _ _⟩
end Go.Proofs.YtmieckchppfogaaGreatDoor.fnAngles
