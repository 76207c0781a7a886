/-
  The walk of the law FnExactValidAssets and what it stands on: For every grid and every slice of assets (slices nil, shared and with spare room too; names of any bytes) the program's ValidAssets answers as its model and leaves its arguments as they were: the law returns true and writes nothing that was there. No condition (beyond 2^20 heights, assets, cells and bytes of names together the law itself returns true).
-/
import Derived.Test.YtaldmdammipfjaaRows
import Derived.Test.YtaldmdammipfjaaExB
import Derived.Test.YtaldmdammipfjaaAstL
import Derived.Test.YtaldmdammipfjaaGdO
import Derived.Test.YtaldmdammipfjaaAstS
import Derived.WalkKit
import Derived.WalkSpells
import Derived.WalkLawsBesides
import Derived.Outline
import Derived.IntWalk
import Derived.Lib.Hide
import Derived.ProofKit
import Derived.OpenShut
import Derived.ShutString
import Derived.ChangeOld
import Derived.ChangeVars
import Derived.Below
import Derived.WalkSmall
namespace Go.Proofs.Ytaldmdammipfjaa.fnExactValidAssets
open Go.ChangeShapes Go.WideShapes Go.ChangeAt Go.RowKit
open Go.ChangeMaps (open_string shut_string)
set_option linter.unusedVariables false
set_option maxRecDepth 100000
set_option maxHeartbeats 6400000
theorem walk (r0 c0 s0 : Int) (a0 : Option Addr) (cap0 : Nat) (xs0 : List Int) (a1 : Option Addr) (cap1 : Nat) (xs1 : List Ast) (w : World) (w0 : Sl w (.slice a0 xs0.length cap0) xs0) (m0 : xs0.length ≤ maxLen) (wr0 : (Lit.int .i64 r0).wf = true) (wc0 : (Lit.int .i64 c0).wf = true) (ws0 : (Lit.int .i64 s0).wf = true) (w1 : AsSl w (.slice a1 xs1.length cap1) xs1) (m1 : xs1.length ≤ maxLen) (bd1 : ∀ x ∈ xs1, As.Bd x) :
    Calls Try.prog 3 #[.agg #[.int .i64 r0, .int .i64 c0, .int .i64 s0, .slice a0 xs0.length cap0], .slice a1 xs1.length cap1] w fun e w' => e = .returned (.bool true) ∧ Below w.heap.size w w' := by
  unfold maxLen at m0 m1
  by_cases hb0 : xs0.length ≤ 1048576
  · have hl0 : xs0.length ≤ 1048576 := by omega
    have hn0 : ¬ (1048576 : Int) - xs0.length < 0 := by omega
    have HB0 := Lib.hid (boxG_below w r0 c0 s0 (.slice a0 xs0.length cap0) 24)
    have HV0 := Lib.hid (w0.below HB0.out)
    have K0 := Lib.hid (boxG_cells w r0 c0 s0 (.slice a0 xs0.length cap0) 24)
    by_cases hb1 : xs1.length + As.szl xs1 ≤ 1048576 - xs0.length
    · have hl1 : xs1.length ≤ 1048576 := by omega
      have hi1 : As.Sh xs1 := As.sh_of (by omega)
      have hz1 : As.szl xs1 ≤ 1048576 := by omega
      have hn1 : ¬ (1048576 : Int) - xs0.length - xs1.length - As.szl xs1 < 0 := by omega
      have HV1 := Lib.hid (w1.below HB0.out)
      have Z0 := Lib.hid (szGrid_in (boxG w r0 c0 s0 (.slice a0 xs0.length cap0) 24) r0 c0 s0 a0 xs0.length cap0 (1048576 : Int) (by omega) (by omega))
      have Z1 := Lib.hid (fun W h => szAssetS_in W _ xs1 (HV1.out.below h) (fun x _ W u h => h.form) ((1048576 : Int) - xs0.length) (by omega) (by omega))
      clear w0 w1 hb1 
      go_enter Try.func3, Try.ntmps3
      go_wp2_with fail
      refine Z0.out.mono ?_
      rintro e v0 ⟨rfl, b0⟩
      have B0 := Lib.hid b0
      have zz0 := Lib.hid b0.size
      clear b0 Z0
      go_wp2_with fail
      refine (Z1.out _ B0.out).mono ?_
      rintro e v1 ⟨rfl, b1⟩
      have B1 := Lib.hid (bt B0.out b1)
      have zz1 := Lib.hid b1.size
      clear b1 Z1
      obtain ⟨qc0, qc1, qc2, qc3⟩ := (K0.out.all B1.out).four
      have qlt := (K0.out.all B1.out).lt
      go_wp2_with fail
      refine (toGrid_at v1 r0 c0 s0 _ xs0 (HV0.out.below B1.out) hl0).mono ?_
      rintro e v2 ⟨g2, rfl, hg2, hgl2, o2, b2⟩
      clear qc0 qc1 qc2 qc3 qlt
      have zz2 := Lib.hid b2.size
      have B2 := Lib.hid (bt B1.out b2)
      have p_r := Lib.hid o2
      have hgg2 := Lib.hid hg2
      have hgs2 := Lib.hid hgl2
      clear o2 b2 hg2 hgl2
      go_wp2_with fail
      refine (toAssetS_at v2 _ xs1 (HV1.out.below B2.out) hl1 hi1).mono ?_
      rintro e v3 ⟨rfl, o3, b3⟩
      have zz3 := Lib.hid b3.size
      have B3 := Lib.hid (bt B2.out b3)
      have p_3 := Lib.hid (p_r.out.belowAll b3)
      clear p_r
      have p1_r := Lib.hid o3
      clear o3 b3
      go_wp2_with fail
      refine (specValidAssets_any v3 r0 c0 s0 _ xs0 _ xs1 p_3.out.sl hl0 p1_r.out.sl hl1 hi1 ).mono ?_
      rintro e v4 ⟨rfl, b4⟩
      clear p_3
      clear p1_r
      have zz4 := Lib.hid b4.size
      have B4 := Lib.hid (bt B3.out b4)
      clear b4
      obtain ⟨qc0, qc1, qc2, qc3⟩ := (K0.out.all B4.out).four
      have qlt := (K0.out.all B4.out).lt
      go_wp2_with fail
      refine (toGrid_at v4 r0 c0 s0 _ xs0 (HV0.out.below B4.out) hl0).mono ?_
      rintro e v5 ⟨g5, rfl, hg5, hgl5, o5, b5⟩
      clear qc0 qc1 qc2 qc3 qlt
      have zz5 := Lib.hid b5.size
      have B5 := Lib.hid (bt B4.out b5)
      have x_r := Lib.hid o5
      have hgg5 := Lib.hid hg5
      have hgs5 := Lib.hid hgl5
      clear o5 b5 hg5 hgl5
      have bxxx := Lib.hid (boxG_below v5 r0 c0 s0 (.slice (some ⟨g5, 0, none⟩) xs0.length xs0.length) 29)
      have x_5b := Lib.hid (x_r.out.belowAll bxxx.out)
      clear x_r
      have xx_b := Lib.hid (boxG_cells v5 r0 c0 s0 (.slice (some ⟨g5, 0, none⟩) xs0.length xs0.length) 29)
      have zzbxx : Hid (v5.heap.size + 1 = (boxG v5 r0 c0 s0 (.slice (some ⟨g5, 0, none⟩) xs0.length xs0.length) 29).heap.size) := Lib.hid (boxG_size v5 r0 c0 s0 (.slice (some ⟨g5, 0, none⟩) xs0.length xs0.length) 29).symm
      have BBxx := Lib.hid (bt B5.out bxxx.out)
      go_wp2_with fail
      refine (toAssetS_at (boxG v5 r0 c0 s0 (.slice (some ⟨g5, 0, none⟩) xs0.length xs0.length) 29) _ xs1 (HV1.out.below BBxx.out) hl1 hi1).mono ?_
      rintro e v6 ⟨rfl, o6, b6⟩
      have zz6 := Lib.hid b6.size
      have B6 := Lib.hid (bt BBxx.out b6)
      have x_6 := Lib.hid (x_5b.out.belowAll b6)
      clear x_5b
      have xx_6 := Lib.hid (xx_b.out.all b6)
      clear xx_b
      have x1_r := Lib.hid o6
      clear o6 b6
      obtain ⟨xc0, xc1, xc2, xc3⟩ := (xx_6.out).four
      have xlt := (xx_6.out).lt
      go_wp2_with fail
      refine (implValidAssets_any v6 r0 c0 s0 _ xs0 _ xs1 x_6.out.sl hl0 x1_r.out.sl hl1 hi1 ).mono ?_
      rintro e v7 ⟨rfl, b7⟩
      clear xc0 xc1 xc2 xc3 xlt
      have zz7 := Lib.hid b7.size
      have B7 := Lib.hid (bt B6.out b7)
      have x_7 := Lib.hid (x_6.out.belowAll b7)
      clear x_6
      have xx_7 := Lib.hid (xx_6.out.all b7)
      clear xx_6
      have x1_7 := Lib.hid (x1_r.out.belowAll b7)
      clear x1_r
      clear b7
      have KQ : Hid (∀ W, Below v7.heap.size v7 W → GC W w.heap.size r0 c0 s0 (.slice a0 xs0.length cap0)) := Lib.hid (fun W h => (K0.out.all B7.out).all h)
      have KX : Hid (∀ W, Below v7.heap.size v7 W → GC W v5.heap.size r0 c0 s0 (.slice (some ⟨g5, 0, none⟩) xs0.length xs0.length)) := Lib.hid (fun W h => xx_7.out.all h)
      have T1 : Hid (∀ W, Below v7.heap.size v7 W → Calls Try.prog 11 #[.agg #[.int .i64 r0, .int .i64 c0, .int .i64 s0, .slice a0 xs0.length cap0]] W fun e w' => ∃ g, e = .returned (.agg #[.int .i64 r0, .int .i64 c0, .int .i64 s0, .slice (some ⟨g, 0, none⟩) xs0.length xs0.length]) ∧ W.heap.size ≤ g ∧ g < w'.heap.size ∧ Own W.heap.size w' (.slice (some ⟨g, 0, none⟩) xs0.length xs0.length) xs0 ∧ Below W.heap.size W w') := Lib.hid (fun W h => toGrid_at W r0 c0 s0 _ xs0 (HV0.out.below (bt B7.out h)) hl0)
      have T2 : Hid (∀ W u, Below v7.heap.size v7 W → Sl W u xs0 → Calls Try.prog 14 #[.agg #[.int .i64 r0, .int .i64 c0, .int .i64 s0, .slice (some ⟨g5, 0, none⟩) xs0.length xs0.length], .agg #[.int .i64 r0, .int .i64 c0, .int .i64 s0, u]] W fun e w' => e = .returned (.bool true) ∧ Below W.heap.size W w') := Lib.hid (fun W u h hs => eqGrid_self W r0 c0 s0 _ u xs0 (x_7.out.sl.below h) hs hl0)
      obtain ⟨kc0, kc1, kc2, kc3⟩ := (KQ.out _ (Below.refl _ _)).four
      obtain ⟨xc0, xc1, xc2, xc3⟩ := (KX.out _ (Below.refl _ _)).four
      have hklt := (KQ.out _ (Below.refl _ _)).lt
      have hxlt := (KX.out _ (Below.refl _ _)).lt
      go_wp2_with fail
      go_region_held3 (fun w' => w'.cell? ⟨w.heap.size, 0, none⟩ = some (.int .i64 r0) ∧ w'.cell? ⟨w.heap.size, 1, none⟩ = some (.int .i64 c0) ∧ w'.cell? ⟨w.heap.size, 2, none⟩ = some (.int .i64 s0) ∧ w'.cell? ⟨w.heap.size, 3, none⟩ = some (.slice a0 xs0.length cap0) ∧ w'.cell? ⟨v5.heap.size, 0, none⟩ = some (.int .i64 r0) ∧ w'.cell? ⟨v5.heap.size, 1, none⟩ = some (.int .i64 c0) ∧ w'.cell? ⟨v5.heap.size, 2, none⟩ = some (.int .i64 s0) ∧ w'.cell? ⟨v5.heap.size, 3, none⟩ = some (.slice (some ⟨g5, 0, none⟩) xs0.length xs0.length)) (go_keep)
        (first
          | (go_at_call 11; refine (T1.out _ (by first | exact bdr1 _ | exact Below.refl _ _)).mono ?_; rintro e vA ⟨gA, rfl, -, -, oA, bA⟩; have bA0 : Below v7.heap.size v7 vA := (by first | exact bt (bdr1 _) bA | exact bA); obtain ⟨lc0, lc1, lc2, lc3⟩ := (KQ.out vA bA0).four; obtain ⟨yc0, yc1, yc2, yc3⟩ := (KX.out vA bA0).four)
          | (go_at_call 14; refine (T2.out _ _ (by first | exact bA0 | exact bt bA0 (bdr1 _)) (by first | exact oA.sl | exact (oA.drewN 1).sl)).mono ?_; rintro e v8 ⟨rfl, bC⟩; have b8 : Below v7.heap.size v7 v8 := (by first | exact bt bA0 bC | exact bt (bt bA0 (bdr1 _)) bC); obtain ⟨zc0, zc1, zc2, zc3⟩ := (KQ.out v8 b8).four; obtain ⟨tc0, tc1, tc2, tc3⟩ := (KX.out v8 b8).four))
      all_goals (
        try clear KQ KX T1 T2 oA bA bA0 bC kc0 kc1 kc2 kc3 xc0 xc1 xc2 xc3 lc0 lc1 lc2 lc3 yc0 yc1 yc2 yc3 zc0 zc1 zc2 zc3 tc0 tc1 tc2 tc3 hklt hxlt
        have zz8 := Lib.hid b8.size
        have B8 := Lib.hid (bt B7.out b8)
        have x_8 := Lib.hid (x_7.out.belowAll b8)
        clear x_7
        have xx_8 := Lib.hid (xx_7.out.all b8)
        clear xx_7
        have x1_8 := Lib.hid (x1_7.out.belowAll b8)
        clear x1_7
        clear b8
        go_wp2_with fail
        refine (toAssetS_at v8 _ xs1 (HV1.out.below B8.out) hl1 hi1).mono ?_
        rintro e v9 ⟨rfl, o9, b9⟩
        have zz9 := Lib.hid b9.size
        have B9 := Lib.hid (bt B8.out b9)
        have x_9 := Lib.hid (x_8.out.belowAll b9)
        clear x_8
        have xx_9 := Lib.hid (xx_8.out.all b9)
        clear xx_8
        have x1_9 := Lib.hid (x1_8.out.belowAll b9)
        clear x1_8
        have y1_r := Lib.hid o9
        clear o9 b9
        go_wp2_with fail
        refine (eqAssetS_self v9 _ _ xs1 x1_9.out.sl y1_r.out.sl hl1 hi1).mono ?_
        rintro e v10 ⟨rfl, b10⟩
        clear y1_r
        clear x1_9
        have zz10 := Lib.hid b10.size
        have B10 := Lib.hid (bt B9.out b10)
        have x_10 := Lib.hid (x_9.out.belowAll b10)
        clear x_9
        have xx_10 := Lib.hid (xx_9.out.all b10)
        clear xx_9
        clear b10
        go_wp2_with fail
        go_ret
        exact ⟨rfl, bt HB0.out B10.out⟩)
    · have Z0 := Lib.hid (szGrid_in (boxG w r0 c0 s0 (.slice a0 xs0.length cap0) 24) r0 c0 s0 a0 xs0.length cap0 (1048576 : Int) (by omega) (by omega))
      have Z1 := Lib.hid (fun W h => szAssetS_out W _ xs1 ((w1.below HB0.out).below h) bd1 (by unfold maxLen; omega) ((1048576 : Int) - xs0.length) (by omega) (by omega) (by omega))
      clear bd1 hb1
      go_enter Try.func3, Try.ntmps3
      go_wp2_with fail
      refine Z0.out.mono ?_
      rintro e v0 ⟨rfl, b0⟩
      have B0 := Lib.hid b0
      clear b0 Z0
      go_wp2_with fail
      refine (Z1.out _ B0.out).mono ?_
      rintro e v1 ⟨rfl, b1⟩
      have B1 := Lib.hid (bt HB0.out (bt B0.out b1))
      clear b1 Z1
      go_wp2_with fail
      go_ret
      exact ⟨rfl, B1.out⟩
  · have hn0 : (1048576 : Int) < xs0.length := by omega
    have Z0 := Lib.hid (szGrid_out (boxG w r0 c0 s0 (.slice a0 xs0.length cap0) 24) r0 c0 s0 a0 xs0.length cap0 (1048576 : Int) (by omega) hn0 (by omega))
    have HB0 := Lib.hid (boxG_below w r0 c0 s0 (.slice a0 xs0.length cap0) 24)
    go_enter Try.func3, Try.ntmps3
    go_wp2_with fail
    refine Z0.out.mono ?_
    rintro e v1 ⟨rfl, b1⟩
    have B1 := Lib.hid (bt HB0.out b1)
    clear b1
    go_wp2_with fail
    go_ret
    exact ⟨rfl, B1.out⟩
end Go.Proofs.Ytaldmdammipfjaa.fnExactValidAssets
