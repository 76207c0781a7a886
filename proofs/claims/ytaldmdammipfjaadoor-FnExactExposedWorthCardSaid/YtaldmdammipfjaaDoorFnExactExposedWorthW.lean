/-
  The walk of the law FnExactExposedWorth and what it stands on: For every grid and every slice of assets (slices nil, shared and with spare room too; names of any bytes) and every slice of cells the program's ExposedWorth answers as its model and leaves its arguments as they were, where math/bits.deBruijn64tab holds what the library's text lays (tied by the card): the law returns true and writes nothing that was there. No other condition (beyond 2^20 heights, assets, cells and bytes of names together the law itself returns true).
-/
import Derived.Test.YtaldmdammipfjaaDoorRows
import Derived.Test.YtaldmdammipfjaaDoorExG
import Derived.Test.YtaldmdammipfjaaDoorAstL
import Derived.Test.YtaldmdammipfjaaDoorGdO
import Derived.Test.YtaldmdammipfjaaDoorGrD
import Derived.Test.YtaldmdammipfjaaDoorAstS
import Derived.WalkKit
import Derived.WalkSpells
import Derived.WalkLawsBesides
import Derived.Outline
import Derived.IntWalk
import Derived.Lib.Hide
import Derived.ProofKit
import Derived.OpenShut
import Derived.ShutString
import Derived.ChangeOld
import Derived.ChangeVars
import Derived.Below
import Derived.WalkSmall
import Derived.Lib.LaidTab
import Derived.LaidMore
import Derived.LaidSub
namespace Go.Proofs.YtaldmdammipfjaaDoor.fnExactExposedWorth
open Go.ChangeShapes Go.WideShapes Go.ChangeAt Go.RowKit
open Go.ChangeMaps (open_string shut_string)
set_option linter.unusedVariables false
def IsRow (k : IntKind) (w : World) (a : Option Addr) (len cap : Nat) (zs : List Int) : Prop :=
  (a = none ∧ len = 0 ∧ cap = 0 ∧ zs = []) ∨
  ∃ x, a = some x ∧ len ≤ cap ∧ cap ≤ maxLen ∧ zs.length = cap ∧ (∀ i, i < zs.length → w.cell? (x.add i) = some (.int k (zs.getD i 0))) ∧ ∀ n ∈ zs, (Lit.int k n).wf = true
set_option maxRecDepth 100000
set_option maxHeartbeats 6400000
theorem walk (r0 c0 s0 : Int) (a0 : Option Addr) (cap0 : Nat) (xs0 : List Int) (a1 : Option Addr) (cap1 : Nat) (xs1 : List Ast) (a2 : Option Addr) (len2 cap2 : Nat) (z2 : List Int) (w : World) (w0 : Sl w (.slice a0 xs0.length cap0) xs0) (m0 : xs0.length ≤ maxLen) (wr0 : (Lit.int .i64 r0).wf = true) (wc0 : (Lit.int .i64 c0).wf = true) (ws0 : (Lit.int .i64 s0).wf = true) (w1 : AsSl w (.slice a1 xs1.length cap1) xs1) (m1 : xs1.length ≤ maxLen) (bd1 : ∀ x ∈ xs1, As.Bd x) (w2 : IsRow .i64 w a2 len2 cap2 z2) (hL : laidMetH Tryd.prog Rows.fnExactExposedWorthRow.laid w) (hsh : w.ShapedOpen Tryd.prog) :
    Calls Tryd.prog 4 #[.agg #[.int .i64 r0, .int .i64 c0, .int .i64 s0, .slice a0 xs0.length cap0], .slice a1 xs1.length cap1, .slice a2 len2 cap2] w fun e w' => e = .returned (.bool true) ∧ Below w.heap.size w w' := by
  have HD := Lib.hid (db_of hL (by kernel_rfl))
  clear hL hsh
  unfold maxLen at m0 m1
  obtain ⟨s2, hz2⟩ := Sl.of_row w2
  have hlm2 : len2 ≤ 9223372036854775807 := by rcases w2 with ⟨_, h, _⟩ | ⟨_, _, h1, h2, _⟩ <;> (try unfold maxLen at *) <;> omega
  clear w2
  generalize z2.take len2 = zs2 at *
  subst hz2
  by_cases hb2 : zs2.length ≤ 1048576
  · have hsn2 : ¬ (1048576 : Int) < zs2.length := by omega
    have hl2 : zs2.length ≤ 1048576 := by omega
    by_cases hb0 : xs0.length ≤ 1048576
    · have hl0 : xs0.length ≤ 1048576 := by omega
      have hn0 : ¬ (1048576 : Int) - xs0.length < 0 := by omega
      have HB0 := Lib.hid (boxG_below w r0 c0 s0 (.slice a0 xs0.length cap0) 24)
      have HV0 := Lib.hid (w0.below HB0.out)
      have K0 := Lib.hid (boxG_cells w r0 c0 s0 (.slice a0 xs0.length cap0) 24)
      have HV2 := Lib.hid (s2.below HB0.out)
      by_cases hb1 : xs1.length + As.szl xs1 ≤ 1048576 - xs0.length
      · have hl1 : xs1.length ≤ 1048576 := by omega
        have hi1 : As.Sh xs1 := As.sh_of (by omega)
        have hz1 : As.szl xs1 ≤ 1048576 := by omega
        have hn1 : ¬ (1048576 : Int) - xs0.length - xs1.length - As.szl xs1 < 0 := by omega
        have HV1 := Lib.hid (w1.below HB0.out)
        have Z0 := Lib.hid (szGrid_in (boxG w r0 c0 s0 (.slice a0 xs0.length cap0) 24) r0 c0 s0 a0 xs0.length cap0 (1048576 : Int) (by omega) (by omega))
        have Z1 := Lib.hid (fun W h => szAssetS_in W _ xs1 (HV1.out.below h) (fun x _ W u h => h.form) ((1048576 : Int) - xs0.length) (by omega) (by omega))
        clear w0 w1 hb1 s2
        go_enter Tryd.func4, Tryd.ntmps4
        go_wp2_with fail
        refine Z0.out.mono ?_
        rintro e v0 ⟨rfl, b0⟩
        have B0 := Lib.hid b0
        have zz0 := Lib.hid b0.size
        clear b0 Z0
        go_wp2_with fail
        refine (Z1.out _ B0.out).mono ?_
        rintro e v1 ⟨rfl, b1⟩
        have B1 := Lib.hid (bt B0.out b1)
        have zz1 := Lib.hid b1.size
        clear b1 Z1
        obtain ⟨qc0, qc1, qc2, qc3⟩ := (K0.out.all B1.out).four
        have qlt := (K0.out.all B1.out).lt
        go_wp2_with fail
        refine (toGrid_at v1 r0 c0 s0 _ xs0 (HV0.out.below B1.out) hl0).mono ?_
        rintro e v2 ⟨g2, rfl, hg2, hgl2, o2, b2⟩
        clear qc0 qc1 qc2 qc3 qlt
        have zz2 := Lib.hid b2.size
        have B2 := Lib.hid (bt B1.out b2)
        have p_r := Lib.hid o2
        have hgg2 := Lib.hid hg2
        have hgs2 := Lib.hid hgl2
        clear o2 b2 hg2 hgl2
        go_wp2_with fail
        refine (toAssetS_at v2 _ xs1 (HV1.out.below B2.out) hl1 hi1).mono ?_
        rintro e v3 ⟨rfl, o3, b3⟩
        have zz3 := Lib.hid b3.size
        have B3 := Lib.hid (bt B2.out b3)
        have p_3 := Lib.hid (p_r.out.belowAll b3)
        clear p_r
        have p1_r := Lib.hid o3
        clear o3 b3
        go_wp2_with fail
        refine (toInt64S_at v3 _ zs2 (HV2.out.below B3.out) hl2).mono ?_
        rintro e v4 ⟨rfl, o4, b4⟩
        have zz4 := Lib.hid b4.size
        have B4 := Lib.hid (bt B3.out b4)
        have p_4 := Lib.hid (p_3.out.belowAll b4)
        clear p_3
        have p1_4 := Lib.hid (p1_r.out.belowAll b4)
        clear p1_r
        have p2_r := Lib.hid o4
        clear o4 b4
        go_wp2_with fail
        refine (specExposedWorth_any v4 r0 c0 s0 _ xs0 _ xs1 _ zs2 p_4.out.sl hl0 p1_4.out.sl hl1 hi1 p2_r.out.sl hl2 ).mono ?_
        rintro e v5 ⟨rfl, b5⟩
        clear p_4
        clear p1_4
        clear p2_r
        have zz5 := Lib.hid b5.size
        have B5 := Lib.hid (bt B4.out b5)
        clear b5
        obtain ⟨qc0, qc1, qc2, qc3⟩ := (K0.out.all B5.out).four
        have qlt := (K0.out.all B5.out).lt
        go_wp2_with fail
        refine (toGrid_at v5 r0 c0 s0 _ xs0 (HV0.out.below B5.out) hl0).mono ?_
        rintro e v6 ⟨g6, rfl, hg6, hgl6, o6, b6⟩
        clear qc0 qc1 qc2 qc3 qlt
        have zz6 := Lib.hid b6.size
        have B6 := Lib.hid (bt B5.out b6)
        have x_r := Lib.hid o6
        have hgg6 := Lib.hid hg6
        have hgs6 := Lib.hid hgl6
        clear o6 b6 hg6 hgl6
        have bxxx := Lib.hid (boxG_below v6 r0 c0 s0 (.slice (some ⟨g6, 0, none⟩) xs0.length xs0.length) 30)
        have x_6b := Lib.hid (x_r.out.belowAll bxxx.out)
        clear x_r
        have xx_b := Lib.hid (boxG_cells v6 r0 c0 s0 (.slice (some ⟨g6, 0, none⟩) xs0.length xs0.length) 30)
        have zzbxx : Hid (v6.heap.size + 1 = (boxG v6 r0 c0 s0 (.slice (some ⟨g6, 0, none⟩) xs0.length xs0.length) 30).heap.size) := Lib.hid (boxG_size v6 r0 c0 s0 (.slice (some ⟨g6, 0, none⟩) xs0.length xs0.length) 30).symm
        have BBxx := Lib.hid (bt B6.out bxxx.out)
        go_wp2_with fail
        refine (toAssetS_at (boxG v6 r0 c0 s0 (.slice (some ⟨g6, 0, none⟩) xs0.length xs0.length) 30) _ xs1 (HV1.out.below BBxx.out) hl1 hi1).mono ?_
        rintro e v7 ⟨rfl, o7, b7⟩
        have zz7 := Lib.hid b7.size
        have B7 := Lib.hid (bt BBxx.out b7)
        have x_7 := Lib.hid (x_6b.out.belowAll b7)
        clear x_6b
        have xx_7 := Lib.hid (xx_b.out.all b7)
        clear xx_b
        have x1_r := Lib.hid o7
        clear o7 b7
        go_wp2_with fail
        refine (toInt64S_at v7 _ zs2 (HV2.out.below B7.out) hl2).mono ?_
        rintro e v8 ⟨rfl, o8, b8⟩
        have zz8 := Lib.hid b8.size
        have B8 := Lib.hid (bt B7.out b8)
        have x_8 := Lib.hid (x_7.out.belowAll b8)
        clear x_7
        have xx_8 := Lib.hid (xx_7.out.all b8)
        clear xx_7
        have x1_8 := Lib.hid (x1_r.out.belowAll b8)
        clear x1_r
        have x2_r := Lib.hid o8
        clear o8 b8
        have xul2 := Lib.hid (fun j hj => World.ownsRow.lt x2_r.out j hj)
        obtain ⟨xc0, xc1, xc2, xc3⟩ := (xx_8.out).four
        have xlt := (xx_8.out).lt
        go_wp2_with fail
        refine (implExposedWorth_any v8 r0 c0 s0 _ xs0 _ xs1 _ zs2 x_8.out.sl hl0 x1_8.out.sl hl1 hi1 x2_r.out.sl hl2  (HD.out.below (bt HB0.out B8.out))).mono ?_
        rintro e v9 ⟨rfl, b9⟩
        clear xc0 xc1 xc2 xc3 xlt
        have zz9 := Lib.hid b9.size
        have B9 := Lib.hid (bt B8.out b9)
        have x_9 := Lib.hid (x_8.out.belowAll b9)
        clear x_8
        have xx_9 := Lib.hid (xx_8.out.all b9)
        clear xx_8
        have x1_9 := Lib.hid (x1_8.out.belowAll b9)
        clear x1_8
        have x2_9 := Lib.hid (x2_r.out.belowAll b9)
        clear x2_r
        clear b9
        have KQ : Hid (∀ W, Below v9.heap.size v9 W → GC W w.heap.size r0 c0 s0 (.slice a0 xs0.length cap0)) := Lib.hid (fun W h => (K0.out.all B9.out).all h)
        have KX : Hid (∀ W, Below v9.heap.size v9 W → GC W v6.heap.size r0 c0 s0 (.slice (some ⟨g6, 0, none⟩) xs0.length xs0.length)) := Lib.hid (fun W h => xx_9.out.all h)
        have T1 : Hid (∀ W, Below v9.heap.size v9 W → Calls Tryd.prog 11 #[.agg #[.int .i64 r0, .int .i64 c0, .int .i64 s0, .slice a0 xs0.length cap0]] W fun e w' => ∃ g, e = .returned (.agg #[.int .i64 r0, .int .i64 c0, .int .i64 s0, .slice (some ⟨g, 0, none⟩) xs0.length xs0.length]) ∧ W.heap.size ≤ g ∧ g < w'.heap.size ∧ Own W.heap.size w' (.slice (some ⟨g, 0, none⟩) xs0.length xs0.length) xs0 ∧ Below W.heap.size W w') := Lib.hid (fun W h => toGrid_at W r0 c0 s0 _ xs0 (HV0.out.below (bt B9.out h)) hl0)
        have T2 : Hid (∀ W u, Below v9.heap.size v9 W → Sl W u xs0 → Calls Tryd.prog 16 #[.agg #[.int .i64 r0, .int .i64 c0, .int .i64 s0, .slice (some ⟨g6, 0, none⟩) xs0.length xs0.length], .agg #[.int .i64 r0, .int .i64 c0, .int .i64 s0, u]] W fun e w' => e = .returned (.bool true) ∧ Below W.heap.size W w') := Lib.hid (fun W u h hs => eqGrid_self W r0 c0 s0 _ u xs0 (x_9.out.sl.below h) hs hl0)
        obtain ⟨kc0, kc1, kc2, kc3⟩ := (KQ.out _ (Below.refl _ _)).four
        obtain ⟨xc0, xc1, xc2, xc3⟩ := (KX.out _ (Below.refl _ _)).four
        have hklt := (KQ.out _ (Below.refl _ _)).lt
        have hxlt := (KX.out _ (Below.refl _ _)).lt
        go_wp2_with fail
        go_region_held3 (fun w' => w'.cell? ⟨w.heap.size, 0, none⟩ = some (.int .i64 r0) ∧ w'.cell? ⟨w.heap.size, 1, none⟩ = some (.int .i64 c0) ∧ w'.cell? ⟨w.heap.size, 2, none⟩ = some (.int .i64 s0) ∧ w'.cell? ⟨w.heap.size, 3, none⟩ = some (.slice a0 xs0.length cap0) ∧ w'.cell? ⟨v6.heap.size, 0, none⟩ = some (.int .i64 r0) ∧ w'.cell? ⟨v6.heap.size, 1, none⟩ = some (.int .i64 c0) ∧ w'.cell? ⟨v6.heap.size, 2, none⟩ = some (.int .i64 s0) ∧ w'.cell? ⟨v6.heap.size, 3, none⟩ = some (.slice (some ⟨g6, 0, none⟩) xs0.length xs0.length)) (go_keep)
          (first
            | (go_at_call 11; refine (T1.out _ (by first | exact bdr1 _ | exact Below.refl _ _)).mono ?_; rintro e vA ⟨gA, rfl, -, -, oA, bA⟩; have bA0 : Below v9.heap.size v9 vA := (by first | exact bt (bdr1 _) bA | exact bA); obtain ⟨lc0, lc1, lc2, lc3⟩ := (KQ.out vA bA0).four; obtain ⟨yc0, yc1, yc2, yc3⟩ := (KX.out vA bA0).four)
            | (go_at_call 16; refine (T2.out _ _ (by first | exact bA0 | exact bt bA0 (bdr1 _)) (by first | exact oA.sl | exact (oA.drewN 1).sl)).mono ?_; rintro e v10 ⟨rfl, bC⟩; have b10 : Below v9.heap.size v9 v10 := (by first | exact bt bA0 bC | exact bt (bt bA0 (bdr1 _)) bC); obtain ⟨zc0, zc1, zc2, zc3⟩ := (KQ.out v10 b10).four; obtain ⟨tc0, tc1, tc2, tc3⟩ := (KX.out v10 b10).four))
        all_goals (
          try clear KQ KX T1 T2 oA bA bA0 bC kc0 kc1 kc2 kc3 xc0 xc1 xc2 xc3 lc0 lc1 lc2 lc3 yc0 yc1 yc2 yc3 zc0 zc1 zc2 zc3 tc0 tc1 tc2 tc3 hklt hxlt
          have zz10 := Lib.hid b10.size
          have B10 := Lib.hid (bt B9.out b10)
          have x_10 := Lib.hid (x_9.out.belowAll b10)
          clear x_9
          have xx_10 := Lib.hid (xx_9.out.all b10)
          clear xx_9
          have x1_10 := Lib.hid (x1_9.out.belowAll b10)
          clear x1_9
          have x2_10 := Lib.hid (x2_9.out.belowAll b10)
          clear x2_9
          clear b10
          go_wp2_with fail
          refine (toAssetS_at v10 _ xs1 (HV1.out.below B10.out) hl1 hi1).mono ?_
          rintro e v11 ⟨rfl, o11, b11⟩
          have zz11 := Lib.hid b11.size
          have B11 := Lib.hid (bt B10.out b11)
          have x_11 := Lib.hid (x_10.out.belowAll b11)
          clear x_10
          have xx_11 := Lib.hid (xx_10.out.all b11)
          clear xx_10
          have x1_11 := Lib.hid (x1_10.out.belowAll b11)
          clear x1_10
          have x2_11 := Lib.hid (x2_10.out.belowAll b11)
          clear x2_10
          have y1_r := Lib.hid o11
          clear o11 b11
          go_wp2_with fail
          refine (eqAssetS_self v11 _ _ xs1 x1_11.out.sl y1_r.out.sl hl1 hi1).mono ?_
          rintro e v12 ⟨rfl, b12⟩
          clear y1_r
          clear x1_11
          have zz12 := Lib.hid b12.size
          have B12 := Lib.hid (bt B11.out b12)
          have x_12 := Lib.hid (x_11.out.belowAll b12)
          clear x_11
          have xx_12 := Lib.hid (xx_11.out.all b12)
          clear xx_11
          have x2_12 := Lib.hid (x2_11.out.belowAll b12)
          clear x2_11
          clear b12
          go_wp2_with fail
          refine (toInt64S_at v12 _ zs2 (HV2.out.below B12.out) hl2).mono ?_
          rintro e v13 ⟨rfl, o13, b13⟩
          have zz13 := Lib.hid b13.size
          have B13 := Lib.hid (bt B12.out b13)
          have x_13 := Lib.hid (x_12.out.belowAll b13)
          clear x_12
          have xx_13 := Lib.hid (xx_12.out.all b13)
          clear xx_12
          have x2_13 := Lib.hid (x2_12.out.belowAll b13)
          clear x2_12
          have y2_r := Lib.hid o13
          clear o13 b13
          go_wp2_with fail
          refine (eqInt64S_any v13 _ _ zs2 zs2 x2_13.out.sl y2_r.out.sl hl2 hl2).mono ?_
          rintro e v14 ⟨rfl, b14⟩
          clear y2_r
          clear x2_13
          have zz14 := Lib.hid b14.size
          have B14 := Lib.hid (bt B13.out b14)
          have x_14 := Lib.hid (x_13.out.belowAll b14)
          clear x_13
          have xx_14 := Lib.hid (xx_13.out.all b14)
          clear xx_13
          clear b14
          rw [show (zs2 == zs2) = true from beq_self_eq_true _]
          go_wp2_with fail
          go_ret
          exact ⟨rfl, bt HB0.out B14.out⟩)
      · have Z0 := Lib.hid (szGrid_in (boxG w r0 c0 s0 (.slice a0 xs0.length cap0) 24) r0 c0 s0 a0 xs0.length cap0 (1048576 : Int) (by omega) (by omega))
        have Z1 := Lib.hid (fun W h => szAssetS_out W _ xs1 ((w1.below HB0.out).below h) bd1 (by unfold maxLen; omega) ((1048576 : Int) - xs0.length) (by omega) (by omega) (by omega))
        clear bd1 hb1
        go_enter Tryd.func4, Tryd.ntmps4
        go_wp2_with fail
        refine Z0.out.mono ?_
        rintro e v0 ⟨rfl, b0⟩
        have B0 := Lib.hid b0
        clear b0 Z0
        go_wp2_with fail
        refine (Z1.out _ B0.out).mono ?_
        rintro e v1 ⟨rfl, b1⟩
        have B1 := Lib.hid (bt HB0.out (bt B0.out b1))
        clear b1 Z1
        go_wp2_with fail
        go_ret
        exact ⟨rfl, B1.out⟩
    · have hn0 : (1048576 : Int) < xs0.length := by omega
      have Z0 := Lib.hid (szGrid_out (boxG w r0 c0 s0 (.slice a0 xs0.length cap0) 24) r0 c0 s0 a0 xs0.length cap0 (1048576 : Int) (by omega) hn0 (by omega))
      have HB0 := Lib.hid (boxG_below w r0 c0 s0 (.slice a0 xs0.length cap0) 24)
      go_enter Tryd.func4, Tryd.ntmps4
      go_wp2_with fail
      refine Z0.out.mono ?_
      rintro e v1 ⟨rfl, b1⟩
      have B1 := Lib.hid (bt HB0.out b1)
      clear b1
      go_wp2_with fail
      go_ret
      exact ⟨rfl, B1.out⟩
  · have hsn : (1048576 : Int) < zs2.length := by omega
    go_enter Tryd.func4, Tryd.ntmps4
    go_wp2_with fail
    go_ret
    exact ⟨rfl, boxG_below w r0 c0 s0 (.slice a0 xs0.length cap0) 24⟩
end Go.Proofs.YtaldmdammipfjaaDoor.fnExactExposedWorth
