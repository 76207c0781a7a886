/-
  The walk of the law FnExactExposedAssets and what it stands on: For every grid and every slice of assets (slices nil, shared and with spare room too; names of any bytes) and every slice of cells the program's ExposedAssets answers as its model, in memory of its own, and leaves its arguments as they were, where math/bits.deBruijn64tab holds what the library's text lays (tied by the card): the law returns true and writes nothing that was there. No other condition (beyond 2^20 heights, assets, cells and bytes of names together the law itself returns true).
-/
import Derived.Test.YtaldmdammipfjaaDoorRows
import Derived.Test.YtaldmdammipfjaaDoorExF
import Derived.Test.YtaldmdammipfjaaDoorAstL
import Derived.Test.YtaldmdammipfjaaDoorGdO
import Derived.Test.YtaldmdammipfjaaDoorFdL
import Derived.Test.YtaldmdammipfjaaDoorFdG
import Derived.Test.YtaldmdammipfjaaDoorIntsM
import Derived.Test.YtaldmdammipfjaaDoorGrD
import Derived.Test.YtaldmdammipfjaaDoorAstS
import Derived.WalkKit
import Derived.WalkSpells
import Derived.WalkLawsBesides
import Derived.Outline
import Derived.IntWalk
import Derived.Lib.Hide
import Derived.ProofKit
import Derived.OpenShut
import Derived.ShutString
import Derived.ChangeOld
import Derived.ChangeVars
import Derived.Below
import Derived.WalkSmall
import Derived.Lib.LaidTab
import Derived.LaidMore
import Derived.LaidSub
namespace Go.Proofs.YtaldmdammipfjaaDoor.fnExactExposedAssets
open Go.ChangeShapes Go.WideShapes Go.ChangeAt Go.RowKit
open Go.ChangeMaps (open_string shut_string)
set_option linter.unusedVariables false
def IsRow (k : IntKind) (w : World) (a : Option Addr) (len cap : Nat) (zs : List Int) : Prop :=
  (a = none ∧ len = 0 ∧ cap = 0 ∧ zs = []) ∨
  ∃ x, a = some x ∧ len ≤ cap ∧ cap ≤ maxLen ∧ zs.length = cap ∧ (∀ i, i < zs.length → w.cell? (x.add i) = some (.int k (zs.getD i 0))) ∧ ∀ n ∈ zs, (Lit.int k n).wf = true
set_option maxRecDepth 100000
set_option maxHeartbeats 6400000
theorem walk (r0 c0 s0 : Int) (a0 : Option Addr) (cap0 : Nat) (xs0 : List Int) (a1 : Option Addr) (cap1 : Nat) (xs1 : List Ast) (a2 : Option Addr) (len2 cap2 : Nat) (z2 : List Int) (w : World) (w0 : Sl w (.slice a0 xs0.length cap0) xs0) (m0 : xs0.length ≤ maxLen) (wr0 : (Lit.int .i64 r0).wf = true) (wc0 : (Lit.int .i64 c0).wf = true) (ws0 : (Lit.int .i64 s0).wf = true) (w1 : AsSl w (.slice a1 xs1.length cap1) xs1) (m1 : xs1.length ≤ maxLen) (bd1 : ∀ x ∈ xs1, As.Bd x) (w2 : IsRow .i64 w a2 len2 cap2 z2) (hL : laidMetH Tryd.prog Rows.fnExactExposedAssetsRow.laid w) (hsh : w.ShapedOpen Tryd.prog) :
    Calls Tryd.prog 3 #[.agg #[.int .i64 r0, .int .i64 c0, .int .i64 s0, .slice a0 xs0.length cap0], .slice a1 xs1.length cap1, .slice a2 len2 cap2] w fun e w' => e = .returned (.bool true) ∧ Below w.heap.size w w' := by
  have HD := Lib.hid (db_of hL (by kernel_rfl))
  clear hL hsh
  unfold maxLen at m0 m1
  obtain ⟨s2, hz2⟩ := Sl.of_row w2
  have hlm2 : len2 ≤ 9223372036854775807 := by rcases w2 with ⟨_, h, _⟩ | ⟨_, _, h1, h2, _⟩ <;> (try unfold maxLen at *) <;> omega
  clear w2
  generalize z2.take len2 = zs2 at *
  subst hz2
  by_cases hb2 : zs2.length ≤ 1048576
  · have hsn2 : ¬ (1048576 : Int) < zs2.length := by omega
    have hl2 : zs2.length ≤ 1048576 := by omega
    by_cases hb0 : xs0.length ≤ 1048576
    · have hl0 : xs0.length ≤ 1048576 := by omega
      have hn0 : ¬ (1048576 : Int) - xs0.length < 0 := by omega
      have HB0 := Lib.hid (boxG_below w r0 c0 s0 (.slice a0 xs0.length cap0) 24)
      have HV0 := Lib.hid (w0.below HB0.out)
      have K0 := Lib.hid (boxG_cells w r0 c0 s0 (.slice a0 xs0.length cap0) 24)
      have HV2 := Lib.hid (s2.below HB0.out)
      by_cases hb1 : xs1.length + As.szl xs1 ≤ 1048576 - xs0.length
      · have hl1 : xs1.length ≤ 1048576 := by omega
        have hi1 : As.Sh xs1 := As.sh_of (by omega)
        have hz1 : As.szl xs1 ≤ 1048576 := by omega
        have hn1 : ¬ (1048576 : Int) - xs0.length - xs1.length - As.szl xs1 < 0 := by omega
        have HV1 := Lib.hid (w1.below HB0.out)
        have Z0 := Lib.hid (szGrid_in (boxG w r0 c0 s0 (.slice a0 xs0.length cap0) 24) r0 c0 s0 a0 xs0.length cap0 (1048576 : Int) (by omega) (by omega))
        have Z1 := Lib.hid (fun W h => szAssetS_in W _ xs1 (HV1.out.below h) (fun x _ W u h => h.form) ((1048576 : Int) - xs0.length) (by omega) (by omega))
        clear w0 w1 hb1 s2
        go_enter Tryd.func3, Tryd.ntmps3
        go_wp2_with fail
        refine Z0.out.mono ?_
        rintro e v0 ⟨rfl, b0⟩
        have B0 := Lib.hid b0
        have zz0 := Lib.hid b0.size
        clear b0 Z0
        go_wp2_with fail
        refine (Z1.out _ B0.out).mono ?_
        rintro e v1 ⟨rfl, b1⟩
        have B1 := Lib.hid (bt B0.out b1)
        have zz1 := Lib.hid b1.size
        clear b1 Z1
        obtain ⟨qc0, qc1, qc2, qc3⟩ := (K0.out.all B1.out).four
        have qlt := (K0.out.all B1.out).lt
        go_wp2_with fail
        refine (toGrid_at v1 r0 c0 s0 _ xs0 (HV0.out.below B1.out) hl0).mono ?_
        rintro e v2 ⟨g2, rfl, hg2, hgl2, o2, b2⟩
        clear qc0 qc1 qc2 qc3 qlt
        have zz2 := Lib.hid b2.size
        have B2 := Lib.hid (bt B1.out b2)
        have p_r := Lib.hid o2
        have hgg2 := Lib.hid hg2
        have hgs2 := Lib.hid hgl2
        clear o2 b2 hg2 hgl2
        go_wp2_with fail
        refine (toAssetS_at v2 _ xs1 (HV1.out.below B2.out) hl1 hi1).mono ?_
        rintro e v3 ⟨rfl, o3, b3⟩
        have zz3 := Lib.hid b3.size
        have B3 := Lib.hid (bt B2.out b3)
        have p_3 := Lib.hid (p_r.out.belowAll b3)
        clear p_r
        have p1_r := Lib.hid o3
        clear o3 b3
        go_wp2_with fail
        refine (toInt64S_at v3 _ zs2 (HV2.out.below B3.out) hl2).mono ?_
        rintro e v4 ⟨rfl, o4, b4⟩
        have zz4 := Lib.hid b4.size
        have B4 := Lib.hid (bt B3.out b4)
        have p_4 := Lib.hid (p_3.out.belowAll b4)
        clear p_3
        have p1_4 := Lib.hid (p1_r.out.belowAll b4)
        clear p1_r
        have p2_r := Lib.hid o4
        clear o4 b4
        go_wp2_with fail
        refine (specExposedAssets_any v4 r0 c0 s0 _ xs0 _ xs1 _ zs2 p_4.out.sl hl0 p1_4.out.sl hl1 hi1 p2_r.out.sl hl2 ).mono ?_
        rintro e v5 ⟨u5, rfl, o5, b5⟩
        clear p_4
        clear p1_4
        clear p2_r
        have zz5 := Lib.hid b5.size
        have B5 := Lib.hid (bt B4.out b5)
        have s_r := Lib.hid o5
        clear o5 b5
        have BS := Lib.hid (B5.out)
        have A0 : Hid (Below v5.heap.size v5 v5) := Lib.hid (Below.refl _ _)
        have SR := s_r
        clear s_r
        obtain ⟨qc0, qc1, qc2, qc3⟩ := (K0.out.all (bt BS.out A0.out)).four
        have qlt := (K0.out.all (bt BS.out A0.out)).lt
        go_wp2_with fail
        refine (toGrid_at v5 r0 c0 s0 _ xs0 (HV0.out.below (bt BS.out A0.out)) hl0).mono ?_
        rintro e v6 ⟨g6, rfl, hg6, hgl6, o6, b6⟩
        clear qc0 qc1 qc2 qc3 qlt
        have zz6 := Lib.hid b6.size
        have A6 := Lib.hid (bt A0.out b6)
        have x_r := Lib.hid o6
        have hgg6 := Lib.hid hg6
        have hgs6 := Lib.hid hgl6
        clear o6 b6 hg6 hgl6
        have bxxx := Lib.hid (boxG_below v6 r0 c0 s0 (.slice (some ⟨g6, 0, none⟩) xs0.length xs0.length) 30)
        have x_6b := Lib.hid (x_r.out.belowAll bxxx.out)
        clear x_r
        have xx_b := Lib.hid (boxG_cells v6 r0 c0 s0 (.slice (some ⟨g6, 0, none⟩) xs0.length xs0.length) 30)
        have zzbxx : Hid (v6.heap.size + 1 = (boxG v6 r0 c0 s0 (.slice (some ⟨g6, 0, none⟩) xs0.length xs0.length) 30).heap.size) := Lib.hid (boxG_size v6 r0 c0 s0 (.slice (some ⟨g6, 0, none⟩) xs0.length xs0.length) 30).symm
        have AAxx := Lib.hid (bt A6.out bxxx.out)
        go_wp2_with fail
        refine (toAssetS_at (boxG v6 r0 c0 s0 (.slice (some ⟨g6, 0, none⟩) xs0.length xs0.length) 30) _ xs1 (HV1.out.below (bt BS.out AAxx.out)) hl1 hi1).mono ?_
        rintro e v7 ⟨rfl, o7, b7⟩
        have zz7 := Lib.hid b7.size
        have A7 := Lib.hid (bt AAxx.out b7)
        have x_7 := Lib.hid (x_6b.out.belowAll b7)
        clear x_6b
        have xx_7 := Lib.hid (xx_b.out.all b7)
        clear xx_b
        have x1_r := Lib.hid o7
        clear o7 b7
        go_wp2_with fail
        refine (toInt64S_at v7 _ zs2 (HV2.out.below (bt BS.out A7.out)) hl2).mono ?_
        rintro e v8 ⟨rfl, o8, b8⟩
        have zz8 := Lib.hid b8.size
        have A8 := Lib.hid (bt A7.out b8)
        have x_8 := Lib.hid (x_7.out.belowAll b8)
        clear x_7
        have xx_8 := Lib.hid (xx_7.out.all b8)
        clear xx_7
        have x1_8 := Lib.hid (x1_r.out.belowAll b8)
        clear x1_r
        have x2_r := Lib.hid o8
        clear o8 b8
        have xul2 := Lib.hid (fun j hj => World.ownsRow.lt x2_r.out j hj)
        obtain ⟨xc0, xc1, xc2, xc3⟩ := (xx_8.out).four
        have xlt := (xx_8.out).lt
        go_wp2_with fail
        refine (implExposedAssets_any v8 r0 c0 s0 _ xs0 _ xs1 _ zs2 x_8.out.sl hl0 x1_8.out.sl hl1 hi1 x2_r.out.sl hl2  (HD.out.below (bt HB0.out (bt BS.out A8.out)))).mono ?_
        rintro e v9 ⟨u9, rfl, o9, b9⟩
        clear xc0 xc1 xc2 xc3 xlt
        have zz9 := Lib.hid b9.size
        have A9 := Lib.hid (bt A8.out b9)
        have x_9 := Lib.hid (x_8.out.belowAll b9)
        clear x_8
        have xx_9 := Lib.hid (xx_8.out.all b9)
        clear xx_8
        have x1_9 := Lib.hid (x1_8.out.belowAll b9)
        clear x1_8
        have x2_9 := Lib.hid (x2_r.out.belowAll b9)
        clear x2_r
        have g_r := Lib.hid o9
        have gul := Lib.hid (fun j hj => (World.ownsRow.lt o9 j hj).2)
        clear o9 b9
        go_wp2_with fail
        refine (eqInt64S_any v9 _ _ ((Ex.exA r0 c0 s0 xs0 xs1 zs2)) ((Ex.exA r0 c0 s0 xs0 xs1 zs2)) g_r.out.sl (SR.out.belowAll A9.out).sl ((Ex.exA_len hl1)) ((Ex.exA_len hl1))).mono ?_
        rintro e v10 ⟨rfl, b10⟩
        have zz10 := Lib.hid b10.size
        have A10 := Lib.hid (bt A9.out b10)
        have x_10 := Lib.hid (x_9.out.belowAll b10)
        clear x_9
        have xx_10 := Lib.hid (xx_9.out.all b10)
        clear xx_9
        have x1_10 := Lib.hid (x1_9.out.belowAll b10)
        clear x1_9
        have x2_10 := Lib.hid (x2_9.out.belowAll b10)
        clear x2_9
        have g_10 := Lib.hid (g_r.out.belowAll b10)
        clear g_r
        clear b10
        rw [show (((Ex.exA r0 c0 s0 xs0 xs1 zs2)) == ((Ex.exA r0 c0 s0 xs0 xs1 zs2))) = true from beq_self_eq_true _]
        have KQ : Hid (∀ W, Below v10.heap.size v10 W → GC W w.heap.size r0 c0 s0 (.slice a0 xs0.length cap0)) := Lib.hid (fun W h => (K0.out.all (bt BS.out A10.out)).all h)
        have KX : Hid (∀ W, Below v10.heap.size v10 W → GC W v6.heap.size r0 c0 s0 (.slice (some ⟨g6, 0, none⟩) xs0.length xs0.length)) := Lib.hid (fun W h => xx_10.out.all h)
        have T1 : Hid (∀ W, Below v10.heap.size v10 W → Calls Tryd.prog 11 #[.agg #[.int .i64 r0, .int .i64 c0, .int .i64 s0, .slice a0 xs0.length cap0]] W fun e w' => ∃ g, e = .returned (.agg #[.int .i64 r0, .int .i64 c0, .int .i64 s0, .slice (some ⟨g, 0, none⟩) xs0.length xs0.length]) ∧ W.heap.size ≤ g ∧ g < w'.heap.size ∧ Own W.heap.size w' (.slice (some ⟨g, 0, none⟩) xs0.length xs0.length) xs0 ∧ Below W.heap.size W w') := Lib.hid (fun W h => toGrid_at W r0 c0 s0 _ xs0 (HV0.out.below (bt (bt BS.out A10.out) h)) hl0)
        have T2 : Hid (∀ W u, Below v10.heap.size v10 W → Sl W u xs0 → Calls Tryd.prog 16 #[.agg #[.int .i64 r0, .int .i64 c0, .int .i64 s0, .slice (some ⟨g6, 0, none⟩) xs0.length xs0.length], .agg #[.int .i64 r0, .int .i64 c0, .int .i64 s0, u]] W fun e w' => e = .returned (.bool true) ∧ Below W.heap.size W w') := Lib.hid (fun W u h hs => eqGrid_self W r0 c0 s0 _ u xs0 (x_10.out.sl.below h) hs hl0)
        obtain ⟨kc0, kc1, kc2, kc3⟩ := (KQ.out _ (Below.refl _ _)).four
        obtain ⟨xc0, xc1, xc2, xc3⟩ := (KX.out _ (Below.refl _ _)).four
        have hklt := (KQ.out _ (Below.refl _ _)).lt
        have hxlt := (KX.out _ (Below.refl _ _)).lt
        go_wp2_with fail
        go_region_held3 (fun w' => w'.cell? ⟨w.heap.size, 0, none⟩ = some (.int .i64 r0) ∧ w'.cell? ⟨w.heap.size, 1, none⟩ = some (.int .i64 c0) ∧ w'.cell? ⟨w.heap.size, 2, none⟩ = some (.int .i64 s0) ∧ w'.cell? ⟨w.heap.size, 3, none⟩ = some (.slice a0 xs0.length cap0) ∧ w'.cell? ⟨v6.heap.size, 0, none⟩ = some (.int .i64 r0) ∧ w'.cell? ⟨v6.heap.size, 1, none⟩ = some (.int .i64 c0) ∧ w'.cell? ⟨v6.heap.size, 2, none⟩ = some (.int .i64 s0) ∧ w'.cell? ⟨v6.heap.size, 3, none⟩ = some (.slice (some ⟨g6, 0, none⟩) xs0.length xs0.length)) (go_keep)
          (first
            | (go_at_call 11; refine (T1.out _ (by first | exact bdr1 _ | exact Below.refl _ _)).mono ?_; rintro e vA ⟨gA, rfl, -, -, oA, bA⟩; have bA0 : Below v10.heap.size v10 vA := (by first | exact bt (bdr1 _) bA | exact bA); obtain ⟨lc0, lc1, lc2, lc3⟩ := (KQ.out vA bA0).four; obtain ⟨yc0, yc1, yc2, yc3⟩ := (KX.out vA bA0).four)
            | (go_at_call 16; refine (T2.out _ _ (by first | exact bA0 | exact bt bA0 (bdr1 _)) (by first | exact oA.sl | exact (oA.drewN 1).sl)).mono ?_; rintro e v11 ⟨rfl, bC⟩; have b11 : Below v10.heap.size v10 v11 := (by first | exact bt bA0 bC | exact bt (bt bA0 (bdr1 _)) bC); obtain ⟨zc0, zc1, zc2, zc3⟩ := (KQ.out v11 b11).four; obtain ⟨tc0, tc1, tc2, tc3⟩ := (KX.out v11 b11).four))
        all_goals (
          try clear KQ KX T1 T2 oA bA bA0 bC kc0 kc1 kc2 kc3 xc0 xc1 xc2 xc3 lc0 lc1 lc2 lc3 yc0 yc1 yc2 yc3 zc0 zc1 zc2 zc3 tc0 tc1 tc2 tc3 hklt hxlt
          have zz11 := Lib.hid b11.size
          have A11 := Lib.hid (bt A10.out b11)
          have x_11 := Lib.hid (x_10.out.belowAll b11)
          clear x_10
          have xx_11 := Lib.hid (xx_10.out.all b11)
          clear xx_10
          have x1_11 := Lib.hid (x1_10.out.belowAll b11)
          clear x1_10
          have x2_11 := Lib.hid (x2_10.out.belowAll b11)
          clear x2_10
          have g_11 := Lib.hid (g_10.out.belowAll b11)
          clear g_10
          clear b11
          go_wp2_with fail
          refine (toAssetS_at v11 _ xs1 (HV1.out.below (bt BS.out A11.out)) hl1 hi1).mono ?_
          rintro e v12 ⟨rfl, o12, b12⟩
          have zz12 := Lib.hid b12.size
          have A12 := Lib.hid (bt A11.out b12)
          have x_12 := Lib.hid (x_11.out.belowAll b12)
          clear x_11
          have xx_12 := Lib.hid (xx_11.out.all b12)
          clear xx_11
          have x1_12 := Lib.hid (x1_11.out.belowAll b12)
          clear x1_11
          have x2_12 := Lib.hid (x2_11.out.belowAll b12)
          clear x2_11
          have g_12 := Lib.hid (g_11.out.belowAll b12)
          clear g_11
          have y1_r := Lib.hid o12
          clear o12 b12
          go_wp2_with fail
          refine (eqAssetS_self v12 _ _ xs1 x1_12.out.sl y1_r.out.sl hl1 hi1).mono ?_
          rintro e v13 ⟨rfl, b13⟩
          clear y1_r
          have zz13 := Lib.hid b13.size
          have A13 := Lib.hid (bt A12.out b13)
          have x_13 := Lib.hid (x_12.out.belowAll b13)
          clear x_12
          have xx_13 := Lib.hid (xx_12.out.all b13)
          clear xx_12
          have x1_13 := Lib.hid (x1_12.out.belowAll b13)
          clear x1_12
          have x2_13 := Lib.hid (x2_12.out.belowAll b13)
          clear x2_12
          have g_13 := Lib.hid (g_12.out.belowAll b13)
          clear g_12
          clear b13
          go_wp2_with fail
          refine (toInt64S_at v13 _ zs2 (HV2.out.below (bt BS.out A13.out)) hl2).mono ?_
          rintro e v14 ⟨rfl, o14, b14⟩
          have zz14 := Lib.hid b14.size
          have A14 := Lib.hid (bt A13.out b14)
          have x_14 := Lib.hid (x_13.out.belowAll b14)
          clear x_13
          have xx_14 := Lib.hid (xx_13.out.all b14)
          clear xx_13
          have x1_14 := Lib.hid (x1_13.out.belowAll b14)
          clear x1_13
          have x2_14 := Lib.hid (x2_13.out.belowAll b14)
          clear x2_13
          have g_14 := Lib.hid (g_13.out.belowAll b14)
          clear g_13
          have y2_r := Lib.hid o14
          clear o14 b14
          go_wp2_with fail
          refine (eqInt64S_any v14 _ _ zs2 zs2 x2_14.out.sl y2_r.out.sl hl2 hl2).mono ?_
          rintro e v15 ⟨rfl, b15⟩
          clear y2_r
          have zz15 := Lib.hid b15.size
          have A15 := Lib.hid (bt A14.out b15)
          have x_15 := Lib.hid (x_14.out.belowAll b15)
          clear x_14
          have xx_15 := Lib.hid (xx_14.out.all b15)
          clear xx_14
          have x1_15 := Lib.hid (x1_14.out.belowAll b15)
          clear x1_14
          have x2_15 := Lib.hid (x2_14.out.belowAll b15)
          clear x2_14
          have g_15 := Lib.hid (g_14.out.belowAll b15)
          clear g_14
          clear b15
          rw [show (zs2 == zs2) = true from beq_self_eq_true _]
          obtain ⟨xc0, xc1, xc2, xc3⟩ := (xx_15.out).four
          have xlt := (xx_15.out).lt
          go_wp2_with fail
          have hlo : Hid (v5.heap.size ≤ g6) := Lib.hid (by have := hgg6.out; have := zz6.out; omega)
          have hhi : Hid (g6 < v8.heap.size) := Lib.hid (by have := hgs6.out; have := zz0.out; have := zz1.out; have := zz2.out; have := zz3.out; have := zz4.out; have := zz5.out; have := zz6.out; have := zzbxx.out; have := zz7.out; have := zz8.out; have := zz9.out; have := zz10.out; have := zz11.out; have := zz12.out; have := zz13.out; have := zz14.out; have := zz15.out; omega)
          have hgb : Hid (g6 < v9.heap.size) := Lib.hid (by have := hhi.out; have := zz0.out; have := zz1.out; have := zz2.out; have := zz3.out; have := zz4.out; have := zz5.out; have := zz6.out; have := zzbxx.out; have := zz7.out; have := zz8.out; have := zz9.out; have := zz10.out; have := zz11.out; have := zz12.out; have := zz13.out; have := zz14.out; have := zz15.out; omega)
          refine (markGrid_own _ v15 r0 c0 s0 g6 xs0.length xs0.length xs0 1 (by omega) (by omega) x_15.out rfl hl0).mono ?_
          rintro e v16 ⟨rfl, -, hg⟩
          clear xc0 xc1 xc2 xc3 xlt
          clear x_15
          clear xx_15
          have A16 := Lib.hid ((A15.out).grown hg (A15.out).size (fun j hj => by simp only [Option.some.injEq] at hj; have := hlo.out; omega))
          have zz16 := Lib.hid hg.size
          have x1_16 := Lib.hid (x1_15.out.far hg (by have := hgs6.out; have := zz0.out; have := zz1.out; have := zz2.out; have := zz3.out; have := zz4.out; have := zz5.out; have := zz6.out; have := zzbxx.out; have := zz7.out; have := zz8.out; have := zz9.out; have := zz10.out; have := zz11.out; have := zz12.out; have := zz13.out; have := zz14.out; have := zz15.out; omega))
          clear x1_15
          have x2_16 := Lib.hid (own_other x2_15.out hg (by have := hgs6.out; have := zz0.out; have := zz1.out; have := zz2.out; have := zz3.out; have := zz4.out; have := zz5.out; have := zz6.out; have := zzbxx.out; have := zz7.out; have := zz8.out; have := zz9.out; have := zz10.out; have := zz11.out; have := zz12.out; have := zz13.out; have := zz14.out; have := zz15.out; omega))
          clear x2_15
          have g_16 := Lib.hid (g_15.out.far hg hhi.out)
          clear g_15
          clear hg
          have hla : Hid (v5.heap.size ≤ (boxG v6 r0 c0 s0 (.slice (some ⟨g6, 0, none⟩) xs0.length xs0.length) 30).heap.size ∧ v7.heap.size ≤ v8.heap.size ∧ v7.heap.size ≤ v16.heap.size) := Lib.hid ⟨by have := zz0.out; have := zz1.out; have := zz2.out; have := zz3.out; have := zz4.out; have := zz5.out; have := zz6.out; have := zzbxx.out; have := zz7.out; have := zz8.out; have := zz9.out; have := zz10.out; have := zz11.out; have := zz12.out; have := zz13.out; have := zz14.out; have := zz15.out; have := zz16.out; omega, by have := zz0.out; have := zz1.out; have := zz2.out; have := zz3.out; have := zz4.out; have := zz5.out; have := zz6.out; have := zzbxx.out; have := zz7.out; have := zz8.out; have := zz9.out; have := zz10.out; have := zz11.out; have := zz12.out; have := zz13.out; have := zz14.out; have := zz15.out; have := zz16.out; omega, by have := zz0.out; have := zz1.out; have := zz2.out; have := zz3.out; have := zz4.out; have := zz5.out; have := zz6.out; have := zzbxx.out; have := zz7.out; have := zz8.out; have := zz9.out; have := zz10.out; have := zz11.out; have := zz12.out; have := zz13.out; have := zz14.out; have := zz15.out; have := zz16.out; omega⟩
          have kpos := Lib.hid (show (1 : Int) ≤ 1 + xs0.length by omega)
          go_wp2_with fail
          refine (markAssetS_any _ _ v16 _ xs1 _ (by omega) (by omega) x1_16.out hl1 hz1).mono ?_
          rintro e v17 ⟨⟨km, km1, km2, rfl⟩, hg⟩
          clear x1_16
          have A17 := Lib.hid (Below.chg A16.out hg hla.out.1 (by have := zz0.out; have := zz1.out; have := zz2.out; have := zz3.out; have := zz4.out; have := zz5.out; have := zz6.out; have := zzbxx.out; have := zz7.out; have := zz8.out; have := zz9.out; have := zz10.out; have := zz11.out; have := zz12.out; have := zz13.out; have := zz14.out; have := zz15.out; have := zz16.out; omega))
          have zz17 := Lib.hid hg.size
          have x2_17 := Lib.hid (show Own _ _ _ _ from own_chg x2_16.out hg (Nat.le_refl _))
          clear x2_16
          have g_17 := Lib.hid (show Own _ _ _ _ from own_chg g_16.out hg hla.out.2.1)
          clear g_16
          clear hg
          have hlo2 : Hid (∀ j, Value.ownBlock _ = some j → v5.heap.size ≤ j) := Lib.hid (fun j hj => by have := (xul2.out j hj).1; have := zz0.out; have := zz1.out; have := zz2.out; have := zz3.out; have := zz4.out; have := zz5.out; have := zz6.out; have := zzbxx.out; have := zz7.out; have := zz8.out; have := zz9.out; have := zz10.out; have := zz11.out; have := zz12.out; have := zz13.out; have := zz14.out; have := zz15.out; have := zz16.out; have := zz17.out; omega)
          have hgb2 : Hid (∀ j, Value.ownBlock _ = some j → j < v9.heap.size) := Lib.hid (fun j hj => by have := (xul2.out j hj).2; have := zz0.out; have := zz1.out; have := zz2.out; have := zz3.out; have := zz4.out; have := zz5.out; have := zz6.out; have := zzbxx.out; have := zz7.out; have := zz8.out; have := zz9.out; have := zz10.out; have := zz11.out; have := zz12.out; have := zz13.out; have := zz14.out; have := zz15.out; have := zz16.out; have := zz17.out; omega)
          go_wp2_with fail
          refine (markInt64S_g _ v17 _ zs2 _ (by omega) (by omega) x2_17.out hl2).mono ?_
          rintro e v18 ⟨rfl, -, hg⟩
          clear x2_17
          have A18 := Lib.hid ((A17.out).grown hg (A17.out).size (fun j hj => by exact hlo2.out j hj))
          have zz18 := Lib.hid hg.size
          have g_18 := Lib.hid (g_17.out.apart hg (fun j hj => (xul2.out j hj).2))
          clear g_17
          clear hg
          go_wp2_with fail
          refine (eqInt64S_any v18 _ _ ((Ex.exA r0 c0 s0 xs0 xs1 zs2)) ((Ex.exA r0 c0 s0 xs0 xs1 zs2)) g_18.out.sl (SR.out.belowAll A18.out).sl ((Ex.exA_len hl1)) ((Ex.exA_len hl1))).mono ?_
          rintro e v19 ⟨rfl, b19⟩
          have zz19 := Lib.hid b19.size
          have A19 := Lib.hid (bt A18.out b19)
          have g_19 := Lib.hid (g_18.out.belowAll b19)
          clear g_18
          clear b19
          rw [show (((Ex.exA r0 c0 s0 xs0 xs1 zs2)) == ((Ex.exA r0 c0 s0 xs0 xs1 zs2))) = true from beq_self_eq_true _]
          go_wp2_with fail
          refine (markInt64S_g _ v19 _ ((Ex.exA r0 c0 s0 xs0 xs1 zs2)) 1 (by omega) (by omega) g_19.out ((Ex.exA_len hl1))).mono ?_
          rintro e v20 ⟨rfl, mo, hg⟩
          have gwl := Lib.hid (fun j hj => (World.ownsRow.lt g_19.out j hj).1)
          clear g_19
          have hwc : Hid (v5.heap.size ≤ v8.heap.size) := Lib.hid (by have := zz0.out; have := zz1.out; have := zz2.out; have := zz3.out; have := zz4.out; have := zz5.out; have := zz6.out; have := zzbxx.out; have := zz7.out; have := zz8.out; have := zz9.out; have := zz10.out; have := zz11.out; have := zz12.out; have := zz13.out; have := zz14.out; have := zz15.out; have := zz16.out; have := zz17.out; have := zz18.out; have := zz19.out; omega)
          have A20 := Lib.hid ((A19.out).grown hg (A19.out).size (fun j hj => by have := gwl.out j hj; have := hwc.out; omega))
          have zz20 := Lib.hid hg.size
          clear hg
          have mk_r := Lib.hid mo
          clear mo
          go_wp2_with fail
          refine (heldInt64S_any v20 _ ((Ex.exA r0 c0 s0 xs0 xs1 zs2)).length 1 (by omega) (by omega) (Own.sl mk_r.out) ((Ex.exA_len hl1))).mono ?_
          rintro e v21 ⟨rfl, b21⟩
          have zz21 := Lib.hid b21.size
          have A21 := Lib.hid (bt A20.out b21)
          have mk_21 := Lib.hid (own_belowAll mk_r.out b21)
          clear mk_r
          clear b21
          obtain ⟨qc0, qc1, qc2, qc3⟩ := (K0.out.all (bt BS.out A21.out)).four
          have qlt := (K0.out.all (bt BS.out A21.out)).lt
          go_wp2_with fail
          refine (toGrid_at v21 r0 c0 s0 _ xs0 (HV0.out.below (bt BS.out A21.out)) hl0).mono ?_
          rintro e v22 ⟨g22, rfl, hg22, hgl22, o22, b22⟩
          clear qc0 qc1 qc2 qc3 qlt
          have zz22 := Lib.hid b22.size
          have A22 := Lib.hid (bt A21.out b22)
          have mk_22 := Lib.hid (own_belowAll mk_21.out b22)
          clear mk_21
          have h0_r := Lib.hid o22
          have hgg22 := Lib.hid hg22
          have hgs22 := Lib.hid hgl22
          clear o22 b22 hg22 hgl22
          go_wp2_with fail
          refine (toAssetS_at v22 _ xs1 (HV1.out.below (bt BS.out A22.out)) hl1 hi1).mono ?_
          rintro e v23 ⟨rfl, o23, b23⟩
          have zz23 := Lib.hid b23.size
          have A23 := Lib.hid (bt A22.out b23)
          have mk_23 := Lib.hid (own_belowAll mk_22.out b23)
          clear mk_22
          have h0_23 := Lib.hid (h0_r.out.belowAll b23)
          clear h0_r
          have h01_r := Lib.hid o23
          clear o23 b23
          go_wp2_with fail
          refine (toInt64S_at v23 _ zs2 (HV2.out.below (bt BS.out A23.out)) hl2).mono ?_
          rintro e v24 ⟨rfl, o24, b24⟩
          have zz24 := Lib.hid b24.size
          have A24 := Lib.hid (bt A23.out b24)
          have mk_24 := Lib.hid (own_belowAll mk_23.out b24)
          clear mk_23
          have h0_24 := Lib.hid (h0_23.out.belowAll b24)
          clear h0_23
          have h01_24 := Lib.hid (h01_r.out.belowAll b24)
          clear h01_r
          have h02_r := Lib.hid o24
          clear o24 b24
          go_wp2_with fail
          refine (implExposedAssets_any v24 r0 c0 s0 _ xs0 _ xs1 _ zs2 h0_24.out.sl hl0 h01_24.out.sl hl1 hi1 h02_r.out.sl hl2  (HD.out.below (bt HB0.out (bt BS.out A24.out)))).mono ?_
          rintro e v25 ⟨u25, rfl, o25, b25⟩
          clear h0_24
          clear h01_24
          clear h02_r
          have zz25 := Lib.hid b25.size
          have A25 := Lib.hid (bt A24.out b25)
          have mk_25 := Lib.hid (own_belowAll mk_24.out b25)
          clear mk_24
          have h_r := Lib.hid o25
          clear o25 b25
          go_wp2_with fail
          refine (eqInt64S_any v25 _ _ ((Ex.exA r0 c0 s0 xs0 xs1 zs2)) ((Ex.exA r0 c0 s0 xs0 xs1 zs2)) h_r.out.sl (SR.out.belowAll A25.out).sl ((Ex.exA_len hl1)) ((Ex.exA_len hl1))).mono ?_
          rintro e v26 ⟨rfl, b26⟩
          have zz26 := Lib.hid b26.size
          have A26 := Lib.hid (bt A25.out b26)
          have mk_26 := Lib.hid (own_belowAll mk_25.out b26)
          clear mk_25
          have h_26 := Lib.hid (h_r.out.belowAll b26)
          clear h_r
          clear b26
          rw [show (((Ex.exA r0 c0 s0 xs0 xs1 zs2)) == ((Ex.exA r0 c0 s0 xs0 xs1 zs2))) = true from beq_self_eq_true _]
          clear h_26
          go_wp2_with fail
          refine (heldInt64S_any v26 _ ((Ex.exA r0 c0 s0 xs0 xs1 zs2)).length 1 (by omega) (by omega) (Own.sl mk_26.out) ((Ex.exA_len hl1))).mono ?_
          rintro e v27 ⟨rfl, b27⟩
          have zz27 := Lib.hid b27.size
          have A27 := Lib.hid (bt A26.out b27)
          have mk_27 := Lib.hid (own_belowAll mk_26.out b27)
          clear mk_26
          clear b27
          go_wp2_with fail
          go_ret
          exact ⟨rfl, bt HB0.out (bt BS.out A27.out)⟩)
      · have Z0 := Lib.hid (szGrid_in (boxG w r0 c0 s0 (.slice a0 xs0.length cap0) 24) r0 c0 s0 a0 xs0.length cap0 (1048576 : Int) (by omega) (by omega))
        have Z1 := Lib.hid (fun W h => szAssetS_out W _ xs1 ((w1.below HB0.out).below h) bd1 (by unfold maxLen; omega) ((1048576 : Int) - xs0.length) (by omega) (by omega) (by omega))
        clear bd1 hb1
        go_enter Tryd.func3, Tryd.ntmps3
        go_wp2_with fail
        refine Z0.out.mono ?_
        rintro e v0 ⟨rfl, b0⟩
        have B0 := Lib.hid b0
        clear b0 Z0
        go_wp2_with fail
        refine (Z1.out _ B0.out).mono ?_
        rintro e v1 ⟨rfl, b1⟩
        have B1 := Lib.hid (bt HB0.out (bt B0.out b1))
        clear b1 Z1
        go_wp2_with fail
        go_ret
        exact ⟨rfl, B1.out⟩
    · have hn0 : (1048576 : Int) < xs0.length := by omega
      have Z0 := Lib.hid (szGrid_out (boxG w r0 c0 s0 (.slice a0 xs0.length cap0) 24) r0 c0 s0 a0 xs0.length cap0 (1048576 : Int) (by omega) hn0 (by omega))
      have HB0 := Lib.hid (boxG_below w r0 c0 s0 (.slice a0 xs0.length cap0) 24)
      go_enter Tryd.func3, Tryd.ntmps3
      go_wp2_with fail
      refine Z0.out.mono ?_
      rintro e v1 ⟨rfl, b1⟩
      have B1 := Lib.hid (bt HB0.out b1)
      clear b1
      go_wp2_with fail
      go_ret
      exact ⟨rfl, B1.out⟩
  · have hsn : (1048576 : Int) < zs2.length := by omega
    go_enter Tryd.func3, Tryd.ntmps3
    go_wp2_with fail
    go_ret
    exact ⟨rfl, boxG_below w r0 c0 s0 (.slice a0 xs0.length cap0) 24⟩
end Go.Proofs.YtaldmdammipfjaaDoor.fnExactExposedAssets
