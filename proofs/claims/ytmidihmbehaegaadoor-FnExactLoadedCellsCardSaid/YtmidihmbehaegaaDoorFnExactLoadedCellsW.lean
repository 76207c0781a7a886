/-
  The walk of the law FnExactLoadedCells and what it stands on: For every field, every slice of directions (nil, shared and with spare room too) and every share and every least load the program's LoadedCells answers as its model, leaves its arguments as they were, and its answer owns its memory, where impl.leeWays holds what the program's text lays (tied by the card): the law returns true and writes nothing that was there. No other condition (beyond 2^20 masses and directions together the law itself returns true).
-/
import Derived.Test.YtmidihmbehaegaaDoorRows
import Derived.Test.YtmidihmbehaegaaDoorFdDe
import Derived.Test.YtmidihmbehaegaaDoorFdDf
import Derived.Test.YtmidihmbehaegaaDoorFdL
import Derived.Test.YtmidihmbehaegaaDoorFdG
import Derived.Test.YtmidihmbehaegaaDoorIntsM
import Derived.Test.YtmidihmbehaegaaDoorFdO
import Derived.WalkKit
import Derived.WalkSpells
import Derived.WalkLawsBesides
import Derived.Outline
import Derived.IntWalk
import Derived.Lib.Hide
import Derived.ProofKit
import Derived.OpenShut
import Derived.ShutString
import Derived.ChangeOld
import Derived.ChangeVars
import Derived.Below
import Derived.WalkSmall
import Derived.Lib.LaidTab
import Derived.LaidMore
import Derived.LaidSub
namespace Go.Proofs.YtmidihmbehaegaaDoor.fnExactLoadedCells
open Go.ChangeShapes Go.WideShapes Go.ChangeAt Go.RowKit
open Go.ChangeMaps (open_string shut_string)
set_option linter.unusedVariables false
def IsRow (k : IntKind) (w : World) (a : Option Addr) (len cap : Nat) (zs : List Int) : Prop :=
  (a = none ∧ len = 0 ∧ cap = 0 ∧ zs = []) ∨
  ∃ x, a = some x ∧ len ≤ cap ∧ cap ≤ maxLen ∧ zs.length = cap ∧ (∀ i, i < zs.length → w.cell? (x.add i) = some (.int k (zs.getD i 0))) ∧ ∀ n ∈ zs, (Lit.int k n).wf = true
set_option maxRecDepth 100000
set_option maxHeartbeats 6400000
theorem walk (r0 c0 : Int) (a0 : Option Addr) (cap0 : Nat) (xs0 : List Int) (a1 : Option Addr) (len1 cap1 : Nat) (z1 : List Int) (a2 : Int) (a3 : Int) (w : World) (w0 : Sl w (.slice a0 xs0.length cap0) xs0) (m0 : xs0.length ≤ maxLen) (wr0 : (Lit.int .i64 r0).wf = true) (wc0 : (Lit.int .i64 c0).wf = true) (w1 : IsRow .i64 w a1 len1 cap1 z1) (w2 : (Lit.int .i64 a2).wf = true) (w3 : (Lit.int .i64 a3).wf = true) (hL : laidMetH Tryd.prog Rows.fnExactLoadedCellsRow.laid w) (hsh : w.ShapedOpen Tryd.prog) :
    Calls Tryd.prog 6 #[.agg #[.int .i64 r0, .int .i64 c0, .slice a0 xs0.length cap0], .slice a1 len1 cap1, .int .i64 a2, .int .i64 a3] w fun e w' => e = .returned (.bool true) ∧ Below w.heap.size w w' := by
  have HW := Lib.hid (ways_of hL (by kernel_rfl))
  clear hL hsh
  unfold maxLen at m0
  obtain ⟨s1, hz1⟩ := Sl.of_row w1
  have hlm1 : len1 ≤ 9223372036854775807 := by rcases w1 with ⟨_, h, _⟩ | ⟨_, _, h1, h2, _⟩ <;> unfold maxLen at * <;> omega
  clear w1
  generalize z1.take len1 = zs1 at *
  subst hz1
  by_cases hb1 : zs1.length ≤ 1048576
  · have hsn1 : ¬ (1048576 : Int) < zs1.length := by omega
    have hl1 : zs1.length ≤ 1048576 := by omega
    by_cases hb0 : xs0.length ≤ 1048576
    · have hl0 : xs0.length ≤ 1048576 := by omega
      have hn0 : ¬ (1048576 : Int) - xs0.length < 0 := by omega
      have HB0 := Lib.hid (boxF_below w r0 c0 (.slice a0 xs0.length cap0) 24)
      have HV0 := Lib.hid (w0.below HB0.out)
      have K0 := Lib.hid (boxF_cells w r0 c0 (.slice a0 xs0.length cap0) 24)
      have HV1 := Lib.hid (s1.below HB0.out)
      have Z0 := Lib.hid (szField_in (boxF w r0 c0 (.slice a0 xs0.length cap0) 24) r0 c0 a0 xs0.length cap0 (1048576 : Int) (by omega) (by omega))
      clear w0 s1
      go_enter Tryd.func6, Tryd.ntmps6
      go_wp2_with fail
      refine Z0.out.mono ?_
      rintro e v1 ⟨rfl, b1⟩
      have B1 := Lib.hid b1
      have zz1 := Lib.hid b1.size
      clear b1 Z0
      obtain ⟨qc0, qc1, qc2⟩ := (K0.out.all B1.out).three
      have qlt := (K0.out.all B1.out).lt
      go_wp2_with fail
      refine (toField_at v1 r0 c0 _ xs0 (HV0.out.below B1.out) hl0).mono ?_
      rintro e v2 ⟨g2, rfl, hg2, hgl2, o2, b2⟩
      clear qc0 qc1 qc2 qlt
      have zz2 := Lib.hid b2.size
      have B2 := Lib.hid (bt B1.out b2)
      have p_r := Lib.hid o2
      have hgg2 := Lib.hid hg2
      have hgs2 := Lib.hid hgl2
      clear o2 b2 hg2 hgl2
      go_wp2_with fail
      refine (toInt64S_at v2 _ zs1 (HV1.out.below B2.out) hl1).mono ?_
      rintro e v3 ⟨rfl, o3, b3⟩
      have zz3 := Lib.hid b3.size
      have B3 := Lib.hid (bt B2.out b3)
      have p_3 := Lib.hid (p_r.out.belowAll b3)
      clear p_r
      have p1_r := Lib.hid o3
      clear o3 b3
      go_wp2_with fail
      refine (specLoadedCells_any v3 r0 c0 _ xs0 _ zs1 a2 a3 (p_3.out.at_ rfl) hl0 p1_r.out.sl hl1 ).mono ?_
      rintro e v4 ⟨u4, rfl, o4, b4⟩
      clear p_3
      clear p1_r
      have zz4 := Lib.hid b4.size
      have B4 := Lib.hid (bt B3.out b4)
      have s_r := Lib.hid o4
      clear o4 b4
      have BS := Lib.hid (B4.out)
      have A0 : Hid (Below v4.heap.size v4 v4) := Lib.hid (Below.refl _ _)
      have SR := s_r
      clear s_r
      obtain ⟨qc0, qc1, qc2⟩ := (K0.out.all (bt BS.out A0.out)).three
      have qlt := (K0.out.all (bt BS.out A0.out)).lt
      go_wp2_with fail
      refine (toField_at v4 r0 c0 _ xs0 (HV0.out.below (bt BS.out A0.out)) hl0).mono ?_
      rintro e v5 ⟨g5, rfl, hg5, hgl5, o5, b5⟩
      clear qc0 qc1 qc2 qlt
      have zz5 := Lib.hid b5.size
      have A5 := Lib.hid (bt A0.out b5)
      have x_r := Lib.hid o5
      have hgg5 := Lib.hid hg5
      have hgs5 := Lib.hid hgl5
      clear o5 b5 hg5 hgl5
      have bxxx := Lib.hid (boxF_below v5 r0 c0 (.slice (some ⟨g5, 0, none⟩) xs0.length xs0.length) 26)
      have x_5b := Lib.hid (x_r.out.belowAll bxxx.out)
      clear x_r
      have xx_b := Lib.hid (boxF_cells v5 r0 c0 (.slice (some ⟨g5, 0, none⟩) xs0.length xs0.length) 26)
      have zzbxx : Hid (v5.heap.size + 1 = (boxF v5 r0 c0 (.slice (some ⟨g5, 0, none⟩) xs0.length xs0.length) 26).heap.size) := Lib.hid (boxF_size v5 r0 c0 (.slice (some ⟨g5, 0, none⟩) xs0.length xs0.length) 26).symm
      have AAxx := Lib.hid (bt A5.out bxxx.out)
      go_wp2_with fail
      refine (toInt64S_at (boxF v5 r0 c0 (.slice (some ⟨g5, 0, none⟩) xs0.length xs0.length) 26) _ zs1 (HV1.out.below (bt BS.out AAxx.out)) hl1).mono ?_
      rintro e v6 ⟨rfl, o6, b6⟩
      have zz6 := Lib.hid b6.size
      have A6 := Lib.hid (bt AAxx.out b6)
      have x_6 := Lib.hid (x_5b.out.belowAll b6)
      clear x_5b
      have xx_6 := Lib.hid (xx_b.out.all b6)
      clear xx_b
      have x1_r := Lib.hid o6
      clear o6 b6
      have xul1 := Lib.hid (fun j hj => World.ownsRow.lt x1_r.out j hj)
      obtain ⟨xc0, xc1, xc2⟩ := (xx_6.out).three
      have xlt := (xx_6.out).lt
      go_wp2_with fail
      refine (implLoadedCells_any v6 r0 c0 _ xs0 _ zs1 a2 a3 (x_6.out.at_ rfl) hl0 x1_r.out.sl hl1  (HW.out.below (bt HB0.out (bt BS.out A6.out)))).mono ?_
      rintro e v7 ⟨u7, rfl, o7, b7⟩
      clear xc0 xc1 xc2 xlt
      have zz7 := Lib.hid b7.size
      have A7 := Lib.hid (bt A6.out b7)
      have x_7 := Lib.hid (x_6.out.belowAll b7)
      clear x_6
      have xx_7 := Lib.hid (xx_6.out.all b7)
      clear xx_6
      have x1_7 := Lib.hid (x1_r.out.belowAll b7)
      clear x1_r
      have g_r := Lib.hid o7
      have gul := Lib.hid (fun j hj => (World.ownsRow.lt o7 j hj).2)
      clear o7 b7
      go_wp2_with fail
      refine (eqInt64S_any v7 _ _ ((Fw.lcZ r0 c0 xs0 zs1 a2 a3)) ((Fw.lcZ r0 c0 xs0 zs1 a2 a3)) g_r.out.sl (SR.out.belowAll A7.out).sl ((Fw.lcZ_len hl0)) ((Fw.lcZ_len hl0))).mono ?_
      rintro e v8 ⟨rfl, b8⟩
      have zz8 := Lib.hid b8.size
      have A8 := Lib.hid (bt A7.out b8)
      have x_8 := Lib.hid (x_7.out.belowAll b8)
      clear x_7
      have xx_8 := Lib.hid (xx_7.out.all b8)
      clear xx_7
      have x1_8 := Lib.hid (x1_7.out.belowAll b8)
      clear x1_7
      have g_8 := Lib.hid (g_r.out.belowAll b8)
      clear g_r
      clear b8
      rw [show (((Fw.lcZ r0 c0 xs0 zs1 a2 a3)) == ((Fw.lcZ r0 c0 xs0 zs1 a2 a3))) = true from beq_self_eq_true _]
      have KQ : Hid (∀ W, Below v8.heap.size v8 W → FC W w.heap.size r0 c0 (.slice a0 xs0.length cap0)) := Lib.hid (fun W h => (K0.out.all (bt BS.out A8.out)).all h)
      have KX : Hid (∀ W, Below v8.heap.size v8 W → FC W v5.heap.size r0 c0 (.slice (some ⟨g5, 0, none⟩) xs0.length xs0.length)) := Lib.hid (fun W h => xx_8.out.all h)
      have T1 : Hid (∀ W, Below v8.heap.size v8 W → Calls Tryd.prog 11 #[.agg #[.int .i64 r0, .int .i64 c0, .slice a0 xs0.length cap0]] W fun e w' => ∃ g, e = .returned (.agg #[.int .i64 r0, .int .i64 c0, .slice (some ⟨g, 0, none⟩) xs0.length xs0.length]) ∧ W.heap.size ≤ g ∧ g < w'.heap.size ∧ Own W.heap.size w' (.slice (some ⟨g, 0, none⟩) xs0.length xs0.length) xs0 ∧ Below W.heap.size W w') := Lib.hid (fun W h => toField_at W r0 c0 _ xs0 (HV0.out.below (bt (bt BS.out A8.out) h)) hl0)
      have T2 : Hid (∀ W u, Below v8.heap.size v8 W → Sl W u xs0 → Calls Tryd.prog 13 #[.agg #[.int .i64 r0, .int .i64 c0, .slice (some ⟨g5, 0, none⟩) xs0.length xs0.length], .agg #[.int .i64 r0, .int .i64 c0, u]] W fun e w' => e = .returned (.bool true) ∧ Below W.heap.size W w') := Lib.hid (fun W u h hs => eqField_self W r0 c0 _ u xs0 (x_8.out.sl.below h) hs hl0)
      obtain ⟨kc0, kc1, kc2⟩ := (KQ.out _ (Below.refl _ _)).three
      obtain ⟨xc0, xc1, xc2⟩ := (KX.out _ (Below.refl _ _)).three
      have hklt := (KQ.out _ (Below.refl _ _)).lt
      have hxlt := (KX.out _ (Below.refl _ _)).lt
      go_wp2_with fail
      go_region_held3 (fun w' => w'.cell? ⟨w.heap.size, 0, none⟩ = some (.int .i64 r0) ∧ w'.cell? ⟨w.heap.size, 1, none⟩ = some (.int .i64 c0) ∧ w'.cell? ⟨w.heap.size, 2, none⟩ = some (.slice a0 xs0.length cap0) ∧ w'.cell? ⟨v5.heap.size, 0, none⟩ = some (.int .i64 r0) ∧ w'.cell? ⟨v5.heap.size, 1, none⟩ = some (.int .i64 c0) ∧ w'.cell? ⟨v5.heap.size, 2, none⟩ = some (.slice (some ⟨g5, 0, none⟩) xs0.length xs0.length)) (go_keep)
        (first
          | (go_at_call 11; refine (T1.out _ (by first | exact bdr1 _ | exact Below.refl _ _)).mono ?_; rintro e vA ⟨gA, rfl, -, -, oA, bA⟩; have bA0 : Below v8.heap.size v8 vA := (by first | exact bt (bdr1 _) bA | exact bA); obtain ⟨lc0, lc1, lc2⟩ := (KQ.out vA bA0).three; obtain ⟨yc0, yc1, yc2⟩ := (KX.out vA bA0).three)
          | (go_at_call 13; refine (T2.out _ _ (by first | exact bA0 | exact bt bA0 (bdr1 _)) (by first | exact oA.sl | exact (oA.drewN 1).sl)).mono ?_; rintro e v9 ⟨rfl, bC⟩; have b9 : Below v8.heap.size v8 v9 := (by first | exact bt bA0 bC | exact bt (bt bA0 (bdr1 _)) bC); obtain ⟨zc0, zc1, zc2⟩ := (KQ.out v9 b9).three; obtain ⟨tc0, tc1, tc2⟩ := (KX.out v9 b9).three))
      all_goals (
        try clear KQ KX T1 T2 oA bA bA0 bC kc0 kc1 kc2 xc0 xc1 xc2 lc0 lc1 lc2 yc0 yc1 yc2 zc0 zc1 zc2 tc0 tc1 tc2 hklt hxlt
        have zz9 := Lib.hid b9.size
        have A9 := Lib.hid (bt A8.out b9)
        have x_9 := Lib.hid (x_8.out.belowAll b9)
        clear x_8
        have xx_9 := Lib.hid (xx_8.out.all b9)
        clear xx_8
        have x1_9 := Lib.hid (x1_8.out.belowAll b9)
        clear x1_8
        have g_9 := Lib.hid (g_8.out.belowAll b9)
        clear g_8
        clear b9
        go_wp2_with fail
        refine (toInt64S_at v9 _ zs1 (HV1.out.below (bt BS.out A9.out)) hl1).mono ?_
        rintro e v10 ⟨rfl, o10, b10⟩
        have zz10 := Lib.hid b10.size
        have A10 := Lib.hid (bt A9.out b10)
        have x_10 := Lib.hid (x_9.out.belowAll b10)
        clear x_9
        have xx_10 := Lib.hid (xx_9.out.all b10)
        clear xx_9
        have x1_10 := Lib.hid (x1_9.out.belowAll b10)
        clear x1_9
        have g_10 := Lib.hid (g_9.out.belowAll b10)
        clear g_9
        have y1_r := Lib.hid o10
        clear o10 b10
        go_wp2_with fail
        refine (eqInt64S_any v10 _ _ zs1 zs1 x1_10.out.sl y1_r.out.sl hl1 hl1).mono ?_
        rintro e v11 ⟨rfl, b11⟩
        clear y1_r
        have zz11 := Lib.hid b11.size
        have A11 := Lib.hid (bt A10.out b11)
        have x_11 := Lib.hid (x_10.out.belowAll b11)
        clear x_10
        have xx_11 := Lib.hid (xx_10.out.all b11)
        clear xx_10
        have x1_11 := Lib.hid (x1_10.out.belowAll b11)
        clear x1_10
        have g_11 := Lib.hid (g_10.out.belowAll b11)
        clear g_10
        clear b11
        rw [show (zs1 == zs1) = true from beq_self_eq_true _]
        obtain ⟨xc0, xc1, xc2⟩ := (xx_11.out).three
        have xlt := (xx_11.out).lt
        go_wp2_with fail
        have hlo : Hid (v4.heap.size ≤ g5) := Lib.hid (by have := hgg5.out; have := zz5.out; omega)
        have hhi : Hid (g5 < v6.heap.size) := Lib.hid (by have := hgs5.out; have := zz1.out; have := zz2.out; have := zz3.out; have := zz4.out; have := zz5.out; have := zzbxx.out; have := zz6.out; have := zz7.out; have := zz8.out; have := zz9.out; have := zz10.out; have := zz11.out; omega)
        have hgb : Hid (g5 < v7.heap.size) := Lib.hid (by have := hhi.out; have := zz1.out; have := zz2.out; have := zz3.out; have := zz4.out; have := zz5.out; have := zzbxx.out; have := zz6.out; have := zz7.out; have := zz8.out; have := zz9.out; have := zz10.out; have := zz11.out; omega)
        refine (markField_own _ v11 r0 c0 g5 xs0.length xs0.length xs0 1 (by omega) (by omega) x_11.out rfl hl0).mono ?_
        rintro e v12 ⟨rfl, -, hg⟩
        clear xc0 xc1 xc2 xlt
        clear x_11
        clear xx_11
        have A12 := Lib.hid ((A11.out).grown hg (A11.out).size (fun j hj => by simp only [Option.some.injEq] at hj; have := hlo.out; omega))
        have zz12 := Lib.hid hg.size
        have x1_12 := Lib.hid (own_other x1_11.out hg (by have := hgs5.out; have := zz1.out; have := zz2.out; have := zz3.out; have := zz4.out; have := zz5.out; have := zzbxx.out; have := zz6.out; have := zz7.out; have := zz8.out; have := zz9.out; have := zz10.out; have := zz11.out; omega))
        clear x1_11
        have g_12 := Lib.hid (g_11.out.far hg hhi.out)
        clear g_11
        clear hg
        have hlo1 : Hid (∀ j, Value.ownBlock _ = some j → v4.heap.size ≤ j) := Lib.hid (fun j hj => by have := (xul1.out j hj).1; have := zz1.out; have := zz2.out; have := zz3.out; have := zz4.out; have := zz5.out; have := zzbxx.out; have := zz6.out; have := zz7.out; have := zz8.out; have := zz9.out; have := zz10.out; have := zz11.out; have := zz12.out; omega)
        have hgb1 : Hid (∀ j, Value.ownBlock _ = some j → j < v7.heap.size) := Lib.hid (fun j hj => by have := (xul1.out j hj).2; have := zz1.out; have := zz2.out; have := zz3.out; have := zz4.out; have := zz5.out; have := zzbxx.out; have := zz6.out; have := zz7.out; have := zz8.out; have := zz9.out; have := zz10.out; have := zz11.out; have := zz12.out; omega)
        go_wp2_with fail
        refine (markInt64S_g _ v12 _ zs1 _ (by omega) (by omega) x1_12.out hl1).mono ?_
        rintro e v13 ⟨rfl, -, hg⟩
        clear x1_12
        have A13 := Lib.hid ((A12.out).grown hg (A12.out).size (fun j hj => by exact hlo1.out j hj))
        have zz13 := Lib.hid hg.size
        have g_13 := Lib.hid (g_12.out.apart hg (fun j hj => (xul1.out j hj).2))
        clear g_12
        clear hg
        go_wp2_with fail
        refine (eqInt64S_any v13 _ _ ((Fw.lcZ r0 c0 xs0 zs1 a2 a3)) ((Fw.lcZ r0 c0 xs0 zs1 a2 a3)) g_13.out.sl (SR.out.belowAll A13.out).sl ((Fw.lcZ_len hl0)) ((Fw.lcZ_len hl0))).mono ?_
        rintro e v14 ⟨rfl, b14⟩
        have zz14 := Lib.hid b14.size
        have A14 := Lib.hid (bt A13.out b14)
        have g_14 := Lib.hid (g_13.out.belowAll b14)
        clear g_13
        clear b14
        rw [show (((Fw.lcZ r0 c0 xs0 zs1 a2 a3)) == ((Fw.lcZ r0 c0 xs0 zs1 a2 a3))) = true from beq_self_eq_true _]
        go_wp2_with fail
        refine (markInt64S_g _ v14 _ ((Fw.lcZ r0 c0 xs0 zs1 a2 a3)) 1 (by omega) (by omega) g_14.out ((Fw.lcZ_len hl0))).mono ?_
        rintro e v15 ⟨rfl, mo, hg⟩
        have gwl := Lib.hid (fun j hj => (World.ownsRow.lt g_14.out j hj).1)
        clear g_14
        have hwc : Hid (v4.heap.size ≤ v6.heap.size) := Lib.hid (by have := zz1.out; have := zz2.out; have := zz3.out; have := zz4.out; have := zz5.out; have := zzbxx.out; have := zz6.out; have := zz7.out; have := zz8.out; have := zz9.out; have := zz10.out; have := zz11.out; have := zz12.out; have := zz13.out; have := zz14.out; omega)
        have A15 := Lib.hid ((A14.out).grown hg (A14.out).size (fun j hj => by have := gwl.out j hj; have := hwc.out; omega))
        have zz15 := Lib.hid hg.size
        clear hg
        have mk_r := Lib.hid mo
        clear mo
        go_wp2_with fail
        refine (heldInt64S_any v15 _ ((Fw.lcZ r0 c0 xs0 zs1 a2 a3)).length 1 (by omega) (by omega) (Own.sl mk_r.out) ((Fw.lcZ_len hl0))).mono ?_
        rintro e v16 ⟨rfl, b16⟩
        have zz16 := Lib.hid b16.size
        have A16 := Lib.hid (bt A15.out b16)
        have mk_16 := Lib.hid (own_belowAll mk_r.out b16)
        clear mk_r
        clear b16
        obtain ⟨qc0, qc1, qc2⟩ := (K0.out.all (bt BS.out A16.out)).three
        have qlt := (K0.out.all (bt BS.out A16.out)).lt
        go_wp2_with fail
        refine (toField_at v16 r0 c0 _ xs0 (HV0.out.below (bt BS.out A16.out)) hl0).mono ?_
        rintro e v17 ⟨g17, rfl, hg17, hgl17, o17, b17⟩
        clear qc0 qc1 qc2 qlt
        have zz17 := Lib.hid b17.size
        have A17 := Lib.hid (bt A16.out b17)
        have mk_17 := Lib.hid (own_belowAll mk_16.out b17)
        clear mk_16
        have h0_r := Lib.hid o17
        have hgg17 := Lib.hid hg17
        have hgs17 := Lib.hid hgl17
        clear o17 b17 hg17 hgl17
        go_wp2_with fail
        refine (toInt64S_at v17 _ zs1 (HV1.out.below (bt BS.out A17.out)) hl1).mono ?_
        rintro e v18 ⟨rfl, o18, b18⟩
        have zz18 := Lib.hid b18.size
        have A18 := Lib.hid (bt A17.out b18)
        have mk_18 := Lib.hid (own_belowAll mk_17.out b18)
        clear mk_17
        have h0_18 := Lib.hid (h0_r.out.belowAll b18)
        clear h0_r
        have h01_r := Lib.hid o18
        clear o18 b18
        go_wp2_with fail
        refine (implLoadedCells_any v18 r0 c0 _ xs0 _ zs1 a2 a3 (h0_18.out.at_ rfl) hl0 h01_r.out.sl hl1  (HW.out.below (bt HB0.out (bt BS.out A18.out)))).mono ?_
        rintro e v19 ⟨u19, rfl, o19, b19⟩
        clear h0_18
        clear h01_r
        have zz19 := Lib.hid b19.size
        have A19 := Lib.hid (bt A18.out b19)
        have mk_19 := Lib.hid (own_belowAll mk_18.out b19)
        clear mk_18
        have h_r := Lib.hid o19
        clear o19 b19
        go_wp2_with fail
        refine (eqInt64S_any v19 _ _ ((Fw.lcZ r0 c0 xs0 zs1 a2 a3)) ((Fw.lcZ r0 c0 xs0 zs1 a2 a3)) h_r.out.sl (SR.out.belowAll A19.out).sl ((Fw.lcZ_len hl0)) ((Fw.lcZ_len hl0))).mono ?_
        rintro e v20 ⟨rfl, b20⟩
        have zz20 := Lib.hid b20.size
        have A20 := Lib.hid (bt A19.out b20)
        have mk_20 := Lib.hid (own_belowAll mk_19.out b20)
        clear mk_19
        have h_20 := Lib.hid (h_r.out.belowAll b20)
        clear h_r
        clear b20
        rw [show (((Fw.lcZ r0 c0 xs0 zs1 a2 a3)) == ((Fw.lcZ r0 c0 xs0 zs1 a2 a3))) = true from beq_self_eq_true _]
        clear h_20
        go_wp2_with fail
        refine (heldInt64S_any v20 _ ((Fw.lcZ r0 c0 xs0 zs1 a2 a3)).length 1 (by omega) (by omega) (Own.sl mk_20.out) ((Fw.lcZ_len hl0))).mono ?_
        rintro e v21 ⟨rfl, b21⟩
        have zz21 := Lib.hid b21.size
        have A21 := Lib.hid (bt A20.out b21)
        have mk_21 := Lib.hid (own_belowAll mk_20.out b21)
        clear mk_20
        clear b21
        go_wp2_with fail
        go_ret
        exact ⟨rfl, bt HB0.out (bt BS.out A21.out)⟩)
    · have hn0 : (1048576 : Int) < xs0.length := by omega
      have Z0 := Lib.hid (szField_out (boxF w r0 c0 (.slice a0 xs0.length cap0) 24) r0 c0 a0 xs0.length cap0 (1048576 : Int) (by omega) hn0 (by omega))
      have HB0 := Lib.hid (boxF_below w r0 c0 (.slice a0 xs0.length cap0) 24)
      go_enter Tryd.func6, Tryd.ntmps6
      go_wp2_with fail
      refine Z0.out.mono ?_
      rintro e v1 ⟨rfl, b1⟩
      have B1 := Lib.hid (bt HB0.out b1)
      clear b1
      go_wp2_with fail
      go_ret
      exact ⟨rfl, B1.out⟩
  · have hsn : (1048576 : Int) < zs1.length := by omega
    go_enter Tryd.func6, Tryd.ntmps6
    go_wp2_with fail
    go_ret
    exact ⟨rfl, boxF_below w r0 c0 (.slice a0 xs0.length cap0) 24⟩
end Go.Proofs.YtmidihmbehaegaaDoor.fnExactLoadedCells
