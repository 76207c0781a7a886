/-
  The walk of the law FnExactDriftStep and what it stands on: For every field, direction and share the program's DriftStep answers as its model, where impl.leeWays holds what the program's text lays (tied by the card): the law returns true and writes nothing that was there. No other condition.
-/
import Derived.Test.YtmidihmbehaegaaDoorRows
import Derived.Test.YtmidihmbehaegaaDoorFdX
import Derived.Test.YtmidihmbehaegaaDoorFdY
import Derived.Test.YtmidihmbehaegaaDoorFdL
import Derived.Test.YtmidihmbehaegaaDoorFdO
import Derived.WalkKit
import Derived.WalkSpells
import Derived.WalkLawsBesides
import Derived.Outline
import Derived.IntWalk
import Derived.Lib.Hide
import Derived.ProofKit
import Derived.OpenShut
import Derived.ShutString
import Derived.ChangeOld
import Derived.ChangeVars
import Derived.Below
import Derived.WalkSmall
import Derived.Lib.LaidTab
import Derived.LaidMore
import Derived.LaidSub
namespace Go.Proofs.YtmidihmbehaegaaDoor.fnExactDriftStep
open Go.ChangeShapes Go.WideShapes Go.ChangeAt Go.RowKit
open Go.ChangeMaps (open_string shut_string)
set_option linter.unusedVariables false
set_option maxRecDepth 100000
set_option maxHeartbeats 6400000
theorem walk (r0 c0 : Int) (a0 : Option Addr) (cap0 : Nat) (xs0 : List Int) (a1 : Int) (a2 : Int) (w : World) (w0 : Sl w (.slice a0 xs0.length cap0) xs0) (m0 : xs0.length ≤ maxLen) (wr0 : (Lit.int .i64 r0).wf = true) (wc0 : (Lit.int .i64 c0).wf = true) (w1 : (Lit.int .i64 a1).wf = true) (w2 : (Lit.int .i64 a2).wf = true) (hL : laidMetH Tryd.prog Rows.fnExactDriftStepRow.laid w) (hsh : w.ShapedOpen Tryd.prog) :
    Calls Tryd.prog 3 #[.agg #[.int .i64 r0, .int .i64 c0, .slice a0 xs0.length cap0], .int .i64 a1, .int .i64 a2] w fun e w' => e = .returned (.bool true) ∧ Below w.heap.size w w' := by
  have HW := Lib.hid (ways_of hL (by kernel_rfl))
  clear hL hsh
  unfold maxLen at m0
  by_cases hb0 : xs0.length ≤ 1048576
  · have hl0 : xs0.length ≤ 1048576 := by omega
    have hn0 : ¬ (1048576 : Int) - xs0.length < 0 := by omega
    have HB0 := Lib.hid (boxF_below w r0 c0 (.slice a0 xs0.length cap0) 24)
    have HV0 := Lib.hid (w0.below HB0.out)
    have K0 := Lib.hid (boxF_cells w r0 c0 (.slice a0 xs0.length cap0) 24)
    have Z0 := Lib.hid (szField_in (boxF w r0 c0 (.slice a0 xs0.length cap0) 24) r0 c0 a0 xs0.length cap0 (1048576 : Int) (by omega) (by omega))
    clear w0 
    go_enter Tryd.func3, Tryd.ntmps3
    go_wp2_with fail
    refine Z0.out.mono ?_
    rintro e v1 ⟨rfl, b1⟩
    have B1 := Lib.hid b1
    have zz1 := Lib.hid b1.size
    clear b1 Z0
    obtain ⟨qc0, qc1, qc2⟩ := (K0.out.all B1.out).three
    have qlt := (K0.out.all B1.out).lt
    go_wp2_with fail
    refine (toField_at v1 r0 c0 _ xs0 (HV0.out.below B1.out) hl0).mono ?_
    rintro e v2 ⟨g2, rfl, hg2, hgl2, o2, b2⟩
    clear qc0 qc1 qc2 qlt
    have zz2 := Lib.hid b2.size
    have B2 := Lib.hid (bt B1.out b2)
    have p_r := Lib.hid o2
    have hgg2 := Lib.hid hg2
    have hgs2 := Lib.hid hgl2
    clear o2 b2 hg2 hgl2
    go_wp2_with fail
    refine (specDriftStep_any v2 r0 c0 _ xs0 a1 a2 (p_r.out.at_ rfl) hl0 ).mono ?_
    rintro e v3 ⟨au3, cu3, rfl, o3, b3⟩
    clear p_r
    have zz3 := Lib.hid b3.size
    have B3 := Lib.hid (bt B2.out b3)
    have s_r := Lib.hid o3
    clear o3 b3
    have bxsx := Lib.hid (boxF_below v3 (Fw.drR r0 c0 xs0 [a1] a2) (Fw.drK r0 c0 xs0 [a1] a2) (.slice au3 ((Fw.drZ r0 c0 xs0 [a1] a2)).length cu3) 26)
    have s_3b := Lib.hid (s_r.out.belowAll bxsx.out)
    clear s_r
    have sx_b := Lib.hid (boxF_cells v3 (Fw.drR r0 c0 xs0 [a1] a2) (Fw.drK r0 c0 xs0 [a1] a2) (.slice au3 ((Fw.drZ r0 c0 xs0 [a1] a2)).length cu3) 26)
    have zzbsx : Hid (v3.heap.size + 1 = (boxF v3 (Fw.drR r0 c0 xs0 [a1] a2) (Fw.drK r0 c0 xs0 [a1] a2) (.slice au3 ((Fw.drZ r0 c0 xs0 [a1] a2)).length cu3) 26).heap.size) := Lib.hid (boxF_size v3 (Fw.drR r0 c0 xs0 [a1] a2) (Fw.drK r0 c0 xs0 [a1] a2) (.slice au3 ((Fw.drZ r0 c0 xs0 [a1] a2)).length cu3) 26).symm
    have BBsx := Lib.hid (bt B3.out bxsx.out)
    have BS := Lib.hid (BBsx.out)
    have A0 : Hid (Below (boxF v3 (Fw.drR r0 c0 xs0 [a1] a2) (Fw.drK r0 c0 xs0 [a1] a2) (.slice au3 ((Fw.drZ r0 c0 xs0 [a1] a2)).length cu3) 26).heap.size (boxF v3 (Fw.drR r0 c0 xs0 [a1] a2) (Fw.drK r0 c0 xs0 [a1] a2) (.slice au3 ((Fw.drZ r0 c0 xs0 [a1] a2)).length cu3) 26) (boxF v3 (Fw.drR r0 c0 xs0 [a1] a2) (Fw.drK r0 c0 xs0 [a1] a2) (.slice au3 ((Fw.drZ r0 c0 xs0 [a1] a2)).length cu3) 26)) := Lib.hid (Below.refl _ _)
    have SR := s_3b
    clear s_3b
    have SX := sx_b
    clear sx_b
    obtain ⟨qc0, qc1, qc2⟩ := (K0.out.all B3.out).three
    have qlt := (K0.out.all B3.out).lt
    go_wp2_with fail
    refine (toField_at (boxF v3 (Fw.drR r0 c0 xs0 [a1] a2) (Fw.drK r0 c0 xs0 [a1] a2) (.slice au3 ((Fw.drZ r0 c0 xs0 [a1] a2)).length cu3) 26) r0 c0 _ xs0 (HV0.out.below (bt BS.out A0.out)) hl0).mono ?_
    rintro e v4 ⟨g4, rfl, hg4, hgl4, o4, b4⟩
    clear qc0 qc1 qc2 qlt
    have zz4 := Lib.hid b4.size
    have A4 := Lib.hid (bt A0.out b4)
    have x_r := Lib.hid o4
    have hgg4 := Lib.hid hg4
    have hgs4 := Lib.hid hgl4
    clear o4 b4 hg4 hgl4
    have bxxx := Lib.hid (boxF_below v4 r0 c0 (.slice (some ⟨g4, 0, none⟩) xs0.length xs0.length) 26)
    have x_4b := Lib.hid (x_r.out.belowAll bxxx.out)
    clear x_r
    have xx_b := Lib.hid (boxF_cells v4 r0 c0 (.slice (some ⟨g4, 0, none⟩) xs0.length xs0.length) 26)
    have zzbxx : Hid (v4.heap.size + 1 = (boxF v4 r0 c0 (.slice (some ⟨g4, 0, none⟩) xs0.length xs0.length) 26).heap.size) := Lib.hid (boxF_size v4 r0 c0 (.slice (some ⟨g4, 0, none⟩) xs0.length xs0.length) 26).symm
    have AAxx := Lib.hid (bt A4.out bxxx.out)
    go_wp2_with fail
    refine (implDriftStep_any (boxF v4 r0 c0 (.slice (some ⟨g4, 0, none⟩) xs0.length xs0.length) 26) r0 c0 _ xs0 a1 a2 (x_4b.out.at_ rfl) hl0  (HW.out.below (bt HB0.out (bt BS.out AAxx.out)))).mono ?_
    rintro e v5 ⟨au5, cu5, rfl, o5, b5⟩
    have zz5 := Lib.hid b5.size
    have A5 := Lib.hid (bt AAxx.out b5)
    have x_5 := Lib.hid (x_4b.out.belowAll b5)
    clear x_4b
    have xx_5 := Lib.hid (xx_b.out.all b5)
    clear xx_b
    have g_r := Lib.hid o5
    have gul := Lib.hid (fun j hj => (World.ownsRow.lt o5 j hj).2)
    clear o5 b5
    have bxgx := Lib.hid (boxF_below v5 (Fw.drR r0 c0 xs0 [a1] a2) (Fw.drK r0 c0 xs0 [a1] a2) (.slice au5 ((Fw.drZ r0 c0 xs0 [a1] a2)).length cu5) 26)
    have x_5b := Lib.hid (x_5.out.belowAll bxgx.out)
    clear x_5
    have xx_5b := Lib.hid (xx_5.out.all bxgx.out)
    have g_5b := Lib.hid (g_r.out.belowAll bxgx.out)
    clear g_r
    have gx_b := Lib.hid (boxF_cells v5 (Fw.drR r0 c0 xs0 [a1] a2) (Fw.drK r0 c0 xs0 [a1] a2) (.slice au5 ((Fw.drZ r0 c0 xs0 [a1] a2)).length cu5) 26)
    have zzbgx : Hid (v5.heap.size + 1 = (boxF v5 (Fw.drR r0 c0 xs0 [a1] a2) (Fw.drK r0 c0 xs0 [a1] a2) (.slice au5 ((Fw.drZ r0 c0 xs0 [a1] a2)).length cu5) 26).heap.size) := Lib.hid (boxF_size v5 (Fw.drR r0 c0 xs0 [a1] a2) (Fw.drK r0 c0 xs0 [a1] a2) (.slice au5 ((Fw.drZ r0 c0 xs0 [a1] a2)).length cu5) 26).symm
    have AAgx := Lib.hid (bt A5.out bxgx.out)
    obtain ⟨sc0, sc1, sc2⟩ := (SX.out.all A5.out).three
    have slt := (SX.out.all A5.out).lt
    go_wp2_with fail
    refine (eqField_self (boxF v5 (Fw.drR r0 c0 xs0 [a1] a2) (Fw.drK r0 c0 xs0 [a1] a2) (.slice au5 ((Fw.drZ r0 c0 xs0 [a1] a2)).length cu5) 26) ((Fw.drR r0 c0 xs0 [a1] a2)) ((Fw.drK r0 c0 xs0 [a1] a2)) _ _ ((Fw.drZ r0 c0 xs0 [a1] a2)) g_5b.out.sl (SR.out.belowAll AAgx.out).sl ((Fw.drZ_len hl0))).mono ?_
    rintro e v6 ⟨rfl, b6⟩
    clear sc0 sc1 sc2 slt
    clear xx_5
    have zz6 := Lib.hid b6.size
    have A6 := Lib.hid (bt AAgx.out b6)
    have x_6 := Lib.hid (x_5b.out.belowAll b6)
    clear x_5b
    have xx_6 := Lib.hid (xx_5b.out.all b6)
    clear xx_5b
    have g_6 := Lib.hid (g_5b.out.belowAll b6)
    clear g_5b
    have gx_6 := Lib.hid (gx_b.out.all b6)
    clear gx_b
    clear b6
    have KQ : Hid (∀ W, Below v6.heap.size v6 W → FC W w.heap.size r0 c0 (.slice a0 xs0.length cap0)) := Lib.hid (fun W h => (K0.out.all (bt BS.out A6.out)).all h)
    have KX : Hid (∀ W, Below v6.heap.size v6 W → FC W v4.heap.size r0 c0 (.slice (some ⟨g4, 0, none⟩) xs0.length xs0.length)) := Lib.hid (fun W h => xx_6.out.all h)
    have T1 : Hid (∀ W, Below v6.heap.size v6 W → Calls Tryd.prog 11 #[.agg #[.int .i64 r0, .int .i64 c0, .slice a0 xs0.length cap0]] W fun e w' => ∃ g, e = .returned (.agg #[.int .i64 r0, .int .i64 c0, .slice (some ⟨g, 0, none⟩) xs0.length xs0.length]) ∧ W.heap.size ≤ g ∧ g < w'.heap.size ∧ Own W.heap.size w' (.slice (some ⟨g, 0, none⟩) xs0.length xs0.length) xs0 ∧ Below W.heap.size W w') := Lib.hid (fun W h => toField_at W r0 c0 _ xs0 (HV0.out.below (bt (bt BS.out A6.out) h)) hl0)
    have T2 : Hid (∀ W u, Below v6.heap.size v6 W → Sl W u xs0 → Calls Tryd.prog 13 #[.agg #[.int .i64 r0, .int .i64 c0, .slice (some ⟨g4, 0, none⟩) xs0.length xs0.length], .agg #[.int .i64 r0, .int .i64 c0, u]] W fun e w' => e = .returned (.bool true) ∧ Below W.heap.size W w') := Lib.hid (fun W u h hs => eqField_self W r0 c0 _ u xs0 (x_6.out.sl.below h) hs hl0)
    obtain ⟨kc0, kc1, kc2⟩ := (KQ.out _ (Below.refl _ _)).three
    obtain ⟨xc0, xc1, xc2⟩ := (KX.out _ (Below.refl _ _)).three
    have hklt := (KQ.out _ (Below.refl _ _)).lt
    have hxlt := (KX.out _ (Below.refl _ _)).lt
    go_wp2_with fail
    go_region_held3 (fun w' => w'.cell? ⟨w.heap.size, 0, none⟩ = some (.int .i64 r0) ∧ w'.cell? ⟨w.heap.size, 1, none⟩ = some (.int .i64 c0) ∧ w'.cell? ⟨w.heap.size, 2, none⟩ = some (.slice a0 xs0.length cap0) ∧ w'.cell? ⟨v4.heap.size, 0, none⟩ = some (.int .i64 r0) ∧ w'.cell? ⟨v4.heap.size, 1, none⟩ = some (.int .i64 c0) ∧ w'.cell? ⟨v4.heap.size, 2, none⟩ = some (.slice (some ⟨g4, 0, none⟩) xs0.length xs0.length)) (go_keep)
      (first
        | (go_at_call 11; refine (T1.out _ (by first | exact bdr1 _ | exact Below.refl _ _)).mono ?_; rintro e vA ⟨gA, rfl, -, -, oA, bA⟩; have bA0 : Below v6.heap.size v6 vA := (by first | exact bt (bdr1 _) bA | exact bA); obtain ⟨lc0, lc1, lc2⟩ := (KQ.out vA bA0).three; obtain ⟨yc0, yc1, yc2⟩ := (KX.out vA bA0).three)
        | (go_at_call 13; refine (T2.out _ _ (by first | exact bA0 | exact bt bA0 (bdr1 _)) (by first | exact oA.sl | exact (oA.drewN 1).sl)).mono ?_; rintro e v7 ⟨rfl, bC⟩; have b7 : Below v6.heap.size v6 v7 := (by first | exact bt bA0 bC | exact bt (bt bA0 (bdr1 _)) bC); obtain ⟨zc0, zc1, zc2⟩ := (KQ.out v7 b7).three; obtain ⟨tc0, tc1, tc2⟩ := (KX.out v7 b7).three))
    all_goals (
      try clear KQ KX T1 T2 oA bA bA0 bC kc0 kc1 kc2 xc0 xc1 xc2 lc0 lc1 lc2 yc0 yc1 yc2 zc0 zc1 zc2 tc0 tc1 tc2 hklt hxlt
      have zz7 := Lib.hid b7.size
      have A7 := Lib.hid (bt A6.out b7)
      have x_7 := Lib.hid (x_6.out.belowAll b7)
      clear x_6
      have xx_7 := Lib.hid (xx_6.out.all b7)
      clear xx_6
      have g_7 := Lib.hid (g_6.out.belowAll b7)
      clear g_6
      have gx_7 := Lib.hid (gx_6.out.all b7)
      clear gx_6
      clear b7
      obtain ⟨xc0, xc1, xc2⟩ := (xx_7.out).three
      have xlt := (xx_7.out).lt
      go_wp2_with fail
      have hlo : Hid ((boxF v3 (Fw.drR r0 c0 xs0 [a1] a2) (Fw.drK r0 c0 xs0 [a1] a2) (.slice au3 ((Fw.drZ r0 c0 xs0 [a1] a2)).length cu3) 26).heap.size ≤ g4) := Lib.hid (by have := hgg4.out; have := zz4.out; omega)
      have hhi : Hid (g4 < (boxF v4 r0 c0 (.slice (some ⟨g4, 0, none⟩) xs0.length xs0.length) 26).heap.size) := Lib.hid (by have := hgs4.out; have := zz1.out; have := zz2.out; have := zz3.out; have := zzbsx.out; have := zz4.out; have := zzbxx.out; have := zz5.out; have := zzbgx.out; have := zz6.out; have := zz7.out; omega)
      have hgb : Hid (g4 < v5.heap.size) := Lib.hid (by have := hhi.out; have := zz1.out; have := zz2.out; have := zz3.out; have := zzbsx.out; have := zz4.out; have := zzbxx.out; have := zz5.out; have := zzbgx.out; have := zz6.out; have := zz7.out; omega)
      refine (markField_own _ v7 r0 c0 g4 xs0.length xs0.length xs0 1 (by omega) (by omega) x_7.out rfl hl0).mono ?_
      rintro e v8 ⟨rfl, -, hg⟩
      clear xc0 xc1 xc2 xlt
      clear x_7
      clear xx_7
      have A8 := Lib.hid ((A7.out).grown hg (A7.out).size (fun j hj => by simp only [Option.some.injEq] at hj; have := hlo.out; omega))
      have zz8 := Lib.hid hg.size
      have g_8 := Lib.hid (g_7.out.far hg hhi.out)
      clear g_7
      have gx_8 := Lib.hid (gx_7.out.grow hg (fun j hj => by simp only [Option.some.injEq] at hj; have := hgb.out; omega))
      clear gx_7
      clear hg
      obtain ⟨gc0, gc1, gc2⟩ := (gx_8.out).three
      have glt := (gx_8.out).lt
      obtain ⟨sc0, sc1, sc2⟩ := (SX.out.all A8.out).three
      have slt := (SX.out.all A8.out).lt
      go_wp2_with fail
      refine (eqField_self v8 ((Fw.drR r0 c0 xs0 [a1] a2)) ((Fw.drK r0 c0 xs0 [a1] a2)) _ _ ((Fw.drZ r0 c0 xs0 [a1] a2)) g_8.out.sl (SR.out.belowAll A8.out).sl ((Fw.drZ_len hl0))).mono ?_
      rintro e v9 ⟨rfl, b9⟩
      clear gc0 gc1 gc2 glt sc0 sc1 sc2 slt
      have zz9 := Lib.hid b9.size
      have A9 := Lib.hid (bt A8.out b9)
      have g_9 := Lib.hid (g_8.out.belowAll b9)
      clear g_8
      have gx_9 := Lib.hid (gx_8.out.all b9)
      clear gx_8
      clear b9
      obtain ⟨gc0, gc1, gc2⟩ := (gx_9.out).three
      have glt := (gx_9.out).lt
      go_wp2_with fail
      refine (markField_g _ v9 ((Fw.drR r0 c0 xs0 [a1] a2)) ((Fw.drK r0 c0 xs0 [a1] a2)) _ ((Fw.drZ r0 c0 xs0 [a1] a2)) 1 (by omega) (by omega) g_9.out ((Fw.drZ_len hl0))).mono ?_
      rintro e v10 ⟨rfl, mo, hg⟩
      clear gc0 gc1 gc2 glt
      have gwl := Lib.hid (fun j hj => (World.ownsRow.lt g_9.out j hj).1)
      clear g_9
      have hwc : Hid ((boxF v3 (Fw.drR r0 c0 xs0 [a1] a2) (Fw.drK r0 c0 xs0 [a1] a2) (.slice au3 ((Fw.drZ r0 c0 xs0 [a1] a2)).length cu3) 26).heap.size ≤ (boxF v4 r0 c0 (.slice (some ⟨g4, 0, none⟩) xs0.length xs0.length) 26).heap.size) := Lib.hid (by have := zz1.out; have := zz2.out; have := zz3.out; have := zzbsx.out; have := zz4.out; have := zzbxx.out; have := zz5.out; have := zzbgx.out; have := zz6.out; have := zz7.out; have := zz8.out; have := zz9.out; omega)
      have A10 := Lib.hid ((A9.out).grown hg (A9.out).size (fun j hj => by have := gwl.out j hj; have := hwc.out; omega))
      have zz10 := Lib.hid hg.size
      have gx_10 := Lib.hid (gx_9.out.grow hg (fun j hj => by have := gul.out j hj; omega))
      clear gx_9
      clear hg
      have mk_r := Lib.hid mo
      clear mo
      obtain ⟨gc0, gc1, gc2⟩ := (gx_10.out).three
      have glt := (gx_10.out).lt
      go_wp2_with fail
      refine (heldField_any v10 ((Fw.drR r0 c0 xs0 [a1] a2)) ((Fw.drK r0 c0 xs0 [a1] a2)) _ ((Fw.drZ r0 c0 xs0 [a1] a2)).length 1 (by omega) (by omega) (Own.sl mk_r.out) ((Fw.drZ_len hl0))).mono ?_
      rintro e v11 ⟨rfl, b11⟩
      clear gc0 gc1 gc2 glt
      have zz11 := Lib.hid b11.size
      have A11 := Lib.hid (bt A10.out b11)
      have gx_11 := Lib.hid (gx_10.out.all b11)
      clear gx_10
      have mk_11 := Lib.hid (own_belowAll mk_r.out b11)
      clear mk_r
      clear b11
      obtain ⟨qc0, qc1, qc2⟩ := (K0.out.all (bt BS.out A11.out)).three
      have qlt := (K0.out.all (bt BS.out A11.out)).lt
      go_wp2_with fail
      refine (toField_at v11 r0 c0 _ xs0 (HV0.out.below (bt BS.out A11.out)) hl0).mono ?_
      rintro e v12 ⟨g12, rfl, hg12, hgl12, o12, b12⟩
      clear qc0 qc1 qc2 qlt
      have zz12 := Lib.hid b12.size
      have A12 := Lib.hid (bt A11.out b12)
      have gx_12 := Lib.hid (gx_11.out.all b12)
      clear gx_11
      have mk_12 := Lib.hid (own_belowAll mk_11.out b12)
      clear mk_11
      have h0_r := Lib.hid o12
      have hgg12 := Lib.hid hg12
      have hgs12 := Lib.hid hgl12
      clear o12 b12 hg12 hgl12
      go_wp2_with fail
      refine (implDriftStep_any v12 r0 c0 _ xs0 a1 a2 (h0_r.out.at_ rfl) hl0  (HW.out.below (bt HB0.out (bt BS.out A12.out)))).mono ?_
      rintro e v13 ⟨au13, cu13, rfl, o13, b13⟩
      clear h0_r
      have zz13 := Lib.hid b13.size
      have A13 := Lib.hid (bt A12.out b13)
      have gx_13 := Lib.hid (gx_12.out.all b13)
      clear gx_12
      have mk_13 := Lib.hid (own_belowAll mk_12.out b13)
      clear mk_12
      have h_r := Lib.hid o13
      clear o13 b13
      have bxhx := Lib.hid (boxF_below v13 (Fw.drR r0 c0 xs0 [a1] a2) (Fw.drK r0 c0 xs0 [a1] a2) (.slice au13 ((Fw.drZ r0 c0 xs0 [a1] a2)).length cu13) 26)
      have gx_13b := Lib.hid (gx_13.out.all bxhx.out)
      have mk_13b := Lib.hid (own_belowAll mk_13.out bxhx.out)
      clear mk_13
      have h_13b := Lib.hid (h_r.out.belowAll bxhx.out)
      clear h_r
      have hx_b := Lib.hid (boxF_cells v13 (Fw.drR r0 c0 xs0 [a1] a2) (Fw.drK r0 c0 xs0 [a1] a2) (.slice au13 ((Fw.drZ r0 c0 xs0 [a1] a2)).length cu13) 26)
      have zzbhx : Hid (v13.heap.size + 1 = (boxF v13 (Fw.drR r0 c0 xs0 [a1] a2) (Fw.drK r0 c0 xs0 [a1] a2) (.slice au13 ((Fw.drZ r0 c0 xs0 [a1] a2)).length cu13) 26).heap.size) := Lib.hid (boxF_size v13 (Fw.drR r0 c0 xs0 [a1] a2) (Fw.drK r0 c0 xs0 [a1] a2) (.slice au13 ((Fw.drZ r0 c0 xs0 [a1] a2)).length cu13) 26).symm
      have AAhx := Lib.hid (bt A13.out bxhx.out)
      obtain ⟨sc0, sc1, sc2⟩ := (SX.out.all A13.out).three
      have slt := (SX.out.all A13.out).lt
      go_wp2_with fail
      refine (eqField_self (boxF v13 (Fw.drR r0 c0 xs0 [a1] a2) (Fw.drK r0 c0 xs0 [a1] a2) (.slice au13 ((Fw.drZ r0 c0 xs0 [a1] a2)).length cu13) 26) ((Fw.drR r0 c0 xs0 [a1] a2)) ((Fw.drK r0 c0 xs0 [a1] a2)) _ _ ((Fw.drZ r0 c0 xs0 [a1] a2)) h_13b.out.sl (SR.out.belowAll AAhx.out).sl ((Fw.drZ_len hl0))).mono ?_
      rintro e v14 ⟨rfl, b14⟩
      clear sc0 sc1 sc2 slt
      clear gx_13
      have zz14 := Lib.hid b14.size
      have A14 := Lib.hid (bt AAhx.out b14)
      have gx_14 := Lib.hid (gx_13b.out.all b14)
      clear gx_13b
      have mk_14 := Lib.hid (own_belowAll mk_13b.out b14)
      clear mk_13b
      have h_14 := Lib.hid (h_13b.out.belowAll b14)
      clear h_13b
      have hx_14 := Lib.hid (hx_b.out.all b14)
      clear hx_b
      clear b14
      clear h_14
      clear hx_14
      obtain ⟨gc0, gc1, gc2⟩ := (gx_14.out).three
      have glt := (gx_14.out).lt
      go_wp2_with fail
      refine (heldField_any v14 ((Fw.drR r0 c0 xs0 [a1] a2)) ((Fw.drK r0 c0 xs0 [a1] a2)) _ ((Fw.drZ r0 c0 xs0 [a1] a2)).length 1 (by omega) (by omega) (Own.sl mk_14.out) ((Fw.drZ_len hl0))).mono ?_
      rintro e v15 ⟨rfl, b15⟩
      clear gc0 gc1 gc2 glt
      have zz15 := Lib.hid b15.size
      have A15 := Lib.hid (bt A14.out b15)
      have gx_15 := Lib.hid (gx_14.out.all b15)
      clear gx_14
      have mk_15 := Lib.hid (own_belowAll mk_14.out b15)
      clear mk_14
      clear b15
      go_wp2_with fail
      go_ret
      exact ⟨rfl, bt HB0.out (bt BS.out A15.out)⟩)
  · have hn0 : (1048576 : Int) < xs0.length := by omega
    have Z0 := Lib.hid (szField_out (boxF w r0 c0 (.slice a0 xs0.length cap0) 24) r0 c0 a0 xs0.length cap0 (1048576 : Int) (by omega) hn0 (by omega))
    have HB0 := Lib.hid (boxF_below w r0 c0 (.slice a0 xs0.length cap0) 24)
    go_enter Tryd.func3, Tryd.ntmps3
    go_wp2_with fail
    refine Z0.out.mono ?_
    rintro e v1 ⟨rfl, b1⟩
    have B1 := Lib.hid (bt HB0.out b1)
    clear b1
    go_wp2_with fail
    go_ret
    exact ⟨rfl, B1.out⟩
end Go.Proofs.YtmidihmbehaegaaDoor.fnExactDriftStep
