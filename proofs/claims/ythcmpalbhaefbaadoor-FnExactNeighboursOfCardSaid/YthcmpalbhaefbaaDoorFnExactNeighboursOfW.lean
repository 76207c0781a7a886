/-
  The walk of the law FnExactNeighboursOf and what it stands on: For every grid (its slice nil, shared and with spare room too) and every cell the program's NeighboursOf answers as its model, in memory of its own, and leaves its argument as it was, where impl.aspectWays holds what the program's text lays (tied by the card): the law returns true and writes nothing that was there. No other condition (beyond 2^20 heights the law itself returns true).
-/
import Derived.Test.YthcmpalbhaefbaaDoorRows
import Derived.Test.YthcmpalbhaefbaaDoorNbA
import Derived.Test.YthcmpalbhaefbaaDoorGdO
import Derived.Test.YthcmpalbhaefbaaDoorFdL
import Derived.Test.YthcmpalbhaefbaaDoorFdG
import Derived.WalkKit
import Derived.WalkSpells
import Derived.WalkLawsBesides
import Derived.Outline
import Derived.IntWalk
import Derived.Lib.Hide
import Derived.ProofKit
import Derived.OpenShut
import Derived.ShutString
import Derived.ChangeOld
import Derived.ChangeVars
import Derived.Below
import Derived.WalkSmall
import Derived.Lib.LaidTab
import Derived.LaidMore
import Derived.LaidSub
namespace Go.Proofs.YthcmpalbhaefbaaDoor.fnExactNeighboursOf
open Go.ChangeShapes Go.WideShapes Go.ChangeAt Go.RowKit
open Go.ChangeMaps (open_string shut_string)
set_option linter.unusedVariables false
set_option maxRecDepth 100000
set_option maxHeartbeats 6400000
theorem walk (r0 c0 s0 : Int) (a0 : Option Addr) (cap0 : Nat) (xs0 : List Int) (a1 : Int) (w : World) (w0 : Sl w (.slice a0 xs0.length cap0) xs0) (m0 : xs0.length ≤ maxLen) (wr0 : (Lit.int .i64 r0).wf = true) (wc0 : (Lit.int .i64 c0).wf = true) (ws0 : (Lit.int .i64 s0).wf = true) (w1 : (Lit.int .i64 a1).wf = true) (hL : laidMetH Tryd.prog Rows.fnExactNeighboursOfRow.laid w) (hsh : w.ShapedOpen Tryd.prog) :
    Calls Tryd.prog 4 #[.agg #[.int .i64 r0, .int .i64 c0, .int .i64 s0, .slice a0 xs0.length cap0], .int .i64 a1] w fun e w' => e = .returned (.bool true) ∧ Below w.heap.size w w' := by
  have HW := Lib.hid (asp_of hL (by kernel_rfl))
  clear hL hsh
  unfold maxLen at m0
  by_cases hb0 : xs0.length ≤ 1048576
  · have hl0 : xs0.length ≤ 1048576 := by omega
    have hn0 : ¬ (1048576 : Int) - xs0.length < 0 := by omega
    have HB0 := Lib.hid (boxG_below w r0 c0 s0 (.slice a0 xs0.length cap0) 24)
    have HV0 := Lib.hid (w0.below HB0.out)
    have K0 := Lib.hid (boxG_cells w r0 c0 s0 (.slice a0 xs0.length cap0) 24)
    have Z0 := Lib.hid (szGrid_in (boxG w r0 c0 s0 (.slice a0 xs0.length cap0) 24) r0 c0 s0 a0 xs0.length cap0 (1048576 : Int) (by omega) (by omega))
    clear w0 
    go_enter Tryd.func4, Tryd.ntmps4
    go_wp2_with fail
    refine Z0.out.mono ?_
    rintro e v1 ⟨rfl, b1⟩
    have B1 := Lib.hid b1
    have zz1 := Lib.hid b1.size
    clear b1 Z0
    obtain ⟨qc0, qc1, qc2, qc3⟩ := (K0.out.all B1.out).four
    have qlt := (K0.out.all B1.out).lt
    go_wp2_with fail
    refine (toGrid_at v1 r0 c0 s0 _ xs0 (HV0.out.below B1.out) hl0).mono ?_
    rintro e v2 ⟨g2, rfl, hg2, hgl2, o2, b2⟩
    clear qc0 qc1 qc2 qc3 qlt
    have zz2 := Lib.hid b2.size
    have B2 := Lib.hid (bt B1.out b2)
    have p_r := Lib.hid o2
    have hgg2 := Lib.hid hg2
    have hgs2 := Lib.hid hgl2
    clear o2 b2 hg2 hgl2
    go_wp2_with fail
    refine (specNeighboursOf_any v2 r0 c0 s0 _ xs0 a1 p_r.out.sl hl0 ).mono ?_
    rintro e v3 ⟨u3, rfl, o3, b3⟩
    clear p_r
    have zz3 := Lib.hid b3.size
    have B3 := Lib.hid (bt B2.out b3)
    have s_r := Lib.hid o3
    clear o3 b3
    have BS := Lib.hid (B3.out)
    have A0 : Hid (Below v3.heap.size v3 v3) := Lib.hid (Below.refl _ _)
    have SR := s_r
    clear s_r
    obtain ⟨qc0, qc1, qc2, qc3⟩ := (K0.out.all (bt BS.out A0.out)).four
    have qlt := (K0.out.all (bt BS.out A0.out)).lt
    go_wp2_with fail
    refine (toGrid_at v3 r0 c0 s0 _ xs0 (HV0.out.below (bt BS.out A0.out)) hl0).mono ?_
    rintro e v4 ⟨g4, rfl, hg4, hgl4, o4, b4⟩
    clear qc0 qc1 qc2 qc3 qlt
    have zz4 := Lib.hid b4.size
    have A4 := Lib.hid (bt A0.out b4)
    have x_r := Lib.hid o4
    have hgg4 := Lib.hid hg4
    have hgs4 := Lib.hid hgl4
    clear o4 b4 hg4 hgl4
    have bxxx := Lib.hid (boxG_below v4 r0 c0 s0 (.slice (some ⟨g4, 0, none⟩) xs0.length xs0.length) 28)
    have x_4b := Lib.hid (x_r.out.belowAll bxxx.out)
    clear x_r
    have xx_b := Lib.hid (boxG_cells v4 r0 c0 s0 (.slice (some ⟨g4, 0, none⟩) xs0.length xs0.length) 28)
    have zzbxx : Hid (v4.heap.size + 1 = (boxG v4 r0 c0 s0 (.slice (some ⟨g4, 0, none⟩) xs0.length xs0.length) 28).heap.size) := Lib.hid (boxG_size v4 r0 c0 s0 (.slice (some ⟨g4, 0, none⟩) xs0.length xs0.length) 28).symm
    have AAxx := Lib.hid (bt A4.out bxxx.out)
    go_wp2_with fail
    refine (implNeighboursOf_any (boxG v4 r0 c0 s0 (.slice (some ⟨g4, 0, none⟩) xs0.length xs0.length) 28) r0 c0 s0 _ xs0 a1 (x_4b.out.at_ rfl) hl0  (HW.out.below (bt HB0.out (bt BS.out AAxx.out)))).mono ?_
    rintro e v5 ⟨u5, rfl, o5, b5⟩
    have zz5 := Lib.hid b5.size
    have A5 := Lib.hid (bt AAxx.out b5)
    have x_5 := Lib.hid (x_4b.out.belowAll b5)
    clear x_4b
    have xx_5 := Lib.hid (xx_b.out.all b5)
    clear xx_b
    have g_r := Lib.hid o5
    have gul := Lib.hid (fun j hj => (World.ownsRow.lt o5 j hj).2)
    clear o5 b5
    go_wp2_with fail
    refine (eqInt64S_any v5 _ _ ((Gw.nbL r0 c0 s0 xs0 a1)) ((Gw.nbL r0 c0 s0 xs0 a1)) g_r.out.sl (SR.out.belowAll A5.out).sl ((Gw.nbL_len r0 c0 s0 xs0 a1)) ((Gw.nbL_len r0 c0 s0 xs0 a1))).mono ?_
    rintro e v6 ⟨rfl, b6⟩
    have zz6 := Lib.hid b6.size
    have A6 := Lib.hid (bt A5.out b6)
    have x_6 := Lib.hid (x_5.out.belowAll b6)
    clear x_5
    have xx_6 := Lib.hid (xx_5.out.all b6)
    clear xx_5
    have g_6 := Lib.hid (g_r.out.belowAll b6)
    clear g_r
    clear b6
    rw [show (((Gw.nbL r0 c0 s0 xs0 a1)) == ((Gw.nbL r0 c0 s0 xs0 a1))) = true from beq_self_eq_true _]
    have KQ : Hid (∀ W, Below v6.heap.size v6 W → GC W w.heap.size r0 c0 s0 (.slice a0 xs0.length cap0)) := Lib.hid (fun W h => (K0.out.all (bt BS.out A6.out)).all h)
    have KX : Hid (∀ W, Below v6.heap.size v6 W → GC W v4.heap.size r0 c0 s0 (.slice (some ⟨g4, 0, none⟩) xs0.length xs0.length)) := Lib.hid (fun W h => xx_6.out.all h)
    have T1 : Hid (∀ W, Below v6.heap.size v6 W → Calls Tryd.prog 14 #[.agg #[.int .i64 r0, .int .i64 c0, .int .i64 s0, .slice a0 xs0.length cap0]] W fun e w' => ∃ g, e = .returned (.agg #[.int .i64 r0, .int .i64 c0, .int .i64 s0, .slice (some ⟨g, 0, none⟩) xs0.length xs0.length]) ∧ W.heap.size ≤ g ∧ g < w'.heap.size ∧ Own W.heap.size w' (.slice (some ⟨g, 0, none⟩) xs0.length xs0.length) xs0 ∧ Below W.heap.size W w') := Lib.hid (fun W h => toGrid_at W r0 c0 s0 _ xs0 (HV0.out.below (bt (bt BS.out A6.out) h)) hl0)
    have T2 : Hid (∀ W u, Below v6.heap.size v6 W → Sl W u xs0 → Calls Tryd.prog 18 #[.agg #[.int .i64 r0, .int .i64 c0, .int .i64 s0, .slice (some ⟨g4, 0, none⟩) xs0.length xs0.length], .agg #[.int .i64 r0, .int .i64 c0, .int .i64 s0, u]] W fun e w' => e = .returned (.bool true) ∧ Below W.heap.size W w') := Lib.hid (fun W u h hs => eqGrid_self W r0 c0 s0 _ u xs0 (x_6.out.sl.below h) hs hl0)
    obtain ⟨kc0, kc1, kc2, kc3⟩ := (KQ.out _ (Below.refl _ _)).four
    obtain ⟨xc0, xc1, xc2, xc3⟩ := (KX.out _ (Below.refl _ _)).four
    have hklt := (KQ.out _ (Below.refl _ _)).lt
    have hxlt := (KX.out _ (Below.refl _ _)).lt
    go_wp2_with fail
    go_region_held3 (fun w' => w'.cell? ⟨w.heap.size, 0, none⟩ = some (.int .i64 r0) ∧ w'.cell? ⟨w.heap.size, 1, none⟩ = some (.int .i64 c0) ∧ w'.cell? ⟨w.heap.size, 2, none⟩ = some (.int .i64 s0) ∧ w'.cell? ⟨w.heap.size, 3, none⟩ = some (.slice a0 xs0.length cap0) ∧ w'.cell? ⟨v4.heap.size, 0, none⟩ = some (.int .i64 r0) ∧ w'.cell? ⟨v4.heap.size, 1, none⟩ = some (.int .i64 c0) ∧ w'.cell? ⟨v4.heap.size, 2, none⟩ = some (.int .i64 s0) ∧ w'.cell? ⟨v4.heap.size, 3, none⟩ = some (.slice (some ⟨g4, 0, none⟩) xs0.length xs0.length)) (go_keep)
      (first
        | (go_at_call 14; refine (T1.out _ (by first | exact bdr1 _ | exact Below.refl _ _)).mono ?_; rintro e vA ⟨gA, rfl, -, -, oA, bA⟩; have bA0 : Below v6.heap.size v6 vA := (by first | exact bt (bdr1 _) bA | exact bA); obtain ⟨lc0, lc1, lc2, lc3⟩ := (KQ.out vA bA0).four; obtain ⟨yc0, yc1, yc2, yc3⟩ := (KX.out vA bA0).four)
        | (go_at_call 18; refine (T2.out _ _ (by first | exact bA0 | exact bt bA0 (bdr1 _)) (by first | exact oA.sl | exact (oA.drewN 1).sl)).mono ?_; rintro e v7 ⟨rfl, bC⟩; have b7 : Below v6.heap.size v6 v7 := (by first | exact bt bA0 bC | exact bt (bt bA0 (bdr1 _)) bC); obtain ⟨zc0, zc1, zc2, zc3⟩ := (KQ.out v7 b7).four; obtain ⟨tc0, tc1, tc2, tc3⟩ := (KX.out v7 b7).four))
    all_goals (
      try clear KQ KX T1 T2 oA bA bA0 bC kc0 kc1 kc2 kc3 xc0 xc1 xc2 xc3 lc0 lc1 lc2 lc3 yc0 yc1 yc2 yc3 zc0 zc1 zc2 zc3 tc0 tc1 tc2 tc3 hklt hxlt
      have zz7 := Lib.hid b7.size
      have A7 := Lib.hid (bt A6.out b7)
      have x_7 := Lib.hid (x_6.out.belowAll b7)
      clear x_6
      have xx_7 := Lib.hid (xx_6.out.all b7)
      clear xx_6
      have g_7 := Lib.hid (g_6.out.belowAll b7)
      clear g_6
      clear b7
      obtain ⟨xc0, xc1, xc2, xc3⟩ := (xx_7.out).four
      have xlt := (xx_7.out).lt
      go_wp2_with fail
      have hlo : Hid (v3.heap.size ≤ g4) := Lib.hid (by have := hgg4.out; have := zz4.out; omega)
      have hhi : Hid (g4 < (boxG v4 r0 c0 s0 (.slice (some ⟨g4, 0, none⟩) xs0.length xs0.length) 28).heap.size) := Lib.hid (by have := hgs4.out; have := zz1.out; have := zz2.out; have := zz3.out; have := zz4.out; have := zzbxx.out; have := zz5.out; have := zz6.out; have := zz7.out; omega)
      have hgb : Hid (g4 < v5.heap.size) := Lib.hid (by have := hhi.out; have := zz1.out; have := zz2.out; have := zz3.out; have := zz4.out; have := zzbxx.out; have := zz5.out; have := zz6.out; have := zz7.out; omega)
      refine (markGrid_own _ v7 r0 c0 s0 g4 xs0.length xs0.length xs0 1 (by omega) (by omega) x_7.out rfl hl0).mono ?_
      rintro e v8 ⟨rfl, -, hg⟩
      clear xc0 xc1 xc2 xc3 xlt
      clear x_7
      clear xx_7
      have A8 := Lib.hid ((A7.out).grown hg (A7.out).size (fun j hj => by simp only [Option.some.injEq] at hj; have := hlo.out; omega))
      have zz8 := Lib.hid hg.size
      have g_8 := Lib.hid (g_7.out.far hg hhi.out)
      clear g_7
      clear hg
      go_wp2_with fail
      refine (eqInt64S_any v8 _ _ ((Gw.nbL r0 c0 s0 xs0 a1)) ((Gw.nbL r0 c0 s0 xs0 a1)) g_8.out.sl (SR.out.belowAll A8.out).sl ((Gw.nbL_len r0 c0 s0 xs0 a1)) ((Gw.nbL_len r0 c0 s0 xs0 a1))).mono ?_
      rintro e v9 ⟨rfl, b9⟩
      have zz9 := Lib.hid b9.size
      have A9 := Lib.hid (bt A8.out b9)
      have g_9 := Lib.hid (g_8.out.belowAll b9)
      clear g_8
      clear b9
      rw [show (((Gw.nbL r0 c0 s0 xs0 a1)) == ((Gw.nbL r0 c0 s0 xs0 a1))) = true from beq_self_eq_true _]
      go_wp2_with fail
      refine (markInt64S_g _ v9 _ ((Gw.nbL r0 c0 s0 xs0 a1)) 1 (by omega) (by omega) g_9.out ((Gw.nbL_len r0 c0 s0 xs0 a1))).mono ?_
      rintro e v10 ⟨rfl, mo, hg⟩
      have gwl := Lib.hid (fun j hj => (World.ownsRow.lt g_9.out j hj).1)
      clear g_9
      have hwc : Hid (v3.heap.size ≤ (boxG v4 r0 c0 s0 (.slice (some ⟨g4, 0, none⟩) xs0.length xs0.length) 28).heap.size) := Lib.hid (by have := zz1.out; have := zz2.out; have := zz3.out; have := zz4.out; have := zzbxx.out; have := zz5.out; have := zz6.out; have := zz7.out; have := zz8.out; have := zz9.out; omega)
      have A10 := Lib.hid ((A9.out).grown hg (A9.out).size (fun j hj => by have := gwl.out j hj; have := hwc.out; omega))
      have zz10 := Lib.hid hg.size
      clear hg
      have mk_r := Lib.hid mo
      clear mo
      go_wp2_with fail
      refine (heldInt64S_any v10 _ ((Gw.nbL r0 c0 s0 xs0 a1)).length 1 (by omega) (by omega) (Own.sl mk_r.out) ((Gw.nbL_len r0 c0 s0 xs0 a1))).mono ?_
      rintro e v11 ⟨rfl, b11⟩
      have zz11 := Lib.hid b11.size
      have A11 := Lib.hid (bt A10.out b11)
      have mk_11 := Lib.hid (own_belowAll mk_r.out b11)
      clear mk_r
      clear b11
      obtain ⟨qc0, qc1, qc2, qc3⟩ := (K0.out.all (bt BS.out A11.out)).four
      have qlt := (K0.out.all (bt BS.out A11.out)).lt
      go_wp2_with fail
      refine (toGrid_at v11 r0 c0 s0 _ xs0 (HV0.out.below (bt BS.out A11.out)) hl0).mono ?_
      rintro e v12 ⟨g12, rfl, hg12, hgl12, o12, b12⟩
      clear qc0 qc1 qc2 qc3 qlt
      have zz12 := Lib.hid b12.size
      have A12 := Lib.hid (bt A11.out b12)
      have mk_12 := Lib.hid (own_belowAll mk_11.out b12)
      clear mk_11
      have h0_r := Lib.hid o12
      have hgg12 := Lib.hid hg12
      have hgs12 := Lib.hid hgl12
      clear o12 b12 hg12 hgl12
      go_wp2_with fail
      refine (implNeighboursOf_any v12 r0 c0 s0 _ xs0 a1 (h0_r.out.at_ rfl) hl0  (HW.out.below (bt HB0.out (bt BS.out A12.out)))).mono ?_
      rintro e v13 ⟨u13, rfl, o13, b13⟩
      clear h0_r
      have zz13 := Lib.hid b13.size
      have A13 := Lib.hid (bt A12.out b13)
      have mk_13 := Lib.hid (own_belowAll mk_12.out b13)
      clear mk_12
      have h_r := Lib.hid o13
      clear o13 b13
      go_wp2_with fail
      refine (eqInt64S_any v13 _ _ ((Gw.nbL r0 c0 s0 xs0 a1)) ((Gw.nbL r0 c0 s0 xs0 a1)) h_r.out.sl (SR.out.belowAll A13.out).sl ((Gw.nbL_len r0 c0 s0 xs0 a1)) ((Gw.nbL_len r0 c0 s0 xs0 a1))).mono ?_
      rintro e v14 ⟨rfl, b14⟩
      have zz14 := Lib.hid b14.size
      have A14 := Lib.hid (bt A13.out b14)
      have mk_14 := Lib.hid (own_belowAll mk_13.out b14)
      clear mk_13
      have h_14 := Lib.hid (h_r.out.belowAll b14)
      clear h_r
      clear b14
      rw [show (((Gw.nbL r0 c0 s0 xs0 a1)) == ((Gw.nbL r0 c0 s0 xs0 a1))) = true from beq_self_eq_true _]
      clear h_14
      go_wp2_with fail
      refine (heldInt64S_any v14 _ ((Gw.nbL r0 c0 s0 xs0 a1)).length 1 (by omega) (by omega) (Own.sl mk_14.out) ((Gw.nbL_len r0 c0 s0 xs0 a1))).mono ?_
      rintro e v15 ⟨rfl, b15⟩
      have zz15 := Lib.hid b15.size
      have A15 := Lib.hid (bt A14.out b15)
      have mk_15 := Lib.hid (own_belowAll mk_14.out b15)
      clear mk_14
      clear b15
      go_wp2_with fail
      go_ret
      exact ⟨rfl, bt HB0.out (bt BS.out A15.out)⟩)
  · have hn0 : (1048576 : Int) < xs0.length := by omega
    have Z0 := Lib.hid (szGrid_out (boxG w r0 c0 s0 (.slice a0 xs0.length cap0) 24) r0 c0 s0 a0 xs0.length cap0 (1048576 : Int) (by omega) hn0 (by omega))
    have HB0 := Lib.hid (boxG_below w r0 c0 s0 (.slice a0 xs0.length cap0) 24)
    go_enter Tryd.func4, Tryd.ntmps4
    go_wp2_with fail
    refine Z0.out.mono ?_
    rintro e v1 ⟨rfl, b1⟩
    have B1 := Lib.hid (bt HB0.out b1)
    clear b1
    go_wp2_with fail
    go_ret
    exact ⟨rfl, B1.out⟩
end Go.Proofs.YthcmpalbhaefbaaDoor.fnExactNeighboursOf
