/-
  The walk of the law FnExactSettledField and what it stands on: For every field (its slice nil, shared and with spare room too), every share and every limit the program's SettledField answers as its model and leaves its argument as it was, where impl.leeWays holds what the program's text lays (tied by the card): the law returns true and writes nothing that was there. No other condition (beyond 2^20 masses the law itself returns true).
-/
import Derived.Test.YtmidihmbehaegaaDoorRows
import Derived.Test.YtmidihmbehaegaaDoorFdSb
import Derived.Test.YtmidihmbehaegaaDoorFdSa
import Derived.Test.YtmidihmbehaegaaDoorFdL
import Derived.Test.YtmidihmbehaegaaDoorFdG
import Derived.Test.YtmidihmbehaegaaDoorFdO
import Derived.WalkKit
import Derived.WalkSpells
import Derived.WalkLawsBesides
import Derived.Outline
import Derived.IntWalk
import Derived.Lib.Hide
import Derived.ProofKit
import Derived.OpenShut
import Derived.ShutString
import Derived.ChangeOld
import Derived.ChangeVars
import Derived.Below
import Derived.WalkSmall
import Derived.Lib.LaidTab
import Derived.LaidMore
import Derived.LaidSub
namespace Go.Proofs.YtmidihmbehaegaaDoor.fnExactSettledField
open Go.ChangeShapes Go.WideShapes Go.ChangeAt Go.RowKit
open Go.ChangeMaps (open_string shut_string)
set_option linter.unusedVariables false
set_option maxRecDepth 100000
set_option maxHeartbeats 6400000
theorem walk (r0 c0 : Int) (a0 : Option Addr) (cap0 : Nat) (xs0 : List Int) (a1 : Int) (a2 : Int) (w : World) (w0 : Sl w (.slice a0 xs0.length cap0) xs0) (m0 : xs0.length ≤ maxLen) (wr0 : (Lit.int .i64 r0).wf = true) (wc0 : (Lit.int .i64 c0).wf = true) (w1 : (Lit.int .i64 a1).wf = true) (w2 : (Lit.int .i64 a2).wf = true) (hL : laidMetH Tryd.prog Rows.fnExactSettledFieldRow.laid w) (hsh : w.ShapedOpen Tryd.prog) :
    Calls Tryd.prog 8 #[.agg #[.int .i64 r0, .int .i64 c0, .slice a0 xs0.length cap0], .int .i64 a1, .int .i64 a2] w fun e w' => e = .returned (.bool true) ∧ Below w.heap.size w w' := by
  have HW := Lib.hid (ways_of hL (by kernel_rfl))
  clear hL hsh
  unfold maxLen at m0
  by_cases hb0 : xs0.length ≤ 1048576
  · have hl0 : xs0.length ≤ 1048576 := by omega
    have hn0 : ¬ (1048576 : Int) - xs0.length < 0 := by omega
    have HB0 := Lib.hid (boxF_below w r0 c0 (.slice a0 xs0.length cap0) 24)
    have HV0 := Lib.hid (w0.below HB0.out)
    have K0 := Lib.hid (boxF_cells w r0 c0 (.slice a0 xs0.length cap0) 24)
    have Z0 := Lib.hid (szField_in (boxF w r0 c0 (.slice a0 xs0.length cap0) 24) r0 c0 a0 xs0.length cap0 (1048576 : Int) (by omega) (by omega))
    clear w0 
    go_enter Tryd.func8, Tryd.ntmps8
    go_wp2_with fail
    refine Z0.out.mono ?_
    rintro e v1 ⟨rfl, b1⟩
    have B1 := Lib.hid b1
    have zz1 := Lib.hid b1.size
    clear b1 Z0
    obtain ⟨qc0, qc1, qc2⟩ := (K0.out.all B1.out).three
    have qlt := (K0.out.all B1.out).lt
    go_wp2_with fail
    refine (toField_at v1 r0 c0 _ xs0 (HV0.out.below B1.out) hl0).mono ?_
    rintro e v2 ⟨g2, rfl, hg2, hgl2, o2, b2⟩
    clear qc0 qc1 qc2 qlt
    have zz2 := Lib.hid b2.size
    have B2 := Lib.hid (bt B1.out b2)
    have p_r := Lib.hid o2
    have hgg2 := Lib.hid hg2
    have hgs2 := Lib.hid hgl2
    clear o2 b2 hg2 hgl2
    go_wp2_with fail
    refine (specSettledField_any v2 r0 c0 _ xs0 a1 a2 (p_r.out.at_ rfl) hl0 ).mono ?_
    rintro e v3 ⟨rfl, b3⟩
    clear p_r
    have zz3 := Lib.hid b3.size
    have B3 := Lib.hid (bt B2.out b3)
    clear b3
    obtain ⟨qc0, qc1, qc2⟩ := (K0.out.all B3.out).three
    have qlt := (K0.out.all B3.out).lt
    go_wp2_with fail
    refine (toField_at v3 r0 c0 _ xs0 (HV0.out.below B3.out) hl0).mono ?_
    rintro e v4 ⟨g4, rfl, hg4, hgl4, o4, b4⟩
    clear qc0 qc1 qc2 qlt
    have zz4 := Lib.hid b4.size
    have B4 := Lib.hid (bt B3.out b4)
    have x_r := Lib.hid o4
    have hgg4 := Lib.hid hg4
    have hgs4 := Lib.hid hgl4
    clear o4 b4 hg4 hgl4
    have bxxx := Lib.hid (boxF_below v4 r0 c0 (.slice (some ⟨g4, 0, none⟩) xs0.length xs0.length) 26)
    have x_4b := Lib.hid (x_r.out.belowAll bxxx.out)
    clear x_r
    have xx_b := Lib.hid (boxF_cells v4 r0 c0 (.slice (some ⟨g4, 0, none⟩) xs0.length xs0.length) 26)
    have zzbxx : Hid (v4.heap.size + 1 = (boxF v4 r0 c0 (.slice (some ⟨g4, 0, none⟩) xs0.length xs0.length) 26).heap.size) := Lib.hid (boxF_size v4 r0 c0 (.slice (some ⟨g4, 0, none⟩) xs0.length xs0.length) 26).symm
    have BBxx := Lib.hid (bt B4.out bxxx.out)
    go_wp2_with fail
    refine (implSettledField_any (boxF v4 r0 c0 (.slice (some ⟨g4, 0, none⟩) xs0.length xs0.length) 26) r0 c0 _ xs0 a1 a2 (x_4b.out.at_ rfl) hl0  (HW.out.below (bt HB0.out BBxx.out))).mono ?_
    rintro e v5 ⟨rfl, b5⟩
    have zz5 := Lib.hid b5.size
    have B5 := Lib.hid (bt BBxx.out b5)
    have x_5 := Lib.hid (x_4b.out.belowAll b5)
    clear x_4b
    have xx_5 := Lib.hid (xx_b.out.all b5)
    clear xx_b
    clear b5
    have KQ : Hid (∀ W, Below v5.heap.size v5 W → FC W w.heap.size r0 c0 (.slice a0 xs0.length cap0)) := Lib.hid (fun W h => (K0.out.all B5.out).all h)
    have KX : Hid (∀ W, Below v5.heap.size v5 W → FC W v4.heap.size r0 c0 (.slice (some ⟨g4, 0, none⟩) xs0.length xs0.length)) := Lib.hid (fun W h => xx_5.out.all h)
    have T1 : Hid (∀ W, Below v5.heap.size v5 W → Calls Tryd.prog 11 #[.agg #[.int .i64 r0, .int .i64 c0, .slice a0 xs0.length cap0]] W fun e w' => ∃ g, e = .returned (.agg #[.int .i64 r0, .int .i64 c0, .slice (some ⟨g, 0, none⟩) xs0.length xs0.length]) ∧ W.heap.size ≤ g ∧ g < w'.heap.size ∧ Own W.heap.size w' (.slice (some ⟨g, 0, none⟩) xs0.length xs0.length) xs0 ∧ Below W.heap.size W w') := Lib.hid (fun W h => toField_at W r0 c0 _ xs0 (HV0.out.below (bt B5.out h)) hl0)
    have T2 : Hid (∀ W u, Below v5.heap.size v5 W → Sl W u xs0 → Calls Tryd.prog 13 #[.agg #[.int .i64 r0, .int .i64 c0, .slice (some ⟨g4, 0, none⟩) xs0.length xs0.length], .agg #[.int .i64 r0, .int .i64 c0, u]] W fun e w' => e = .returned (.bool true) ∧ Below W.heap.size W w') := Lib.hid (fun W u h hs => eqField_self W r0 c0 _ u xs0 (x_5.out.sl.below h) hs hl0)
    obtain ⟨kc0, kc1, kc2⟩ := (KQ.out _ (Below.refl _ _)).three
    obtain ⟨xc0, xc1, xc2⟩ := (KX.out _ (Below.refl _ _)).three
    have hklt := (KQ.out _ (Below.refl _ _)).lt
    have hxlt := (KX.out _ (Below.refl _ _)).lt
    go_wp2_with fail
    go_region_held3 (fun w' => w'.cell? ⟨w.heap.size, 0, none⟩ = some (.int .i64 r0) ∧ w'.cell? ⟨w.heap.size, 1, none⟩ = some (.int .i64 c0) ∧ w'.cell? ⟨w.heap.size, 2, none⟩ = some (.slice a0 xs0.length cap0) ∧ w'.cell? ⟨v4.heap.size, 0, none⟩ = some (.int .i64 r0) ∧ w'.cell? ⟨v4.heap.size, 1, none⟩ = some (.int .i64 c0) ∧ w'.cell? ⟨v4.heap.size, 2, none⟩ = some (.slice (some ⟨g4, 0, none⟩) xs0.length xs0.length)) (go_keep)
      (first
        | (go_at_call 11; refine (T1.out _ (by first | exact bdr1 _ | exact Below.refl _ _)).mono ?_; rintro e vA ⟨gA, rfl, -, -, oA, bA⟩; have bA0 : Below v5.heap.size v5 vA := (by first | exact bt (bdr1 _) bA | exact bA); obtain ⟨lc0, lc1, lc2⟩ := (KQ.out vA bA0).three; obtain ⟨yc0, yc1, yc2⟩ := (KX.out vA bA0).three)
        | (go_at_call 13; refine (T2.out _ _ (by first | exact bA0 | exact bt bA0 (bdr1 _)) (by first | exact oA.sl | exact (oA.drewN 1).sl)).mono ?_; rintro e v6 ⟨rfl, bC⟩; have b6 : Below v5.heap.size v5 v6 := (by first | exact bt bA0 bC | exact bt (bt bA0 (bdr1 _)) bC); obtain ⟨zc0, zc1, zc2⟩ := (KQ.out v6 b6).three; obtain ⟨tc0, tc1, tc2⟩ := (KX.out v6 b6).three))
    all_goals (
      try clear KQ KX T1 T2 oA bA bA0 bC kc0 kc1 kc2 xc0 xc1 xc2 lc0 lc1 lc2 yc0 yc1 yc2 zc0 zc1 zc2 tc0 tc1 tc2 hklt hxlt
      have zz6 := Lib.hid b6.size
      have B6 := Lib.hid (bt B5.out b6)
      have x_6 := Lib.hid (x_5.out.belowAll b6)
      clear x_5
      have xx_6 := Lib.hid (xx_5.out.all b6)
      clear xx_5
      clear b6
      go_wp2_with fail
      go_ret
      exact ⟨rfl, bt HB0.out B6.out⟩)
  · have hn0 : (1048576 : Int) < xs0.length := by omega
    have Z0 := Lib.hid (szField_out (boxF w r0 c0 (.slice a0 xs0.length cap0) 24) r0 c0 a0 xs0.length cap0 (1048576 : Int) (by omega) hn0 (by omega))
    have HB0 := Lib.hid (boxF_below w r0 c0 (.slice a0 xs0.length cap0) 24)
    go_enter Tryd.func8, Tryd.ntmps8
    go_wp2_with fail
    refine Z0.out.mono ?_
    rintro e v1 ⟨rfl, b1⟩
    have B1 := Lib.hid (bt HB0.out b1)
    clear b1
    go_wp2_with fail
    go_ret
    exact ⟨rfl, B1.out⟩
end Go.Proofs.YtmidihmbehaegaaDoor.fnExactSettledField
