/-
  The walk of the law FnExactSameField and what it stands on: For every two fields (any numbers and all slices, nil, shared and with spare room too) the program's SameField answers as its model and leaves its arguments as they were: the law returns true and writes nothing that was there. No condition (beyond 2^20 masses in all the law itself returns true).
-/
import Derived.Test.YtakalehakdffiaaRows
import Derived.Test.YtakalehakdffiaaFdV
import Derived.Test.YtakalehakdffiaaFdO
import Derived.WalkKit
import Derived.WalkSpells
import Derived.WalkLawsBesides
import Derived.Outline
import Derived.IntWalk
import Derived.Lib.Hide
import Derived.ProofKit
import Derived.OpenShut
import Derived.ShutString
import Derived.ChangeOld
import Derived.ChangeVars
import Derived.Below
import Derived.WalkSmall
namespace Go.Proofs.Ytakalehakdffiaa.fnExactSameField
open Go.ChangeShapes Go.WideShapes Go.ChangeAt Go.RowKit
open Go.ChangeMaps (open_string shut_string)
set_option linter.unusedVariables false
set_option maxRecDepth 100000
set_option maxHeartbeats 12800000
theorem walk (r0 c0 : Int) (a0 : Option Addr) (cap0 : Nat) (xs0 : List Int) (r1 c1 : Int) (a1 : Option Addr) (cap1 : Nat) (xs1 : List Int) (w : World) (w0 : Sl w (.slice a0 xs0.length cap0) xs0) (m0 : xs0.length ≤ maxLen) (wr0 : (Lit.int .i64 r0).wf = true) (wc0 : (Lit.int .i64 c0).wf = true) (w1 : Sl w (.slice a1 xs1.length cap1) xs1) (m1 : xs1.length ≤ maxLen) (wr1 : (Lit.int .i64 r1).wf = true) (wc1 : (Lit.int .i64 c1).wf = true) :
    Calls Try.prog 4 #[.agg #[.int .i64 r0, .int .i64 c0, .slice a0 xs0.length cap0], .agg #[.int .i64 r1, .int .i64 c1, .slice a1 xs1.length cap1]] w fun e w' => e = .returned (.bool true) ∧ Below w.heap.size w w' := by
  unfold maxLen at m0 m1
  by_cases hb0 : xs0.length ≤ 1048576
  · by_cases hb1 : xs0.length + xs1.length ≤ 1048576
    · have hl0 : xs0.length ≤ 1048576 := hb0
      have hl1 : xs1.length ≤ 1048576 := by omega
      have hn0 : ¬ (1048576 : Int) - xs0.length < 0 := by omega
      have hn1 : ¬ (1048576 : Int) - xs0.length - xs1.length < 0 := by omega
      have HB0 : Hid (Below w.heap.size w (boxF (boxF w r0 c0 (.slice a0 xs0.length cap0) 24) r1 c1 (.slice a1 xs1.length cap1) 24)) := Lib.hid (bt (boxF_below w r0 c0 (.slice a0 xs0.length cap0) 24) (boxF_below (boxF w r0 c0 (.slice a0 xs0.length cap0) 24) r1 c1 (.slice a1 xs1.length cap1) 24))
      have HV0 := Lib.hid (w0.below HB0.out)
      have HV1 := Lib.hid (w1.below HB0.out)
      have K0 := Lib.hid ((boxF_cells w r0 c0 (.slice a0 xs0.length cap0) 24).all (boxF_below (boxF w r0 c0 (.slice a0 xs0.length cap0) 24) r1 c1 (.slice a1 xs1.length cap1) 24))
      have K1 : Hid (FC (boxF (boxF w r0 c0 (.slice a0 xs0.length cap0) 24) r1 c1 (.slice a1 xs1.length cap1) 24) (w.heap.size + 1) r1 c1 (.slice a1 xs1.length cap1)) := Lib.hid (by have := boxF_cells (boxF w r0 c0 (.slice a0 xs0.length cap0) 24) r1 c1 (.slice a1 xs1.length cap1) 24; rwa [boxF_size] at this)
      have Z0 := Lib.hid (szField_in (boxF (boxF w r0 c0 (.slice a0 xs0.length cap0) 24) r1 c1 (.slice a1 xs1.length cap1) 24) r0 c0 a0 xs0.length cap0 (1048576 : Int) (by omega) (by omega))
      have Z1 := Lib.hid (fun W => szField_in W r1 c1 a1 xs1.length cap1 ((1048576 : Int) - xs0.length) (by omega) (by omega))
      clear w0 w1
      go_enter Try.func4, Try.ntmps4
      go_wp2_with fail
      refine Z0.out.mono ?_
      rintro e v1 ⟨rfl, b1⟩
      have B1 := Lib.hid b1
      clear b1 Z0
      obtain ⟨qc0, qc1, qc2⟩ := (K1.out.all B1.out).three
      have qlt := (K1.out.all B1.out).lt
      go_wp2_with fail
      refine (Z1.out _).mono ?_
      rintro e v2 ⟨rfl, b2⟩
      clear qc0 qc1 qc2 qlt
      have B2 := Lib.hid (bt B1.out b2)
      clear b2 Z1
      have T0 : Hid (∀ W, Below v2.heap.size v2 W → Calls Try.prog 10 #[.agg #[.int .i64 r0, .int .i64 c0, (.slice a0 xs0.length cap0)]] W fun e w' => ∃ g, e = .returned (.agg #[.int .i64 r0, .int .i64 c0, .slice (some ⟨g, 0, none⟩) xs0.length xs0.length]) ∧ W.heap.size ≤ g ∧ g < w'.heap.size ∧ Own W.heap.size w' (.slice (some ⟨g, 0, none⟩) xs0.length xs0.length) xs0 ∧ Below W.heap.size W w') := Lib.hid (fun W h => toField_at W r0 c0 _ xs0 (HV0.out.below (bt B2.out h)) hl0)
      have T1 : Hid (∀ W, Below v2.heap.size v2 W → Calls Try.prog 10 #[.agg #[.int .i64 r1, .int .i64 c1, (.slice a1 xs1.length cap1)]] W fun e w' => ∃ g, e = .returned (.agg #[.int .i64 r1, .int .i64 c1, .slice (some ⟨g, 0, none⟩) xs1.length xs1.length]) ∧ W.heap.size ≤ g ∧ g < w'.heap.size ∧ Own W.heap.size w' (.slice (some ⟨g, 0, none⟩) xs1.length xs1.length) xs1 ∧ Below W.heap.size W w') := Lib.hid (fun W h => toField_at W r1 c1 _ xs1 (HV1.out.below (bt B2.out h)) hl1)
      have KA : Hid (∀ W, Below v2.heap.size v2 W → FC W w.heap.size r0 c0 (.slice a0 xs0.length cap0)) := Lib.hid (fun W h => (K0.out.all B2.out).all h)
      have KB : Hid (∀ W, Below v2.heap.size v2 W → FC W (w.heap.size + 1) r1 c1 (.slice a1 xs1.length cap1)) := Lib.hid (fun W h => (K1.out.all B2.out).all h)
      obtain ⟨kc0, kc1, kc2⟩ := (KA.out _ (Below.refl _ _)).three
      obtain ⟨jc0, jc1, jc2⟩ := (KB.out _ (Below.refl _ _)).three
      have hklt := (KA.out _ (Below.refl _ _)).lt
      have hjlt := (KB.out _ (Below.refl _ _)).lt
      have CS := Lib.hid (fun W v u (h : Sl W v xs0) (h' : Sl W u xs1) => specSameField_any W r0 c0 r1 c1 v u xs0 xs1 h h' hl0 hl1)
      have CI := Lib.hid (fun W v u (h : Sl W v xs0) (h' : Sl W u xs1) => implSameField_any W r0 c0 r1 c1 v u xs0 xs1 h h' hl0 hl1)
      generalize eqFd r0 c0 xs0 r1 c1 xs1 = q at *
      have hqq : (q != q) = false := bne_self_eq_false' _
      go_wp2_with fail
      go_region_held3 (fun w' => w'.cell? ⟨w.heap.size, 0, none⟩ = some (.int .i64 r0) ∧ w'.cell? ⟨w.heap.size, 1, none⟩ = some (.int .i64 c0) ∧ w'.cell? ⟨w.heap.size, 2, none⟩ = some (.slice a0 xs0.length cap0) ∧ w'.cell? ⟨w.heap.size + 1, 0, none⟩ = some (.int .i64 r1) ∧ w'.cell? ⟨w.heap.size + 1, 1, none⟩ = some (.int .i64 c1) ∧ w'.cell? ⟨w.heap.size + 1, 2, none⟩ = some (.slice a1 xs1.length cap1)) (go_keep)
        (first
          | (go_at_call 10; with_reducible refine (T0.out _ (bdr1 _)).mono ?_; rintro e vA ⟨gA, rfl, -, -, oA, bA⟩; have bA0 : Below v2.heap.size v2 vA := bt (bdr1 _) bA; obtain ⟨lc0, lc1, lc2⟩ := (KA.out vA bA0).three; obtain ⟨mc0, mc1, mc2⟩ := (KB.out vA bA0).three)
          | (go_at_call 10; with_reducible refine (T1.out _ bA0).mono ?_; rintro e vB ⟨gB, rfl, -, -, oB, bB⟩; have bB0 : Below v2.heap.size v2 vB := bt bA0 bB; obtain ⟨nc0, nc1, nc2⟩ := (KA.out vB bB0).three; obtain ⟨oc0, oc1, oc2⟩ := (KB.out vB bB0).three)
          | (go_at_call 13; refine (CS.out _ _ _ (oA.belowAll bB).sl oB.sl).mono ?_; rintro e v3 ⟨rfl, bC⟩; have b3 : Below v2.heap.size v2 v3 := bt bB0 bC; obtain ⟨pc0, pc1, pc2⟩ := (KA.out v3 b3).three; obtain ⟨sc0, sc1, sc2⟩ := (KB.out v3 b3).three))
      all_goals (
        clear T0 T1 KA KB CS oA bA bA0 oB bB bB0 bC kc0 kc1 kc2 jc0 jc1 jc2 lc0 lc1 lc2 mc0 mc1 mc2 nc0 nc1 nc2 oc0 oc1 oc2 pc0 pc1 pc2 sc0 sc1 sc2 hklt hjlt
        have B3 := Lib.hid (bt B2.out b3)
        clear b3
        obtain ⟨qc0, qc1, qc2⟩ := (K0.out.all B3.out).three
        have qlt := (K0.out.all B3.out).lt
        go_wp2_with fail
        refine (toField_at v3 r0 c0 _ xs0 (HV0.out.below B3.out) hl0).mono ?_
        rintro e v4 ⟨g4, rfl, -, -, o4, b4⟩
        clear qc0 qc1 qc2 qlt
        have B4 := Lib.hid (bt B3.out b4)
        have O4 := Lib.hid o4
        clear b4 o4
        have bx := Lib.hid (boxF_below v4 r0 c0 (.slice (some ⟨g4, 0, none⟩) xs0.length xs0.length) 27)
        have BX := Lib.hid (bt B4.out bx.out)
        have F0 := Lib.hid (boxF_cells v4 r0 c0 (.slice (some ⟨g4, 0, none⟩) xs0.length xs0.length) 27)
        have O4b := Lib.hid (O4.out.belowAll bx.out)
        obtain ⟨qc0, qc1, qc2⟩ := (K1.out.all B4.out).three
        have qlt := (K1.out.all B4.out).lt
        go_wp2_with fail
        refine (toField_at (boxF v4 r0 c0 (.slice (some ⟨g4, 0, none⟩) xs0.length xs0.length) 27) r1 c1 _ xs1 (HV1.out.below BX.out) hl1).mono ?_
        rintro e v5 ⟨g5, rfl, -, -, o5, b5⟩
        clear qc0 qc1 qc2 qlt
        have B5 := Lib.hid (bt BX.out b5)
        have O5 := Lib.hid o5
        have O45 := Lib.hid (O4b.out.belowAll b5)
        have F05 := Lib.hid (F0.out.all b5)
        clear b5 o5 O4b O4 F0
        have bx2 := Lib.hid (boxF_below v5 r1 c1 (.slice (some ⟨g5, 0, none⟩) xs1.length xs1.length) 27)
        have BX2 := Lib.hid (bt B5.out bx2.out)
        have F1 := Lib.hid (boxF_cells v5 r1 c1 (.slice (some ⟨g5, 0, none⟩) xs1.length xs1.length) 27)
        obtain ⟨xc0, xc1, xc2⟩ := (F05.out).three
        have xlt := (F05.out).lt
        go_wp2_with fail
        refine (CI.out (boxF v5 r1 c1 (.slice (some ⟨g5, 0, none⟩) xs1.length xs1.length) 27) _ _ (O45.out.belowAll bx2.out).sl (O5.out.belowAll bx2.out).sl).mono ?_
        rintro e v6 ⟨rfl, b6⟩
        clear xc0 xc1 xc2 xlt
        have B6 := Lib.hid (bt BX2.out b6)
        have F06 := Lib.hid ((F05.out.all bx2.out).all b6)
        have F16 := Lib.hid (F1.out.all b6)
        have O46 := Lib.hid ((O45.out.belowAll bx2.out).belowAll b6)
        have O56 := Lib.hid ((O5.out.belowAll bx2.out).belowAll b6)
        clear b6 F05 F1 O45 O5 CI
        have KQ : Hid (∀ W, Below v6.heap.size v6 W → FC W (w.heap.size) r0 c0 (.slice a0 xs0.length cap0)) := Lib.hid (fun W h => (K0.out.all B6.out).all h)
        have KX : Hid (∀ W, Below v6.heap.size v6 W → FC W v4.heap.size r0 c0 (.slice (some ⟨g4, 0, none⟩) xs0.length xs0.length)) := Lib.hid (fun W h => F06.out.all h)
        have T1 : Hid (∀ W, Below v6.heap.size v6 W → Calls Try.prog 10 #[.agg #[.int .i64 r0, .int .i64 c0, (.slice a0 xs0.length cap0)]] W fun e w' => ∃ g, e = .returned (.agg #[.int .i64 r0, .int .i64 c0, .slice (some ⟨g, 0, none⟩) xs0.length xs0.length]) ∧ W.heap.size ≤ g ∧ g < w'.heap.size ∧ Own W.heap.size w' (.slice (some ⟨g, 0, none⟩) xs0.length xs0.length) xs0 ∧ Below W.heap.size W w') := Lib.hid (fun W h => toField_at W r0 c0 _ xs0 (HV0.out.below (bt B6.out h)) hl0)
        have T2 : Hid (∀ W u, Below v6.heap.size v6 W → Sl W u xs0 → Calls Try.prog 12 #[.agg #[.int .i64 r0, .int .i64 c0, (.slice (some ⟨g4, 0, none⟩) xs0.length xs0.length)], .agg #[.int .i64 r0, .int .i64 c0, u]] W fun e w' => e = .returned (.bool true) ∧ Below W.heap.size W w') := Lib.hid (fun W u h hs => eqField_self W r0 c0 _ u xs0 (O46.out.sl.below h) hs hl0)
        obtain ⟨kc0, kc1, kc2⟩ := (KQ.out _ (Below.refl _ _)).three
        obtain ⟨xc0, xc1, xc2⟩ := (KX.out _ (Below.refl _ _)).three
        have hklt := (KQ.out _ (Below.refl _ _)).lt
        have hxlt := (KX.out _ (Below.refl _ _)).lt
        go_wp2_with fail
        go_region_held3 (fun w' => w'.cell? ⟨w.heap.size, 0, none⟩ = some (.int .i64 r0) ∧ w'.cell? ⟨w.heap.size, 1, none⟩ = some (.int .i64 c0) ∧ w'.cell? ⟨w.heap.size, 2, none⟩ = some (.slice a0 xs0.length cap0) ∧ w'.cell? ⟨v4.heap.size, 0, none⟩ = some (.int .i64 r0) ∧ w'.cell? ⟨v4.heap.size, 1, none⟩ = some (.int .i64 c0) ∧ w'.cell? ⟨v4.heap.size, 2, none⟩ = some (.slice (some ⟨g4, 0, none⟩) xs0.length xs0.length)) (go_keep)
          (first
            | (go_at_call 10; refine (T1.out _ (by first | exact bdr1 _ | exact Below.refl _ _)).mono ?_; rintro e vA ⟨gA, rfl, -, -, oA, bA⟩; have bA0 : Below v6.heap.size v6 vA := (by first | exact bt (bdr1 _) bA | exact bA); obtain ⟨lc0, lc1, lc2⟩ := (KQ.out vA bA0).three; obtain ⟨yc0, yc1, yc2⟩ := (KX.out vA bA0).three)
            | (go_at_call 12; refine (T2.out _ _ (by first | exact bA0 | exact bt bA0 (bdr1 _)) (by first | exact oA.sl | exact (oA.drewN 1).sl)).mono ?_; rintro e v7 ⟨rfl, bC⟩; have b7 : Below v6.heap.size v6 v7 := (by first | exact bt bA0 bC | exact bt (bt bA0 (bdr1 _)) bC); obtain ⟨zc0, zc1, zc2⟩ := (KQ.out v7 b7).three; obtain ⟨tc0, tc1, tc2⟩ := (KX.out v7 b7).three))
        all_goals (
          clear KQ KX T1 T2 oA bA bA0 bC kc0 kc1 kc2 xc0 xc1 xc2 lc0 lc1 lc2 yc0 yc1 yc2 zc0 zc1 zc2 tc0 tc1 tc2 hklt hxlt
          have B7 := Lib.hid (bt B6.out b7)
          have F17 := Lib.hid (F16.out.all b7)
          have O57 := Lib.hid (O56.out.belowAll b7)
          clear b7 F06 O46 F16 O56
          have KQ : Hid (∀ W, Below v7.heap.size v7 W → FC W (w.heap.size + 1) r1 c1 (.slice a1 xs1.length cap1)) := Lib.hid (fun W h => (K1.out.all B7.out).all h)
          have KX : Hid (∀ W, Below v7.heap.size v7 W → FC W v5.heap.size r1 c1 (.slice (some ⟨g5, 0, none⟩) xs1.length xs1.length)) := Lib.hid (fun W h => F17.out.all h)
          have T1 : Hid (∀ W, Below v7.heap.size v7 W → Calls Try.prog 10 #[.agg #[.int .i64 r1, .int .i64 c1, (.slice a1 xs1.length cap1)]] W fun e w' => ∃ g, e = .returned (.agg #[.int .i64 r1, .int .i64 c1, .slice (some ⟨g, 0, none⟩) xs1.length xs1.length]) ∧ W.heap.size ≤ g ∧ g < w'.heap.size ∧ Own W.heap.size w' (.slice (some ⟨g, 0, none⟩) xs1.length xs1.length) xs1 ∧ Below W.heap.size W w') := Lib.hid (fun W h => toField_at W r1 c1 _ xs1 (HV1.out.below (bt B7.out h)) hl1)
          have T2 : Hid (∀ W u, Below v7.heap.size v7 W → Sl W u xs1 → Calls Try.prog 12 #[.agg #[.int .i64 r1, .int .i64 c1, (.slice (some ⟨g5, 0, none⟩) xs1.length xs1.length)], .agg #[.int .i64 r1, .int .i64 c1, u]] W fun e w' => e = .returned (.bool true) ∧ Below W.heap.size W w') := Lib.hid (fun W u h hs => eqField_self W r1 c1 _ u xs1 (O57.out.sl.below h) hs hl1)
          obtain ⟨kc0, kc1, kc2⟩ := (KQ.out _ (Below.refl _ _)).three
          obtain ⟨xc0, xc1, xc2⟩ := (KX.out _ (Below.refl _ _)).three
          have hklt := (KQ.out _ (Below.refl _ _)).lt
          have hxlt := (KX.out _ (Below.refl _ _)).lt
          go_wp2_with fail
          go_region_held3 (fun w' => w'.cell? ⟨w.heap.size + 1, 0, none⟩ = some (.int .i64 r1) ∧ w'.cell? ⟨w.heap.size + 1, 1, none⟩ = some (.int .i64 c1) ∧ w'.cell? ⟨w.heap.size + 1, 2, none⟩ = some (.slice a1 xs1.length cap1) ∧ w'.cell? ⟨v5.heap.size, 0, none⟩ = some (.int .i64 r1) ∧ w'.cell? ⟨v5.heap.size, 1, none⟩ = some (.int .i64 c1) ∧ w'.cell? ⟨v5.heap.size, 2, none⟩ = some (.slice (some ⟨g5, 0, none⟩) xs1.length xs1.length)) (go_keep)
            (first
              | (go_at_call 10; refine (T1.out _ (by first | exact bdr1 _ | exact Below.refl _ _)).mono ?_; rintro e vA ⟨gA, rfl, -, -, oA, bA⟩; have bA0 : Below v7.heap.size v7 vA := (by first | exact bt (bdr1 _) bA | exact bA); obtain ⟨lc0, lc1, lc2⟩ := (KQ.out vA bA0).three; obtain ⟨yc0, yc1, yc2⟩ := (KX.out vA bA0).three)
              | (go_at_call 12; refine (T2.out _ _ (by first | exact bA0 | exact bt bA0 (bdr1 _)) (by first | exact oA.sl | exact (oA.drewN 1).sl)).mono ?_; rintro e v8 ⟨rfl, bC⟩; have b8 : Below v7.heap.size v7 v8 := (by first | exact bt bA0 bC | exact bt (bt bA0 (bdr1 _)) bC); obtain ⟨zc0, zc1, zc2⟩ := (KQ.out v8 b8).three; obtain ⟨tc0, tc1, tc2⟩ := (KX.out v8 b8).three))
          all_goals (
            clear KQ KX T1 T2 oA bA bA0 bC kc0 kc1 kc2 xc0 xc1 xc2 lc0 lc1 lc2 yc0 yc1 yc2 zc0 zc1 zc2 tc0 tc1 tc2 hklt hxlt
            have B8 := Lib.hid (bt B7.out b8)
            go_wp2_with fail
            go_ret
            exact ⟨rfl, bt HB0.out B8.out⟩)))
    · have hn1 : (1048576 : Int) - xs0.length < xs1.length := by omega
      have hn0 : ¬ (1048576 : Int) - xs0.length < 0 := by omega
      have HB0 : Hid (Below w.heap.size w (boxF (boxF w r0 c0 (.slice a0 xs0.length cap0) 24) r1 c1 (.slice a1 xs1.length cap1) 24)) := Lib.hid (bt (boxF_below w r0 c0 (.slice a0 xs0.length cap0) 24) (boxF_below (boxF w r0 c0 (.slice a0 xs0.length cap0) 24) r1 c1 (.slice a1 xs1.length cap1) 24))
      have K1 : Hid (FC (boxF (boxF w r0 c0 (.slice a0 xs0.length cap0) 24) r1 c1 (.slice a1 xs1.length cap1) 24) (w.heap.size + 1) r1 c1 (.slice a1 xs1.length cap1)) := Lib.hid (by have := boxF_cells (boxF w r0 c0 (.slice a0 xs0.length cap0) 24) r1 c1 (.slice a1 xs1.length cap1) 24; rwa [boxF_size] at this)
      have Z0 := Lib.hid (szField_in (boxF (boxF w r0 c0 (.slice a0 xs0.length cap0) 24) r1 c1 (.slice a1 xs1.length cap1) 24) r0 c0 a0 xs0.length cap0 (1048576 : Int) (by omega) (by omega))
      have Z1 := Lib.hid (fun W => szField_out W r1 c1 a1 xs1.length cap1 ((1048576 : Int) - xs0.length) (by omega) (by omega) (by omega))
      clear w0 w1
      go_enter Try.func4, Try.ntmps4
      go_wp2_with fail
      refine Z0.out.mono ?_
      rintro e v1 ⟨rfl, b1⟩
      have B1 := Lib.hid b1
      clear b1 Z0
      obtain ⟨qc0, qc1, qc2⟩ := (K1.out.all B1.out).three
      have qlt := (K1.out.all B1.out).lt
      go_wp2_with fail
      refine (Z1.out _).mono ?_
      rintro e v2 ⟨rfl, b2⟩
      have B2 := Lib.hid (bt B1.out b2)
      clear b2
      go_wp2_with fail
      go_ret
      exact ⟨rfl, bt HB0.out B2.out⟩
  · have hn0 : (1048576 : Int) < xs0.length := by omega
    have HB0 : Hid (Below w.heap.size w (boxF (boxF w r0 c0 (.slice a0 xs0.length cap0) 24) r1 c1 (.slice a1 xs1.length cap1) 24)) := Lib.hid (bt (boxF_below w r0 c0 (.slice a0 xs0.length cap0) 24) (boxF_below (boxF w r0 c0 (.slice a0 xs0.length cap0) 24) r1 c1 (.slice a1 xs1.length cap1) 24))
    have Z0 := Lib.hid (szField_out (boxF (boxF w r0 c0 (.slice a0 xs0.length cap0) 24) r1 c1 (.slice a1 xs1.length cap1) 24) r0 c0 a0 xs0.length cap0 (1048576 : Int) (by omega) hn0 (by omega))
    clear w0 w1
    go_enter Try.func4, Try.ntmps4
    go_wp2_with fail
    refine Z0.out.mono ?_
    rintro e v1 ⟨rfl, b1⟩
    have B1 := Lib.hid (bt HB0.out b1)
    clear b1 Z0
    go_wp2_with fail
    go_ret
    exact ⟨rfl, B1.out⟩
end Go.Proofs.Ytakalehakdffiaa.fnExactSameField
