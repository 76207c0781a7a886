/-
  The walk of the law FnExactAddLayer and what it stands on: For every slice of layers (nil, shared and with spare room too) and every layer the program's AddLayer answers as its model, leaves its argument as it was, and its answer owns its memory: the law returns true and writes nothing that was there. No condition (beyond 2^20 layers the law itself returns true).
-/
import Derived.Test.YtdfmgdmekflmeaaRows
import Derived.Test.YtdfmgdmekflmeaaAddS
import Derived.Test.YtdfmgdmekflmeaaOpen
import Derived.WalkKit
import Derived.WalkSpells
import Derived.WalkLawsBesides
import Derived.Outline
import Derived.IntWalk
import Derived.Lib.Hide
import Derived.ProofKit
import Derived.OpenShut
import Derived.ShutString
import Derived.ChangeOld
import Derived.ChangeVars
import Derived.Below
import Derived.WalkSmall
namespace Go.Proofs.Ytdfmgdmekflmeaa.fnExactAddLayer
open Go.ChangeShapes Go.WideShapes Go.ChangeAt Go.RowKit
open Go.ChangeMaps (open_string shut_string)
set_option linter.unusedVariables false

theorem walk (a0 : Option Addr) (cap0 : Nat) (xs0 : List Lay) (x1 : Lay) (w : World) (w0 : LSl w (.slice a0 xs0.length cap0) xs0) (m0 : xs0.length ≤ maxLen) :
    Calls Try.prog 3 #[.slice a0 xs0.length cap0, .agg #[.int .i64 x1.fo, .int .i64 x1.ic, .int .i64 x1.wa, .int .i64 x1.de, .int .i64 x1.dg, .int .i64 x1.ha, .int .i64 x1.ag]] w fun e w' => e = .returned (.bool true) ∧ Below w.heap.size w w' := by
  unfold maxLen at m0
  by_cases hb0 : xs0.length ≤ 1048576
  · have hn0 : ¬ (1048576 : Int) - xs0.length < 0 := by omega
    have hl0 : xs0.length ≤ 1048576 := by omega
    have Z0 := Lib.hid (szLayerS_in (boxed w x1 24) a0 xs0.length cap0 (1048576 : Int) (by omega) (by omega))
    have HV0 := Lib.hid w0
    clear w0
    have HB0 : Hid (Below w.heap.size w (boxed w x1 24)) := Lib.hid (boxed_below w x1 24)
    have K0 : Hid (∀ w1, Below (boxed w x1 24).heap.size (boxed w x1 24) w1 → LCells w1 w.heap.size 0 x1) := Lib.hid (fun w1 h => boxed_kept h)
    have HV0 := Lib.hid (HV0.out.below HB0.out)
    go_enter Try.func3, Try.ntmps3
    go_wp2_with fail
    refine Z0.out.mono ?_
    rintro e _ ⟨rfl, rfl⟩
    go_wp2_with fail
    have hbx : boxed w x1 24 = w.alloc (.cells #[.int .i64 x1.fo, .int .i64 x1.ic, .int .i64 x1.wa, .int .i64 x1.de, .int .i64 x1.dg, .int .i64 x1.ha, .int .i64 x1.ag] 24) := rfl
    try rw [← hbx]
    clear hbx Z0
    generalize boxed w x1 24 = v0 at *
    have KK : Hid (∀ W, Below v0.heap.size v0 W → LCells W w.heap.size 0 x1) := Lib.hid (fun W h => K0.out W h)
    have T1 : Hid (∀ W, Below v0.heap.size v0 W → Calls Try.prog 19 #[.slice a0 xs0.length cap0] W fun e W' => e = .returned (.slice (some ⟨W.heap.size, 0, none⟩) xs0.length xs0.length) ∧ LOwn W.heap.size W' (.slice (some ⟨W.heap.size, 0, none⟩) xs0.length xs0.length) xs0 ∧ Below W.heap.size W W') := Lib.hid (fun W h => toLayerS_at W _ xs0 (HV0.out.below h) hl0)
    have T2 := fun W => Lib.hid (toLayer_any x1 W)
    obtain ⟨c0, c1, c2, c3, c4, c5, c6⟩ := (KK.out v0 (Below.refl _ _)).zero
    go_wp2_with fail
    go_region_held3 (fun w' => w'.cell? ⟨w.heap.size, 0, none⟩ = some (.int .i64 x1.fo) ∧ w'.cell? ⟨w.heap.size, 1, none⟩ = some (.int .i64 x1.ic) ∧ w'.cell? ⟨w.heap.size, 2, none⟩ = some (.int .i64 x1.wa) ∧ w'.cell? ⟨w.heap.size, 3, none⟩ = some (.int .i64 x1.de) ∧ w'.cell? ⟨w.heap.size, 4, none⟩ = some (.int .i64 x1.dg) ∧ w'.cell? ⟨w.heap.size, 5, none⟩ = some (.int .i64 x1.ha) ∧ w'.cell? ⟨w.heap.size, 6, none⟩ = some (.int .i64 x1.ag)) (go_keep)
      (first
        | (go_at_call 19; refine (T1.out _ (by first | exact below_drew1 _ | exact bB0)).mono ?_; rintro e vA ⟨rfl, oA, bA⟩; have bA0 : Below v0.heap.size v0 vA := (by first | exact bt bB0 bA | exact bt (below_drew1 _) bA); obtain ⟨k0, k1, k2, k3, k4, k5, k6⟩ := (KK.out vA bA0).zero)
        | (go_at_call 20; refine (T2 _).out.mono ?_; rintro e vB ⟨rfl, bB⟩; have bB0 : Below v0.heap.size v0 vB := (by first | exact bt bA0 bB | exact bt (below_drew1 _) bB); obtain ⟨j0, j1, j2, j3, j4, j5, j6⟩ := (KK.out vB bB0).zero)
        | (go_at_call 18; refine (specAddLayer_any _ _ _ _ xs0 x1 (by first | exact oA.belowAll bB | exact oA) hl0).mono ?_; rintro e v1 ⟨u1, rfl, oc, bc⟩; have b1 : Below v0.heap.size v0 v1 := (by first | exact bt bB0 bc | exact bt bA0 bc); have o1 := oc.le (B' := v0.heap.size) (by first | exact bB0.size | exact bA0.size); obtain ⟨l0, l1, l2, l3, l4, l5, l6⟩ := (KK.out v1 b1).zero))
    all_goals (
      clear KK T1 T2 oA bA bA0 bB bB0 oc bc
      have z1 := Lib.hid b1.size
      have B1 := Lib.hid b1
      have s1 := Lib.hid o1
      clear b1 o1
      have SA := s1
      go_wp2_with fail
      refine (toLayerS_at _ _ xs0 (HV0.out.below B1.out) hl0).mono ?_
      rintro e v2 ⟨rfl, o2, b2⟩
      have z2 := Lib.hid b2.size
      have B2 := Lib.hid (bt B1.out b2)
      have A2 := Lib.hid b2
      have s2 := Lib.hid (s1.out.belowAll b2)
      clear s1
      have x0_2 := Lib.hid o2
      have XL0 := Lib.hid (World.ownsRow.lt o2 _ rfl).2
      clear b2 o2
      obtain ⟨c0, c1, c2, c3, c4, c5, c6⟩ := (K0.out v2 B2.out).zero
      go_wp2_with fail
      refine (toLayer_any x1 _).mono ?_
      rintro e v3 ⟨rfl, b3⟩
      have z3 := Lib.hid b3.size
      have B3 := Lib.hid (bt B2.out b3)
      have A3 := Lib.hid (bt A2.out b3)
      have s3 := Lib.hid (s2.out.belowAll b3)
      clear s2
      have x0_3 := Lib.hid (x0_2.out.belowAll b3)
      clear x0_2
      clear b3
      go_wp2_with fail
      refine (implAddLayer_any _ _ _ _ xs0 x1 x0_3.out hl0).mono ?_
      rintro e v4 ⟨u4, rfl, o4, b4⟩
      have z4 := Lib.hid b4.size
      have B4 := Lib.hid (bt B3.out b4)
      have A4 := Lib.hid (bt A3.out b4)
      have s4 := Lib.hid (s3.out.belowAll b4)
      clear s3
      have x0_4 := Lib.hid (x0_3.out.belowAll b4)
      clear x0_3
      have g4 := Lib.hid o4
      clear b4 o4
      have XB0 : Hid (v1.heap.size ≤ v1.heap.size) := Lib.hid (by exact Nat.le_refl _)
      have XG0 : Hid (v1.heap.size < v3.heap.size) := Lib.hid (by have := XL0.out; have := z3.out; omega)
      have GA : Hid (v1.heap.size ≤ v3.heap.size) := Lib.hid (by have := z2.out; have := z3.out; omega)
      go_wp2_with fail
      refine (eqLayerS_any _ _ _ (La.adR xs0 x1) (La.adR xs0 x1) g4.out.sl s4.out.sl (La.adR_len xs0 x1) (La.adR_len xs0 x1)).mono ?_
      rintro e v5 ⟨rfl, b5⟩
      have z5 := Lib.hid b5.size
      have B5 := Lib.hid (bt B4.out b5)
      have A5 := Lib.hid (bt A4.out b5)
      have s5 := Lib.hid (s4.out.belowAll b5)
      clear s4
      have x0_5 := Lib.hid (x0_4.out.belowAll b5)
      clear x0_4
      have g5 := Lib.hid (g4.out.belowAll b5)
      clear g4
      clear b5
      rw [La.eqP_self]
      go_wp2_with fail
      refine (toLayerS_at _ _ xs0 (HV0.out.below B5.out) hl0).mono ?_
      rintro e v6 ⟨rfl, o6, b6⟩
      have z6 := Lib.hid b6.size
      have B6 := Lib.hid (bt B5.out b6)
      have A6 := Lib.hid (bt A5.out b6)
      have s6 := Lib.hid (s5.out.belowAll b6)
      clear s5
      have x0_6 := Lib.hid (x0_5.out.belowAll b6)
      clear x0_5
      have g6 := Lib.hid (g5.out.belowAll b6)
      clear g5
      have y6 := Lib.hid o6
      clear b6 o6
      go_wp2_with fail
      refine (eqLayerS_any _ _ _ xs0 xs0 x0_6.out.sl y6.out.sl hl0 hl0).mono ?_
      rintro e v7 ⟨rfl, b7⟩
      clear y6
      have z7 := Lib.hid b7.size
      have B7 := Lib.hid (bt B6.out b7)
      have A7 := Lib.hid (bt A6.out b7)
      have s7 := Lib.hid (s6.out.belowAll b7)
      clear s6
      have x0_7 := Lib.hid (x0_6.out.belowAll b7)
      clear x0_6
      have g7 := Lib.hid (g6.out.belowAll b7)
      clear g6
      clear b7
      rw [La.eqP_self]
      go_wp2_with fail
      refine (markLayerS_own _ _ _ _ _ _ _ (by omega) (by omega) x0_7.out hl0).mono ?_
      rintro e v8 ⟨rfl, -, hg⟩
      clear x0_7
      have b8 := only_below (B := v1.heap.size) hg XB0.out A7.out.size
      have z8 := Lib.hid hg.size
      have A8 := Lib.hid (A7.out.trans b8)
      have B8 := Lib.hid (bt B1.out A8.out)
      have s8 := Lib.hid (SA.out.belowAll A8.out)
      clear s7
      have g8 := Lib.hid (g7.out.far hg XG0.out)
      clear g7
      clear hg b8
      go_wp2_with fail
      refine (eqLayerS_any _ _ _ (La.adR xs0 x1) (La.adR xs0 x1) g8.out.sl s8.out.sl (La.adR_len xs0 x1) (La.adR_len xs0 x1)).mono ?_
      rintro e v9 ⟨rfl, b9⟩
      have z9 := Lib.hid b9.size
      have B9 := Lib.hid (bt B8.out b9)
      have A9 := Lib.hid (bt A8.out b9)
      have s9 := Lib.hid (s8.out.belowAll b9)
      clear s8
      have g9 := Lib.hid (g8.out.belowAll b9)
      clear g8
      clear b9
      rw [La.eqP_self]
      have GB : Hid (v3.heap.size ≤ v9.heap.size) := Lib.hid (by have := z4.out; have := z5.out; have := z6.out; have := z7.out; have := z8.out; have := z9.out; omega)
      go_wp2_with fail
      refine (markLayerS_res _ _ _ (La.adR xs0 x1).length _ 1 (by omega) (by omega) g9.out (La.adR_len xs0 x1) GB.out).mono ?_
      rintro e v10 ⟨rfl, mo10, b10⟩
      clear g9
      have A10 := Lib.hid (A9.out.trans (b10.mono GA.out))
      have B10 := Lib.hid (bt B1.out A10.out)
      have s10 := Lib.hid (SA.out.belowAll A10.out)
      clear s9
      have mk10 := Lib.hid mo10
      clear mo10 b10
      go_wp2_with fail
      refine (heldLayerS_own _ _ _ (La.adR xs0 x1).length 1 (by omega) (by omega) (La.adR_len xs0 x1) mk10.out).mono ?_
      rintro e v11 ⟨rfl, b11⟩
      have z11 := Lib.hid b11.size
      have B11 := Lib.hid (bt B10.out b11)
      have A11 := Lib.hid (bt A10.out b11)
      have s11 := Lib.hid (s10.out.belowAll b11)
      clear s10
      have mk11 := Lib.hid (own_belowAll mk10.out b11)
      clear mk10
      clear b11
      have KK : Hid (∀ W, Below v11.heap.size v11 W → LCells W w.heap.size 0 x1) := Lib.hid (fun W h => K0.out W (bt B11.out h))
      have T1 : Hid (∀ W, Below v11.heap.size v11 W → Calls Try.prog 19 #[.slice a0 xs0.length cap0] W fun e W' => e = .returned (.slice (some ⟨W.heap.size, 0, none⟩) xs0.length xs0.length) ∧ LOwn W.heap.size W' (.slice (some ⟨W.heap.size, 0, none⟩) xs0.length xs0.length) xs0 ∧ Below W.heap.size W W') := Lib.hid (fun W h => toLayerS_at W _ xs0 (HV0.out.below (bt B11.out h)) hl0)
      have T2 := fun W => Lib.hid (toLayer_any x1 W)
      obtain ⟨c0, c1, c2, c3, c4, c5, c6⟩ := (KK.out v11 (Below.refl _ _)).zero
      go_wp2_with fail
      go_region_held3 (fun w' => w'.cell? ⟨w.heap.size, 0, none⟩ = some (.int .i64 x1.fo) ∧ w'.cell? ⟨w.heap.size, 1, none⟩ = some (.int .i64 x1.ic) ∧ w'.cell? ⟨w.heap.size, 2, none⟩ = some (.int .i64 x1.wa) ∧ w'.cell? ⟨w.heap.size, 3, none⟩ = some (.int .i64 x1.de) ∧ w'.cell? ⟨w.heap.size, 4, none⟩ = some (.int .i64 x1.dg) ∧ w'.cell? ⟨w.heap.size, 5, none⟩ = some (.int .i64 x1.ha) ∧ w'.cell? ⟨w.heap.size, 6, none⟩ = some (.int .i64 x1.ag)) (go_keep)
        (first
          | (go_at_call 19; refine (T1.out _ (by first | exact below_drew1 _ | exact bB0)).mono ?_; rintro e vA ⟨rfl, oA, bA⟩; have bA0 : Below v11.heap.size v11 vA := (by first | exact bt bB0 bA | exact bt (below_drew1 _) bA); obtain ⟨k0, k1, k2, k3, k4, k5, k6⟩ := (KK.out vA bA0).zero)
          | (go_at_call 20; refine (T2 _).out.mono ?_; rintro e vB ⟨rfl, bB⟩; have bB0 : Below v11.heap.size v11 vB := (by first | exact bt bA0 bB | exact bt (below_drew1 _) bB); obtain ⟨j0, j1, j2, j3, j4, j5, j6⟩ := (KK.out vB bB0).zero)
          | (go_at_call 21; refine (implAddLayer_any _ _ _ _ xs0 x1 (by first | exact oA.belowAll bB | exact oA) hl0).mono ?_; rintro e v12 ⟨u12, rfl, oc, bc⟩; have b12 : Below v11.heap.size v11 v12 := (by first | exact bt bB0 bc | exact bt bA0 bc); have o12 := oc.le (B' := v11.heap.size) (by first | exact bB0.size | exact bA0.size); obtain ⟨l0, l1, l2, l3, l4, l5, l6⟩ := (KK.out v12 b12).zero))
      all_goals (
        clear KK T1 T2 oA bA bA0 bB bB0 oc bc
        have z12 := Lib.hid b12.size
        have B12 := Lib.hid (bt B11.out b12)
        have A12 := Lib.hid (bt A11.out b12)
        have s12 := Lib.hid (s11.out.belowAll b12)
        clear s11
        have mk12 := Lib.hid (own_belowAll mk11.out b12)
        clear mk11
        have h12 := Lib.hid o12
        clear b12 o12
        go_wp2_with fail
        refine (eqLayerS_any _ _ _ (La.adR xs0 x1) (La.adR xs0 x1) h12.out.sl s12.out.sl (La.adR_len xs0 x1) (La.adR_len xs0 x1)).mono ?_
        rintro e v13 ⟨rfl, b13⟩
        have z13 := Lib.hid b13.size
        have B13 := Lib.hid (bt B12.out b13)
        have A13 := Lib.hid (bt A12.out b13)
        have s13 := Lib.hid (s12.out.belowAll b13)
        clear s12
        have mk13 := Lib.hid (own_belowAll mk12.out b13)
        clear mk12
        have h13 := Lib.hid (h12.out.belowAll b13)
        clear h12
        clear b13
        rw [La.eqP_self]
        go_wp2_with fail
        refine (heldLayerS_own _ _ _ (La.adR xs0 x1).length 1 (by omega) (by omega) (La.adR_len xs0 x1) mk13.out).mono ?_
        rintro e v14 ⟨rfl, b14⟩
        have z14 := Lib.hid b14.size
        have B14 := Lib.hid (bt B13.out b14)
        have A14 := Lib.hid (bt A13.out b14)
        have s14 := Lib.hid (s13.out.belowAll b14)
        clear s13
        have mk14 := Lib.hid (own_belowAll mk13.out b14)
        clear mk13
        have h14 := Lib.hid (h13.out.belowAll b14)
        clear h13
        clear b14
        go_wp2_with fail
        go_ret
        exact ⟨rfl, bt HB0.out B14.out⟩))
  · have hn0 : (1048576 : Int) < xs0.length := by omega
    have Z0 := Lib.hid (szLayerS_out (boxed w x1 24) a0 xs0.length cap0 (1048576 : Int) (by omega) hn0 (by omega))
    go_enter Try.func3, Try.ntmps3
    go_wp2_with fail
    refine Z0.out.mono ?_
    rintro e _ ⟨rfl, rfl⟩
    go_wp2_with fail
    go_ret
    exact ⟨rfl, (Below.refl _ _).alloc (by first | exact Nat.le_refl _ | simp | (simp; omega)) _⟩
end Go.Proofs.Ytdfmgdmekflmeaa.fnExactAddLayer
