/-
  The gradient between two layers, and a layer that settles under what lies above it: the program's methods. No condition of its own.
-/
import Derived.Test.YtbdhdlgenfpjgaaDoorHrB
namespace Go.Proofs.YtbdhdlgenfpjgaaDoor
open Go.RowKit Go.Shelf
set_option linter.unusedVariables false
set_option maxRecDepth 100000

set_option maxHeartbeats 1600000 in
theorem settled_ex (x : Lay) (l : Int) (w : World) (hf : La.Fits x) (h0 : 0 ≤ l) (h1 : l ≤ 32000000) :
    Calls Tryd.prog 54 #[.agg #[.int .i64 x.fo, .int .i64 x.ic, .int .i64 x.wa, .int .i64 x.de, .int .i64 x.dg, .int .i64 x.ha, .int .i64 x.ag], .int .i64 l] w fun e w' => e = .returned (.agg #[.int .i64 (La.stl x l).fo, .int .i64 (La.stl x l).ic, .int .i64 (La.stl x l).wa, .int .i64 (La.stl x l).de, .int .i64 (La.stl x l).dg, .int .i64 (La.stl x l).ha, .int .i64 (La.stl x l).ag]) ∧ w' = (w.alloc (bxo (La.stl x l))).alloc (bxo (La.stl x l)) := by
  have d1 := hf.d1; have d2 := hf.d2; have a1 := hf.a1; have a2 := hf.a2
  obtain ⟨G, hG⟩ : ∃ G, G = min 10000 (x.ag + 1) := ⟨_, rfl⟩
  by_cases hd : x.de < 550
  · obtain ⟨p1, p2⟩ := La.stl_in hf h0 h1 hd
    rw [stl_t hd, ← hG]
    clear hf
    generalize hA : x.de + (550 - x.de) * l / 10000000 = A at *
    obtain ⟨D, hD⟩ : ∃ D, D = min 550 A := ⟨_, rfl⟩
    rw [← hD]
    by_cases c1 : A < 550
    · have : D = A := by omega
      subst this
      clear hD
      by_cases c2 : x.ag + 1 < 10000
      · have hG2 : x.ag + 1 = G := by omega
        rw [hG2] at c2
        clear hG
        unfold bxo
        go_enter Tryd.func54, Tryd.ntmps54
        go_wp2
        exact bodyPost_ret (v := .agg #[.int .i64 (⟨x.fo, x.ic, x.wa, D, x.dg, x.ha, G⟩ : Lay).fo, .int .i64 (⟨x.fo, x.ic, x.wa, D, x.dg, x.ha, G⟩ : Lay).ic, .int .i64 (⟨x.fo, x.ic, x.wa, D, x.dg, x.ha, G⟩ : Lay).wa, .int .i64 (⟨x.fo, x.ic, x.wa, D, x.dg, x.ha, G⟩ : Lay).de, .int .i64 (⟨x.fo, x.ic, x.wa, D, x.dg, x.ha, G⟩ : Lay).dg, .int .i64 (⟨x.fo, x.ic, x.wa, D, x.dg, x.ha, G⟩ : Lay).ha, .int .i64 (⟨x.fo, x.ic, x.wa, D, x.dg, x.ha, G⟩ : Lay).ag]) (by simp [results, Tryd.results54, go_sem]) rfl ⟨rfl, rfl⟩
      · have : G = 10000 := by omega
        subst this
        clear hG
        unfold bxo
        go_enter Tryd.func54, Tryd.ntmps54
        go_wp2
        exact bodyPost_ret (v := .agg #[.int .i64 (⟨x.fo, x.ic, x.wa, D, x.dg, x.ha, 10000⟩ : Lay).fo, .int .i64 (⟨x.fo, x.ic, x.wa, D, x.dg, x.ha, 10000⟩ : Lay).ic, .int .i64 (⟨x.fo, x.ic, x.wa, D, x.dg, x.ha, 10000⟩ : Lay).wa, .int .i64 (⟨x.fo, x.ic, x.wa, D, x.dg, x.ha, 10000⟩ : Lay).de, .int .i64 (⟨x.fo, x.ic, x.wa, D, x.dg, x.ha, 10000⟩ : Lay).dg, .int .i64 (⟨x.fo, x.ic, x.wa, D, x.dg, x.ha, 10000⟩ : Lay).ha, .int .i64 (⟨x.fo, x.ic, x.wa, D, x.dg, x.ha, 10000⟩ : Lay).ag]) (by simp [results, Tryd.results54, go_sem]) rfl ⟨rfl, rfl⟩
    · have : D = 550 := by omega
      subst this
      clear hD
      by_cases c2 : x.ag + 1 < 10000
      · have hG2 : x.ag + 1 = G := by omega
        rw [hG2] at c2
        clear hG
        unfold bxo
        go_enter Tryd.func54, Tryd.ntmps54
        go_wp2
        exact bodyPost_ret (v := .agg #[.int .i64 (⟨x.fo, x.ic, x.wa, 550, x.dg, x.ha, G⟩ : Lay).fo, .int .i64 (⟨x.fo, x.ic, x.wa, 550, x.dg, x.ha, G⟩ : Lay).ic, .int .i64 (⟨x.fo, x.ic, x.wa, 550, x.dg, x.ha, G⟩ : Lay).wa, .int .i64 (⟨x.fo, x.ic, x.wa, 550, x.dg, x.ha, G⟩ : Lay).de, .int .i64 (⟨x.fo, x.ic, x.wa, 550, x.dg, x.ha, G⟩ : Lay).dg, .int .i64 (⟨x.fo, x.ic, x.wa, 550, x.dg, x.ha, G⟩ : Lay).ha, .int .i64 (⟨x.fo, x.ic, x.wa, 550, x.dg, x.ha, G⟩ : Lay).ag]) (by simp [results, Tryd.results54, go_sem]) rfl ⟨rfl, rfl⟩
      · have : G = 10000 := by omega
        subst this
        clear hG
        unfold bxo
        go_enter Tryd.func54, Tryd.ntmps54
        go_wp2
        exact bodyPost_ret (v := .agg #[.int .i64 (⟨x.fo, x.ic, x.wa, 550, x.dg, x.ha, 10000⟩ : Lay).fo, .int .i64 (⟨x.fo, x.ic, x.wa, 550, x.dg, x.ha, 10000⟩ : Lay).ic, .int .i64 (⟨x.fo, x.ic, x.wa, 550, x.dg, x.ha, 10000⟩ : Lay).wa, .int .i64 (⟨x.fo, x.ic, x.wa, 550, x.dg, x.ha, 10000⟩ : Lay).de, .int .i64 (⟨x.fo, x.ic, x.wa, 550, x.dg, x.ha, 10000⟩ : Lay).dg, .int .i64 (⟨x.fo, x.ic, x.wa, 550, x.dg, x.ha, 10000⟩ : Lay).ha, .int .i64 (⟨x.fo, x.ic, x.wa, 550, x.dg, x.ha, 10000⟩ : Lay).ag]) (by simp [results, Tryd.results54, go_sem]) rfl ⟨rfl, rfl⟩
  · rw [stl_f hd, ← hG]
    clear hf
    by_cases c2 : x.ag + 1 < 10000
    · have hG2 : x.ag + 1 = G := by omega
      rw [hG2] at c2
      clear hG
      unfold bxo
      go_enter Tryd.func54, Tryd.ntmps54
      go_wp2
      exact bodyPost_ret (v := .agg #[.int .i64 (⟨x.fo, x.ic, x.wa, x.de, x.dg, x.ha, G⟩ : Lay).fo, .int .i64 (⟨x.fo, x.ic, x.wa, x.de, x.dg, x.ha, G⟩ : Lay).ic, .int .i64 (⟨x.fo, x.ic, x.wa, x.de, x.dg, x.ha, G⟩ : Lay).wa, .int .i64 (⟨x.fo, x.ic, x.wa, x.de, x.dg, x.ha, G⟩ : Lay).de, .int .i64 (⟨x.fo, x.ic, x.wa, x.de, x.dg, x.ha, G⟩ : Lay).dg, .int .i64 (⟨x.fo, x.ic, x.wa, x.de, x.dg, x.ha, G⟩ : Lay).ha, .int .i64 (⟨x.fo, x.ic, x.wa, x.de, x.dg, x.ha, G⟩ : Lay).ag]) (by simp [results, Tryd.results54, go_sem]) rfl ⟨rfl, rfl⟩
    · have : G = 10000 := by omega
      subst this
      clear hG
      unfold bxo
      go_enter Tryd.func54, Tryd.ntmps54
      go_wp2
      exact bodyPost_ret (v := .agg #[.int .i64 (⟨x.fo, x.ic, x.wa, x.de, x.dg, x.ha, 10000⟩ : Lay).fo, .int .i64 (⟨x.fo, x.ic, x.wa, x.de, x.dg, x.ha, 10000⟩ : Lay).ic, .int .i64 (⟨x.fo, x.ic, x.wa, x.de, x.dg, x.ha, 10000⟩ : Lay).wa, .int .i64 (⟨x.fo, x.ic, x.wa, x.de, x.dg, x.ha, 10000⟩ : Lay).de, .int .i64 (⟨x.fo, x.ic, x.wa, x.de, x.dg, x.ha, 10000⟩ : Lay).dg, .int .i64 (⟨x.fo, x.ic, x.wa, x.de, x.dg, x.ha, 10000⟩ : Lay).ha, .int .i64 (⟨x.fo, x.ic, x.wa, x.de, x.dg, x.ha, 10000⟩ : Lay).ag]) (by simp [results, Tryd.results54, go_sem]) rfl ⟨rfl, rfl⟩
set_option maxHeartbeats 800000 in
theorem mass_ex (x : Lay) (w : World) (hf : La.Fits x) :
    Calls Tryd.prog 55 #[.agg #[.int .i64 x.fo, .int .i64 x.ic, .int .i64 x.wa, .int .i64 x.de, .int .i64 x.dg, .int .i64 x.ha, .int .i64 x.ag]] w fun e w' => e = .returned (.int .i64 (La.mass x)) ∧ w' = w.alloc (bxo x) := by
  have i1 := hf.i1
  have i2 := hf.i2
  have d1 := hf.w1
  have d2 := hf.w2
  clear hf
  go_enter Tryd.func55, Tryd.ntmps55
  go_wp2
  go_ret
  exact ⟨rfl, rfl⟩
set_option maxHeartbeats 1600000 in
theorem settleLit_any (x : Lay) (l : Int) (w : World) (hf : La.Fits x) (h0 : 0 ≤ l) (h1 : l ≤ 32000000) :
    Calls Tryd.prog 53 #[.agg #[.int .i64 x.fo, .int .i64 x.ic, .int .i64 x.wa, .int .i64 x.de, .int .i64 x.dg, .int .i64 x.ha, .int .i64 x.ag], .int .i64 l] w fun e w' => e = .returned (.tuple #[.agg #[.int .i64 (La.stl x l).fo, .int .i64 (La.stl x l).ic, .int .i64 (La.stl x l).wa, .int .i64 (La.stl x l).de, .int .i64 (La.stl x l).dg, .int .i64 (La.stl x l).ha, .int .i64 (La.stl x l).ag], .int .i64 (l + La.mass x), .bool true]) ∧ Below w.heap.size w w' := by
  obtain ⟨m1, m2⟩ := La.mass_in hf
  have CS := fun W => Lib.hid (settled_ex x l W hf h0 h1)
  have CM := fun W => Lib.hid (mass_ex x W hf)
  clear hf
  unfold bxo at CS CM
  generalize La.mass x = m at *
  generalize La.stl x l = y at *
  have nw : IntKind.i64.wrap (l + m) = l + m := IntWalk.i64_in _ (by omega)
  go_enter Tryd.func53, Tryd.ntmps53
  go_wp2_with fail
  go_region_with (first | (go_at_call 54; refine (CS _).out.mono ?_; rintro e w1 ⟨rfl, rfl⟩) | (go_at_call 55; refine (CM _).out.mono ?_; rintro e w1 ⟨rfl, rfl⟩))
  all_goals (
    go_wp2_with fail
    exact bodyPost_ret (v := .tuple #[.agg #[.int .i64 y.fo, .int .i64 y.ic, .int .i64 y.wa, .int .i64 y.de, .int .i64 y.dg, .int .i64 y.ha, .int .i64 y.ag], .int .i64 (l + m), .bool true]) (by simp [results, Tryd.results53, go_sem]) rfl ⟨rfl, by repeat (first | exact Below.refl _ _ | refine bAl ?_ _ | refine bDr ?_)⟩)
set_option maxHeartbeats 800000 in
theorem thickness_ex (x : Lay) (w : World) (hf : La.Fits x) :
    Calls Tryd.prog 68 #[.agg #[.int .i64 x.fo, .int .i64 x.ic, .int .i64 x.wa, .int .i64 x.de, .int .i64 x.dg, .int .i64 x.ha, .int .i64 x.ag]] w fun e w' => e = .returned (.int .i64 (La.thick x)) ∧ w' = w.alloc (bxo x) := by
  have i1 := hf.i1
  have i2 := hf.i2
  have d1 := hf.d1
  have d2 := hf.d2
  have hd : Hid (Ar.dR x.ic x.de = La.thick x) := Lib.hid (by unfold Ar.dR La.thick; rw [if_neg (by omega)])
  have C := fun W => Lib.hid (implDivRound_any x.ic x.de W)
  clear hf
  go_enter Tryd.func68, Tryd.ntmps68
  go_wp2_with fail
  refine (C _).out.mono ?_
  rintro e w1 ⟨rfl, rfl⟩
  go_wp2_with fail
  go_ret
  exact ⟨ret_int hd.out, rfl⟩
theorem grd_impl {x y : Lay} (hx : La.Fits x) (hy : La.Fits y) : Ar.dR (1000 * (y.dg - x.dg)) (La.way x y) = La.grd x y := by
  have := La.way_bd hx hy
  have := hx.g1; have := hx.g2; have := hy.g1; have := hy.g2
  unfold Ar.dR La.grd
  rw [if_neg (by omega), Int.mul_comm]
set_option maxHeartbeats 1600000 in
theorem gradientTo_any (x y : Lay) (w : World) (hx : La.Fits x) (hy : La.Fits y) :
    Calls Tryd.prog 65 #[.agg #[.int .i64 x.fo, .int .i64 x.ic, .int .i64 x.wa, .int .i64 x.de, .int .i64 x.dg, .int .i64 x.ha, .int .i64 x.ag], .agg #[.int .i64 y.fo, .int .i64 y.ic, .int .i64 y.wa, .int .i64 y.de, .int .i64 y.dg, .int .i64 y.ha, .int .i64 y.ag]] w fun e w' => e = .returned (.int .i64 (La.grd x y)) ∧ Below w.heap.size w w' := by
  have g1 := hx.g1; have g2 := hx.g2; have k1 := hy.g1; have k2 := hy.g2
  obtain ⟨t1, t2⟩ := La.thick_bd hx
  obtain ⟨s1, s2⟩ := La.thick_bd hy
  have hg := Lib.hid (grd_impl hx hy)
  have hw : La.way x y = max 1 ((La.thick x + La.thick y) / 2) := rfl
  have CX := fun W => Lib.hid (thickness_ex x W hx)
  have CY := fun W => Lib.hid (thickness_ex y W hy)
  have CD := fun W => Lib.hid (implDivRound_any (1000 * (y.dg - x.dg)) (La.way x y) W)
  clear hx hy
  unfold bxo at CX CY
  generalize La.thick x = tx at *
  generalize La.thick y = ty at *
  generalize La.way x y = v at *
  generalize La.grd x y = z at *
  have nw : IntKind.i64.wrap (tx + ty) = tx + ty := IntWalk.i64_in _ (by omega)
  by_cases hv : 1 < (tx + ty) / 2
  · have hv2 : Hid ((tx + ty) / 2 = v) := Lib.hid (by omega)
    have hv3 : 1 < v := by omega
    have n2 : (tx + ty).tdiv 2 = v := by rw [Int.tdiv_eq_ediv_of_nonneg (by omega)]; exact hv2.out
    have n3 : IntKind.i64.wrap v = v := IntWalk.i64_in _ (by omega)
    clear hw hv
    have n4 : (tx + ty) / 2 = v := hv2.out
    go_enter Tryd.func65, Tryd.ntmps65
    go_wp2_with fail
    go_region_with (go_at_call 68; first | (refine (CX _).out.mono ?_; rintro e w1 ⟨rfl, rfl⟩) | (refine (CY _).out.mono ?_; rintro e w1 ⟨rfl, rfl⟩))
    all_goals (
      go_wp2_with fail
      refine (CD _).out.mono ?_
      rintro e w1 ⟨rfl, rfl⟩
      go_wp2_with fail
      go_ret
      exact ⟨ret_int hg.out, by repeat (first | exact Below.refl _ _ | refine bAl ?_ _ | refine bDr ?_)⟩)
  · have hv1 : v = 1 := by omega
    subst hv1
    obtain ⟨q, hq⟩ : ∃ q, q = (tx + ty) / 2 := ⟨_, rfl⟩
    rw [← hq] at hv
    have HQ := Lib.hid hq
    have hv3 : q ≤ 1 := by omega
    have hv4 : 0 ≤ q := by omega
    have n2 : (tx + ty).tdiv 2 = q := by rw [Int.tdiv_eq_ediv_of_nonneg (by omega)]; exact HQ.out.symm
    have n3 : IntKind.i64.wrap q = q := IntWalk.i64_in _ (by omega)
    clear hw hv hq
    have n4 : (tx + ty) / 2 = q := HQ.out.symm
    go_enter Tryd.func65, Tryd.ntmps65
    go_wp2_with fail
    go_region_with (go_at_call 68; first | (refine (CX _).out.mono ?_; rintro e w1 ⟨rfl, rfl⟩) | (refine (CY _).out.mono ?_; rintro e w1 ⟨rfl, rfl⟩))
    all_goals (
      go_wp2_with fail
      refine (CD _).out.mono ?_
      rintro e w1 ⟨rfl, rfl⟩
      go_wp2_with fail
      go_ret
      exact ⟨ret_int hg.out, by repeat (first | exact Below.refl _ _ | refine bAl ?_ _ | refine bDr ?_)⟩)
end Go.Proofs.YtbdhdlgenfpjgaaDoor
