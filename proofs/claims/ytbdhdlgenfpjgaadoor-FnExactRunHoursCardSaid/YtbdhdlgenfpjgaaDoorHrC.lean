/-
  A layer that loses heat: the program's method. No condition of its own.
-/
import Derived.Test.YtbdhdlgenfpjgaaDoorHrB
namespace Go.Proofs.YtbdhdlgenfpjgaaDoor
open Go.RowKit Go.Shelf
set_option linter.unusedVariables false
set_option maxRecDepth 100000

theorem melted_to (x : Lay) (n i a : Int) (w : World) (hi : x.ic - n = i) (ha : x.wa + n = a) (i1 : 0 ≤ x.ic) (i2 : x.ic ≤ 1000000) (a1 : 0 ≤ x.wa) (a2 : x.wa ≤ 1000000) (h0 : -1000000 ≤ n) (h1 : n ≤ 1000000) :
    Calls Tryd.prog 58 #[.agg #[.int .i64 x.fo, .int .i64 x.ic, .int .i64 x.wa, .int .i64 x.de, .int .i64 x.dg, .int .i64 x.ha, .int .i64 x.ag], .int .i64 n] w fun e w' => e = .returned (.agg #[.int .i64 (⟨x.fo, i, a, x.de, x.dg, x.ha, x.ag⟩ : Lay).fo, .int .i64 (⟨x.fo, i, a, x.de, x.dg, x.ha, x.ag⟩ : Lay).ic, .int .i64 (⟨x.fo, i, a, x.de, x.dg, x.ha, x.ag⟩ : Lay).wa, .int .i64 (⟨x.fo, i, a, x.de, x.dg, x.ha, x.ag⟩ : Lay).de, .int .i64 (⟨x.fo, i, a, x.de, x.dg, x.ha, x.ag⟩ : Lay).dg, .int .i64 (⟨x.fo, i, a, x.de, x.dg, x.ha, x.ag⟩ : Lay).ha, .int .i64 (⟨x.fo, i, a, x.de, x.dg, x.ha, x.ag⟩ : Lay).ag]) ∧ w' = (w.alloc (bxo ⟨x.fo, i, a, x.de, x.dg, x.ha, x.ag⟩)).alloc (bxo ⟨x.fo, i, a, x.de, x.dg, x.ha, x.ag⟩) := by
  subst hi ha
  exact melted_ex x n w i1 i2 a1 a2 h0 h1
set_option maxHeartbeats 1600000 in
theorem cooled_a (x : Lay) (h n i a l : Int) (w : World) (hf : La.Fits x) (h0 : 0 ≤ h) (h1 : h ≤ 100000000) (hn : n = h / 334) (c1 : n ≤ x.wa) (c2 : n ≤ 1000000 - x.ic) (hi : i = x.ic + n) (ha : a = x.wa - n) (hl : l = h - n * 334) (n0 : 0 ≤ n) (n1 : n ≤ 1000000) (l0 : 0 ≤ l) (l1 : l ≤ 100000000)
    (hF : La.Fits ⟨x.fo, i, a, x.de, x.dg, x.ha, x.ag⟩) (r : Lay × Int × Bool)
    (hr : r = if 0 < a then (⟨x.fo, i, a, x.de, x.dg, x.ha, x.ag⟩, l, false) else (⟨x.fo, i, a, x.de, x.dg - La.fal ⟨x.fo, i, a, x.de, x.dg, x.ha, x.ag⟩ l, x.ha, x.ag⟩, l - La.cost ⟨x.fo, i, a, x.de, x.dg, x.ha, x.ag⟩ (La.fal ⟨x.fo, i, a, x.de, x.dg, x.ha, x.ag⟩ l), decide (x.dg - La.fal ⟨x.fo, i, a, x.de, x.dg, x.ha, x.ag⟩ l = -4000))) :
    Calls Tryd.prog 43 #[.agg #[.int .i64 x.fo, .int .i64 x.ic, .int .i64 x.wa, .int .i64 x.de, .int .i64 x.dg, .int .i64 x.ha, .int .i64 x.ag], .int .i64 h] w fun e w' => e = .returned (.tuple #[.agg #[.int .i64 r.1.fo, .int .i64 r.1.ic, .int .i64 r.1.wa, .int .i64 r.1.de, .int .i64 r.1.dg, .int .i64 r.1.ha, .int .i64 r.1.ag], .int .i64 r.2.1, .bool r.2.2]) ∧ Below w.heap.size w w' := by
  have i1 := hf.i1; have i2 := hf.i2; have a1 := hf.w1; have a2 := hf.w2; have g1 := hf.g1; have g2 := hf.g2
  have j1 : 1 ≤ i := hF.i1
  have j2 : i ≤ 1000000 := hF.i2
  have CM : ∀ W, Hid (Calls Tryd.prog 58 #[.agg #[.int .i64 x.fo, .int .i64 x.ic, .int .i64 x.wa, .int .i64 x.de, .int .i64 x.dg, .int .i64 x.ha, .int .i64 x.ag], .int .i64 (-n)] W fun e w' => e = .returned (.agg #[.int .i64 (⟨x.fo, i, a, x.de, x.dg, x.ha, x.ag⟩ : Lay).fo, .int .i64 (⟨x.fo, i, a, x.de, x.dg, x.ha, x.ag⟩ : Lay).ic, .int .i64 (⟨x.fo, i, a, x.de, x.dg, x.ha, x.ag⟩ : Lay).wa, .int .i64 (⟨x.fo, i, a, x.de, x.dg, x.ha, x.ag⟩ : Lay).de, .int .i64 (⟨x.fo, i, a, x.de, x.dg, x.ha, x.ag⟩ : Lay).dg, .int .i64 (⟨x.fo, i, a, x.de, x.dg, x.ha, x.ag⟩ : Lay).ha, .int .i64 (⟨x.fo, i, a, x.de, x.dg, x.ha, x.ag⟩ : Lay).ag]) ∧ w' = (W.alloc (bxo ⟨x.fo, i, a, x.de, x.dg, x.ha, x.ag⟩)).alloc (bxo ⟨x.fo, i, a, x.de, x.dg, x.ha, x.ag⟩)) :=
    fun W => Lib.hid (melted_to x (-n) i a W (by omega) (by omega) (by omega) i2 a1 a2 (by omega) (by omega))
  by_cases hp : 0 < a
  · rw [if_pos hp] at hr
    subst hr
    clear hF
    unfold bxo at CM
    have el : h - n * 334 = l := hl.symm
    have eq0 : h / 334 = n := hn.symm
    clear hn
    clear hi ha hl hf
    go_enter Tryd.func43, Tryd.ntmps43
    go_wp2_with fail
    all_goals (
      refine (CM _).out.mono ?_
      rintro e w1 ⟨rfl, rfl⟩
      go_wp2_with fail
      exact bodyPost_ret (v := .tuple #[.agg #[.int .i64 (⟨x.fo, i, a, x.de, x.dg, x.ha, x.ag⟩ : Lay).fo, .int .i64 (⟨x.fo, i, a, x.de, x.dg, x.ha, x.ag⟩ : Lay).ic, .int .i64 (⟨x.fo, i, a, x.de, x.dg, x.ha, x.ag⟩ : Lay).wa, .int .i64 (⟨x.fo, i, a, x.de, x.dg, x.ha, x.ag⟩ : Lay).de, .int .i64 (⟨x.fo, i, a, x.de, x.dg, x.ha, x.ag⟩ : Lay).dg, .int .i64 (⟨x.fo, i, a, x.de, x.dg, x.ha, x.ag⟩ : Lay).ha, .int .i64 (⟨x.fo, i, a, x.de, x.dg, x.ha, x.ag⟩ : Lay).ag], .int .i64 l, .bool false]) (by simp [results, Tryd.results43, go_sem]) rfl ⟨rfl, by repeat (first | exact Below.refl _ _ | refine bAl ?_ _ | refine bDr ?_)⟩)
  · rw [if_neg hp] at hr
    obtain ⟨t1, t2, t3, t4, t5, t6, t7⟩ := La.fal_bd hF l0
    obtain ⟨u1, u2⟩ := La.deg_bd hF l0
    have CD : ∀ W, Hid (Calls Tryd.prog 57 #[.agg #[.int .i64 (⟨x.fo, i, a, x.de, x.dg, x.ha, x.ag⟩ : Lay).fo, .int .i64 (⟨x.fo, i, a, x.de, x.dg, x.ha, x.ag⟩ : Lay).ic, .int .i64 (⟨x.fo, i, a, x.de, x.dg, x.ha, x.ag⟩ : Lay).wa, .int .i64 (⟨x.fo, i, a, x.de, x.dg, x.ha, x.ag⟩ : Lay).de, .int .i64 (⟨x.fo, i, a, x.de, x.dg, x.ha, x.ag⟩ : Lay).dg, .int .i64 (⟨x.fo, i, a, x.de, x.dg, x.ha, x.ag⟩ : Lay).ha, .int .i64 (⟨x.fo, i, a, x.de, x.dg, x.ha, x.ag⟩ : Lay).ag], .int .i64 l] W fun e w' => e = .returned (.int .i64 (La.deg ⟨x.fo, i, a, x.de, x.dg, x.ha, x.ag⟩ l)) ∧ w' = W.alloc (bxo ⟨x.fo, i, a, x.de, x.dg, x.ha, x.ag⟩)) :=
      fun W => Lib.hid (degreesOf_ex ⟨x.fo, i, a, x.de, x.dg, x.ha, x.ag⟩ l W j1 j2 l0 l1)
    have hfd : La.fal ⟨x.fo, i, a, x.de, x.dg, x.ha, x.ag⟩ l = min (La.deg ⟨x.fo, i, a, x.de, x.dg, x.ha, x.ag⟩ l) (x.dg + 4000) := rfl
    have hct : La.cost ⟨x.fo, i, a, x.de, x.dg, x.ha, x.ag⟩ (La.fal ⟨x.fo, i, a, x.de, x.dg, x.ha, x.ag⟩ l) = (i * 21 * La.fal ⟨x.fo, i, a, x.de, x.dg, x.ha, x.ag⟩ l + 1000 - 1) / 1000 := by
      unfold La.cost
      have : La.fal ⟨x.fo, i, a, x.de, x.dg, x.ha, x.ag⟩ l * 21 * i = i * 21 * La.fal ⟨x.fo, i, a, x.de, x.dg, x.ha, x.ag⟩ l := by rw [Int.mul_assoc, Int.mul_comm, Int.mul_comm 21 i]
      simp only [this]
      congr 1
      omega
    have t45 : 0 ≤ i * 21 * La.fal ⟨x.fo, i, a, x.de, x.dg, x.ha, x.ag⟩ l ∧ i * 21 * La.fal ⟨x.fo, i, a, x.de, x.dg, x.ha, x.ag⟩ l ≤ 84000000000 := by
      have : La.fal ⟨x.fo, i, a, x.de, x.dg, x.ha, x.ag⟩ l * 21 * i = i * 21 * La.fal ⟨x.fo, i, a, x.de, x.dg, x.ha, x.ag⟩ l := by rw [Int.mul_assoc, Int.mul_comm, Int.mul_comm 21 i]
      exact ⟨by rw [← this]; exact t4, by rw [← this]; exact t5⟩
    rw [hct] at hr t6 t7
    have t3' : La.fal ⟨x.fo, i, a, x.de, x.dg, x.ha, x.ag⟩ l ≤ x.dg + 4000 := t3
    clear hct t3 t4 t5
    generalize La.fal ⟨x.fo, i, a, x.de, x.dg, x.ha, x.ag⟩ l = f at *
    generalize La.deg ⟨x.fo, i, a, x.de, x.dg, x.ha, x.ag⟩ l = d at *
    obtain ⟨t4, t5⟩ := t45
    have CH : ∀ W, Hid (Calls Tryd.prog 59 #[.agg #[.int .i64 (⟨x.fo, i, a, x.de, x.dg - f, x.ha, x.ag⟩ : Lay).fo, .int .i64 (⟨x.fo, i, a, x.de, x.dg - f, x.ha, x.ag⟩ : Lay).ic, .int .i64 (⟨x.fo, i, a, x.de, x.dg - f, x.ha, x.ag⟩ : Lay).wa, .int .i64 (⟨x.fo, i, a, x.de, x.dg - f, x.ha, x.ag⟩ : Lay).de, .int .i64 (⟨x.fo, i, a, x.de, x.dg - f, x.ha, x.ag⟩ : Lay).dg, .int .i64 (⟨x.fo, i, a, x.de, x.dg - f, x.ha, x.ag⟩ : Lay).ha, .int .i64 (⟨x.fo, i, a, x.de, x.dg - f, x.ha, x.ag⟩ : Lay).ag], .int .i64 f] W fun e w' => e = .returned (.int .i64 ((i * 21 * f + 1000 - 1) / 1000)) ∧ w' = W.alloc (bxo ⟨x.fo, i, a, x.de, x.dg - f, x.ha, x.ag⟩)) :=
      fun W => Lib.hid (heatOf_ex ⟨x.fo, i, a, x.de, x.dg - f, x.ha, x.ag⟩ f W t4 (by have : i * 21 * f ≤ 84000000000 := t5; show i * 21 * f ≤ _; omega) j1 j2)
    generalize hcc : (i * 21 * f + 1000 - 1) / 1000 = ct at *
    subst hr
    clear hF hcc t4 t5
    unfold bxo at CM CD CH
    have el : h - n * 334 = l := hl.symm
    have eq0 : h / 334 = n := hn.symm
    clear hn
    have nw : IntKind.i64.wrap (x.dg - -4000) = x.dg + 4000 := by rw [IntWalk.i64_in _ (by omega)]; omega
    have nw2 : IntKind.i64.wrap (x.dg + 4000) = x.dg + 4000 := IntWalk.i64_in _ (by omega)
    by_cases hd : x.dg + 4000 < d
    · have hfx : f = x.dg + 4000 := by omega
      clear hi ha hl hf hfd
      have HFX := Lib.hid hfx
      clear hfx
      have e4 : x.dg + 4000 = f := HFX.out.symm
      have nw3 : IntKind.i64.wrap (x.dg - -4000) = f := nw.trans e4
      have nw4 : IntKind.i64.wrap (x.dg + 4000) = f := nw2.trans e4
      rw [e4] at hd t3'
      clear nw nw2 e4
      go_enter Tryd.func43, Tryd.ntmps43
      go_wp2_with fail
      all_goals (
        refine (CM _).out.mono ?_
        rintro e w1 ⟨rfl, rfl⟩
        go_wp2_with fail
        go_region_with (go_at_call 57; refine (CD _).out.mono ?_; rintro e w1 ⟨rfl, rfl⟩)
        all_goals (
          go_wp2_with fail
          refine (CH _).out.mono ?_
          rintro e w1 ⟨rfl, rfl⟩
          go_wp2_with fail
          go_region
          all_goals (
            go_wp2_with fail
            exact bodyPost_ret (v := .tuple #[.agg #[.int .i64 (⟨x.fo, i, a, x.de, x.dg - f, x.ha, x.ag⟩ : Lay).fo, .int .i64 (⟨x.fo, i, a, x.de, x.dg - f, x.ha, x.ag⟩ : Lay).ic, .int .i64 (⟨x.fo, i, a, x.de, x.dg - f, x.ha, x.ag⟩ : Lay).wa, .int .i64 (⟨x.fo, i, a, x.de, x.dg - f, x.ha, x.ag⟩ : Lay).de, .int .i64 (⟨x.fo, i, a, x.de, x.dg - f, x.ha, x.ag⟩ : Lay).dg, .int .i64 (⟨x.fo, i, a, x.de, x.dg - f, x.ha, x.ag⟩ : Lay).ha, .int .i64 (⟨x.fo, i, a, x.de, x.dg - f, x.ha, x.ag⟩ : Lay).ag], .int .i64 (l - ct), .bool (decide (x.dg - f = -4000))]) (by simp [results, Tryd.results43, go_sem] <;> rfl) rfl ⟨rfl, by repeat (first | exact Below.refl _ _ | refine bAl ?_ _ | refine bDr ?_)⟩)))
    · have hfx : f = d := by omega
      clear hi ha hl hf hfd
      subst hfx
      go_enter Tryd.func43, Tryd.ntmps43
      go_wp2_with fail
      all_goals (
        refine (CM _).out.mono ?_
        rintro e w1 ⟨rfl, rfl⟩
        go_wp2_with fail
        go_region_with (go_at_call 57; refine (CD _).out.mono ?_; rintro e w1 ⟨rfl, rfl⟩)
        all_goals (
          go_wp2_with fail
          refine (CH _).out.mono ?_
          rintro e w1 ⟨rfl, rfl⟩
          go_wp2_with fail
          go_region
          all_goals (
            go_wp2_with fail
            exact bodyPost_ret (v := .tuple #[.agg #[.int .i64 (⟨x.fo, i, a, x.de, x.dg - f, x.ha, x.ag⟩ : Lay).fo, .int .i64 (⟨x.fo, i, a, x.de, x.dg - f, x.ha, x.ag⟩ : Lay).ic, .int .i64 (⟨x.fo, i, a, x.de, x.dg - f, x.ha, x.ag⟩ : Lay).wa, .int .i64 (⟨x.fo, i, a, x.de, x.dg - f, x.ha, x.ag⟩ : Lay).de, .int .i64 (⟨x.fo, i, a, x.de, x.dg - f, x.ha, x.ag⟩ : Lay).dg, .int .i64 (⟨x.fo, i, a, x.de, x.dg - f, x.ha, x.ag⟩ : Lay).ha, .int .i64 (⟨x.fo, i, a, x.de, x.dg - f, x.ha, x.ag⟩ : Lay).ag], .int .i64 (l - ct), .bool (decide (x.dg - f = -4000))]) (by simp [results, Tryd.results43, go_sem] <;> rfl) rfl ⟨rfl, by repeat (first | exact Below.refl _ _ | refine bAl ?_ _ | refine bDr ?_)⟩)))
set_option maxHeartbeats 1600000 in
theorem cooled_b (x : Lay) (h n i a l : Int) (w : World) (hf : La.Fits x) (h0 : 0 ≤ h) (h1 : h ≤ 100000000) (hn : n = x.wa) (c1 : n < h / 334) (c2 : n ≤ 1000000 - x.ic) (hi : i = x.ic + n) (ha : a = x.wa - n) (hl : l = h - n * 334) (n0 : 0 ≤ n) (n1 : n ≤ 1000000) (l0 : 0 ≤ l) (l1 : l ≤ 100000000)
    (hF : La.Fits ⟨x.fo, i, a, x.de, x.dg, x.ha, x.ag⟩) (r : Lay × Int × Bool)
    (hr : r = if 0 < a then (⟨x.fo, i, a, x.de, x.dg, x.ha, x.ag⟩, l, false) else (⟨x.fo, i, a, x.de, x.dg - La.fal ⟨x.fo, i, a, x.de, x.dg, x.ha, x.ag⟩ l, x.ha, x.ag⟩, l - La.cost ⟨x.fo, i, a, x.de, x.dg, x.ha, x.ag⟩ (La.fal ⟨x.fo, i, a, x.de, x.dg, x.ha, x.ag⟩ l), decide (x.dg - La.fal ⟨x.fo, i, a, x.de, x.dg, x.ha, x.ag⟩ l = -4000))) :
    Calls Tryd.prog 43 #[.agg #[.int .i64 x.fo, .int .i64 x.ic, .int .i64 x.wa, .int .i64 x.de, .int .i64 x.dg, .int .i64 x.ha, .int .i64 x.ag], .int .i64 h] w fun e w' => e = .returned (.tuple #[.agg #[.int .i64 r.1.fo, .int .i64 r.1.ic, .int .i64 r.1.wa, .int .i64 r.1.de, .int .i64 r.1.dg, .int .i64 r.1.ha, .int .i64 r.1.ag], .int .i64 r.2.1, .bool r.2.2]) ∧ Below w.heap.size w w' := by
  have i1 := hf.i1; have i2 := hf.i2; have a1 := hf.w1; have a2 := hf.w2; have g1 := hf.g1; have g2 := hf.g2
  have j1 : 1 ≤ i := hF.i1
  have j2 : i ≤ 1000000 := hF.i2
  have CM : ∀ W, Hid (Calls Tryd.prog 58 #[.agg #[.int .i64 x.fo, .int .i64 x.ic, .int .i64 x.wa, .int .i64 x.de, .int .i64 x.dg, .int .i64 x.ha, .int .i64 x.ag], .int .i64 (-n)] W fun e w' => e = .returned (.agg #[.int .i64 (⟨x.fo, i, a, x.de, x.dg, x.ha, x.ag⟩ : Lay).fo, .int .i64 (⟨x.fo, i, a, x.de, x.dg, x.ha, x.ag⟩ : Lay).ic, .int .i64 (⟨x.fo, i, a, x.de, x.dg, x.ha, x.ag⟩ : Lay).wa, .int .i64 (⟨x.fo, i, a, x.de, x.dg, x.ha, x.ag⟩ : Lay).de, .int .i64 (⟨x.fo, i, a, x.de, x.dg, x.ha, x.ag⟩ : Lay).dg, .int .i64 (⟨x.fo, i, a, x.de, x.dg, x.ha, x.ag⟩ : Lay).ha, .int .i64 (⟨x.fo, i, a, x.de, x.dg, x.ha, x.ag⟩ : Lay).ag]) ∧ w' = (W.alloc (bxo ⟨x.fo, i, a, x.de, x.dg, x.ha, x.ag⟩)).alloc (bxo ⟨x.fo, i, a, x.de, x.dg, x.ha, x.ag⟩)) :=
    fun W => Lib.hid (melted_to x (-n) i a W (by omega) (by omega) (by omega) i2 a1 a2 (by omega) (by omega))
  by_cases hp : 0 < a
  · rw [if_pos hp] at hr
    subst hr
    clear hF
    unfold bxo at CM
    have el : h - n * 334 = l := hl.symm
    subst hn
    clear hi ha hl hf
    go_enter Tryd.func43, Tryd.ntmps43
    go_wp2_with fail
    all_goals (
      refine (CM _).out.mono ?_
      rintro e w1 ⟨rfl, rfl⟩
      go_wp2_with fail
      exact bodyPost_ret (v := .tuple #[.agg #[.int .i64 (⟨x.fo, i, a, x.de, x.dg, x.ha, x.ag⟩ : Lay).fo, .int .i64 (⟨x.fo, i, a, x.de, x.dg, x.ha, x.ag⟩ : Lay).ic, .int .i64 (⟨x.fo, i, a, x.de, x.dg, x.ha, x.ag⟩ : Lay).wa, .int .i64 (⟨x.fo, i, a, x.de, x.dg, x.ha, x.ag⟩ : Lay).de, .int .i64 (⟨x.fo, i, a, x.de, x.dg, x.ha, x.ag⟩ : Lay).dg, .int .i64 (⟨x.fo, i, a, x.de, x.dg, x.ha, x.ag⟩ : Lay).ha, .int .i64 (⟨x.fo, i, a, x.de, x.dg, x.ha, x.ag⟩ : Lay).ag], .int .i64 l, .bool false]) (by simp [results, Tryd.results43, go_sem]) rfl ⟨rfl, by repeat (first | exact Below.refl _ _ | refine bAl ?_ _ | refine bDr ?_)⟩)
  · rw [if_neg hp] at hr
    obtain ⟨t1, t2, t3, t4, t5, t6, t7⟩ := La.fal_bd hF l0
    obtain ⟨u1, u2⟩ := La.deg_bd hF l0
    have CD : ∀ W, Hid (Calls Tryd.prog 57 #[.agg #[.int .i64 (⟨x.fo, i, a, x.de, x.dg, x.ha, x.ag⟩ : Lay).fo, .int .i64 (⟨x.fo, i, a, x.de, x.dg, x.ha, x.ag⟩ : Lay).ic, .int .i64 (⟨x.fo, i, a, x.de, x.dg, x.ha, x.ag⟩ : Lay).wa, .int .i64 (⟨x.fo, i, a, x.de, x.dg, x.ha, x.ag⟩ : Lay).de, .int .i64 (⟨x.fo, i, a, x.de, x.dg, x.ha, x.ag⟩ : Lay).dg, .int .i64 (⟨x.fo, i, a, x.de, x.dg, x.ha, x.ag⟩ : Lay).ha, .int .i64 (⟨x.fo, i, a, x.de, x.dg, x.ha, x.ag⟩ : Lay).ag], .int .i64 l] W fun e w' => e = .returned (.int .i64 (La.deg ⟨x.fo, i, a, x.de, x.dg, x.ha, x.ag⟩ l)) ∧ w' = W.alloc (bxo ⟨x.fo, i, a, x.de, x.dg, x.ha, x.ag⟩)) :=
      fun W => Lib.hid (degreesOf_ex ⟨x.fo, i, a, x.de, x.dg, x.ha, x.ag⟩ l W j1 j2 l0 l1)
    have hfd : La.fal ⟨x.fo, i, a, x.de, x.dg, x.ha, x.ag⟩ l = min (La.deg ⟨x.fo, i, a, x.de, x.dg, x.ha, x.ag⟩ l) (x.dg + 4000) := rfl
    have hct : La.cost ⟨x.fo, i, a, x.de, x.dg, x.ha, x.ag⟩ (La.fal ⟨x.fo, i, a, x.de, x.dg, x.ha, x.ag⟩ l) = (i * 21 * La.fal ⟨x.fo, i, a, x.de, x.dg, x.ha, x.ag⟩ l + 1000 - 1) / 1000 := by
      unfold La.cost
      have : La.fal ⟨x.fo, i, a, x.de, x.dg, x.ha, x.ag⟩ l * 21 * i = i * 21 * La.fal ⟨x.fo, i, a, x.de, x.dg, x.ha, x.ag⟩ l := by rw [Int.mul_assoc, Int.mul_comm, Int.mul_comm 21 i]
      simp only [this]
      congr 1
      omega
    have t45 : 0 ≤ i * 21 * La.fal ⟨x.fo, i, a, x.de, x.dg, x.ha, x.ag⟩ l ∧ i * 21 * La.fal ⟨x.fo, i, a, x.de, x.dg, x.ha, x.ag⟩ l ≤ 84000000000 := by
      have : La.fal ⟨x.fo, i, a, x.de, x.dg, x.ha, x.ag⟩ l * 21 * i = i * 21 * La.fal ⟨x.fo, i, a, x.de, x.dg, x.ha, x.ag⟩ l := by rw [Int.mul_assoc, Int.mul_comm, Int.mul_comm 21 i]
      exact ⟨by rw [← this]; exact t4, by rw [← this]; exact t5⟩
    rw [hct] at hr t6 t7
    have t3' : La.fal ⟨x.fo, i, a, x.de, x.dg, x.ha, x.ag⟩ l ≤ x.dg + 4000 := t3
    clear hct t3 t4 t5
    generalize La.fal ⟨x.fo, i, a, x.de, x.dg, x.ha, x.ag⟩ l = f at *
    generalize La.deg ⟨x.fo, i, a, x.de, x.dg, x.ha, x.ag⟩ l = d at *
    obtain ⟨t4, t5⟩ := t45
    have CH : ∀ W, Hid (Calls Tryd.prog 59 #[.agg #[.int .i64 (⟨x.fo, i, a, x.de, x.dg - f, x.ha, x.ag⟩ : Lay).fo, .int .i64 (⟨x.fo, i, a, x.de, x.dg - f, x.ha, x.ag⟩ : Lay).ic, .int .i64 (⟨x.fo, i, a, x.de, x.dg - f, x.ha, x.ag⟩ : Lay).wa, .int .i64 (⟨x.fo, i, a, x.de, x.dg - f, x.ha, x.ag⟩ : Lay).de, .int .i64 (⟨x.fo, i, a, x.de, x.dg - f, x.ha, x.ag⟩ : Lay).dg, .int .i64 (⟨x.fo, i, a, x.de, x.dg - f, x.ha, x.ag⟩ : Lay).ha, .int .i64 (⟨x.fo, i, a, x.de, x.dg - f, x.ha, x.ag⟩ : Lay).ag], .int .i64 f] W fun e w' => e = .returned (.int .i64 ((i * 21 * f + 1000 - 1) / 1000)) ∧ w' = W.alloc (bxo ⟨x.fo, i, a, x.de, x.dg - f, x.ha, x.ag⟩)) :=
      fun W => Lib.hid (heatOf_ex ⟨x.fo, i, a, x.de, x.dg - f, x.ha, x.ag⟩ f W t4 (by have : i * 21 * f ≤ 84000000000 := t5; show i * 21 * f ≤ _; omega) j1 j2)
    generalize hcc : (i * 21 * f + 1000 - 1) / 1000 = ct at *
    subst hr
    clear hF hcc t4 t5
    unfold bxo at CM CD CH
    have el : h - n * 334 = l := hl.symm
    subst hn
    have nw : IntKind.i64.wrap (x.dg - -4000) = x.dg + 4000 := by rw [IntWalk.i64_in _ (by omega)]; omega
    have nw2 : IntKind.i64.wrap (x.dg + 4000) = x.dg + 4000 := IntWalk.i64_in _ (by omega)
    by_cases hd : x.dg + 4000 < d
    · have hfx : f = x.dg + 4000 := by omega
      clear hi ha hl hf hfd
      have HFX := Lib.hid hfx
      clear hfx
      have e4 : x.dg + 4000 = f := HFX.out.symm
      have nw3 : IntKind.i64.wrap (x.dg - -4000) = f := nw.trans e4
      have nw4 : IntKind.i64.wrap (x.dg + 4000) = f := nw2.trans e4
      rw [e4] at hd t3'
      clear nw nw2 e4
      go_enter Tryd.func43, Tryd.ntmps43
      go_wp2_with fail
      all_goals (
        refine (CM _).out.mono ?_
        rintro e w1 ⟨rfl, rfl⟩
        go_wp2_with fail
        go_region_with (go_at_call 57; refine (CD _).out.mono ?_; rintro e w1 ⟨rfl, rfl⟩)
        all_goals (
          go_wp2_with fail
          refine (CH _).out.mono ?_
          rintro e w1 ⟨rfl, rfl⟩
          go_wp2_with fail
          go_region
          all_goals (
            go_wp2_with fail
            exact bodyPost_ret (v := .tuple #[.agg #[.int .i64 (⟨x.fo, i, a, x.de, x.dg - f, x.ha, x.ag⟩ : Lay).fo, .int .i64 (⟨x.fo, i, a, x.de, x.dg - f, x.ha, x.ag⟩ : Lay).ic, .int .i64 (⟨x.fo, i, a, x.de, x.dg - f, x.ha, x.ag⟩ : Lay).wa, .int .i64 (⟨x.fo, i, a, x.de, x.dg - f, x.ha, x.ag⟩ : Lay).de, .int .i64 (⟨x.fo, i, a, x.de, x.dg - f, x.ha, x.ag⟩ : Lay).dg, .int .i64 (⟨x.fo, i, a, x.de, x.dg - f, x.ha, x.ag⟩ : Lay).ha, .int .i64 (⟨x.fo, i, a, x.de, x.dg - f, x.ha, x.ag⟩ : Lay).ag], .int .i64 (l - ct), .bool (decide (x.dg - f = -4000))]) (by simp [results, Tryd.results43, go_sem] <;> rfl) rfl ⟨rfl, by repeat (first | exact Below.refl _ _ | refine bAl ?_ _ | refine bDr ?_)⟩)))
    · have hfx : f = d := by omega
      clear hi ha hl hf hfd
      subst hfx
      go_enter Tryd.func43, Tryd.ntmps43
      go_wp2_with fail
      all_goals (
        refine (CM _).out.mono ?_
        rintro e w1 ⟨rfl, rfl⟩
        go_wp2_with fail
        go_region_with (go_at_call 57; refine (CD _).out.mono ?_; rintro e w1 ⟨rfl, rfl⟩)
        all_goals (
          go_wp2_with fail
          refine (CH _).out.mono ?_
          rintro e w1 ⟨rfl, rfl⟩
          go_wp2_with fail
          go_region
          all_goals (
            go_wp2_with fail
            exact bodyPost_ret (v := .tuple #[.agg #[.int .i64 (⟨x.fo, i, a, x.de, x.dg - f, x.ha, x.ag⟩ : Lay).fo, .int .i64 (⟨x.fo, i, a, x.de, x.dg - f, x.ha, x.ag⟩ : Lay).ic, .int .i64 (⟨x.fo, i, a, x.de, x.dg - f, x.ha, x.ag⟩ : Lay).wa, .int .i64 (⟨x.fo, i, a, x.de, x.dg - f, x.ha, x.ag⟩ : Lay).de, .int .i64 (⟨x.fo, i, a, x.de, x.dg - f, x.ha, x.ag⟩ : Lay).dg, .int .i64 (⟨x.fo, i, a, x.de, x.dg - f, x.ha, x.ag⟩ : Lay).ha, .int .i64 (⟨x.fo, i, a, x.de, x.dg - f, x.ha, x.ag⟩ : Lay).ag], .int .i64 (l - ct), .bool (decide (x.dg - f = -4000))]) (by simp [results, Tryd.results43, go_sem] <;> rfl) rfl ⟨rfl, by repeat (first | exact Below.refl _ _ | refine bAl ?_ _ | refine bDr ?_)⟩)))
set_option maxHeartbeats 1600000 in
theorem cooled_c (x : Lay) (h n i a l : Int) (w : World) (hf : La.Fits x) (h0 : 0 ≤ h) (h1 : h ≤ 100000000) (hn : n = 1000000 - x.ic) (c1 : n < h / 334) (c2 : n < x.wa) (hi : i = x.ic + n) (ha : a = x.wa - n) (hl : l = h - n * 334) (n0 : 0 ≤ n) (n1 : n ≤ 1000000) (l0 : 0 ≤ l) (l1 : l ≤ 100000000)
    (hF : La.Fits ⟨x.fo, i, a, x.de, x.dg, x.ha, x.ag⟩) (r : Lay × Int × Bool)
    (hr : r = if 0 < a then (⟨x.fo, i, a, x.de, x.dg, x.ha, x.ag⟩, l, false) else (⟨x.fo, i, a, x.de, x.dg - La.fal ⟨x.fo, i, a, x.de, x.dg, x.ha, x.ag⟩ l, x.ha, x.ag⟩, l - La.cost ⟨x.fo, i, a, x.de, x.dg, x.ha, x.ag⟩ (La.fal ⟨x.fo, i, a, x.de, x.dg, x.ha, x.ag⟩ l), decide (x.dg - La.fal ⟨x.fo, i, a, x.de, x.dg, x.ha, x.ag⟩ l = -4000))) :
    Calls Tryd.prog 43 #[.agg #[.int .i64 x.fo, .int .i64 x.ic, .int .i64 x.wa, .int .i64 x.de, .int .i64 x.dg, .int .i64 x.ha, .int .i64 x.ag], .int .i64 h] w fun e w' => e = .returned (.tuple #[.agg #[.int .i64 r.1.fo, .int .i64 r.1.ic, .int .i64 r.1.wa, .int .i64 r.1.de, .int .i64 r.1.dg, .int .i64 r.1.ha, .int .i64 r.1.ag], .int .i64 r.2.1, .bool r.2.2]) ∧ Below w.heap.size w w' := by
  have i1 := hf.i1; have i2 := hf.i2; have a1 := hf.w1; have a2 := hf.w2; have g1 := hf.g1; have g2 := hf.g2
  have j1 : 1 ≤ i := hF.i1
  have j2 : i ≤ 1000000 := hF.i2
  have CM : ∀ W, Hid (Calls Tryd.prog 58 #[.agg #[.int .i64 x.fo, .int .i64 x.ic, .int .i64 x.wa, .int .i64 x.de, .int .i64 x.dg, .int .i64 x.ha, .int .i64 x.ag], .int .i64 (-n)] W fun e w' => e = .returned (.agg #[.int .i64 (⟨x.fo, i, a, x.de, x.dg, x.ha, x.ag⟩ : Lay).fo, .int .i64 (⟨x.fo, i, a, x.de, x.dg, x.ha, x.ag⟩ : Lay).ic, .int .i64 (⟨x.fo, i, a, x.de, x.dg, x.ha, x.ag⟩ : Lay).wa, .int .i64 (⟨x.fo, i, a, x.de, x.dg, x.ha, x.ag⟩ : Lay).de, .int .i64 (⟨x.fo, i, a, x.de, x.dg, x.ha, x.ag⟩ : Lay).dg, .int .i64 (⟨x.fo, i, a, x.de, x.dg, x.ha, x.ag⟩ : Lay).ha, .int .i64 (⟨x.fo, i, a, x.de, x.dg, x.ha, x.ag⟩ : Lay).ag]) ∧ w' = (W.alloc (bxo ⟨x.fo, i, a, x.de, x.dg, x.ha, x.ag⟩)).alloc (bxo ⟨x.fo, i, a, x.de, x.dg, x.ha, x.ag⟩)) :=
    fun W => Lib.hid (melted_to x (-n) i a W (by omega) (by omega) (by omega) i2 a1 a2 (by omega) (by omega))
  by_cases hp : 0 < a
  · rw [if_pos hp] at hr
    subst hr
    clear hF
    unfold bxo at CM
    have el : h - n * 334 = l := hl.symm
    have eq0 : 1000000 - x.ic = n := hn.symm
    clear hn
    clear hi ha hl hf
    go_enter Tryd.func43, Tryd.ntmps43
    go_wp2_with fail
    all_goals (
      refine (CM _).out.mono ?_
      rintro e w1 ⟨rfl, rfl⟩
      go_wp2_with fail
      exact bodyPost_ret (v := .tuple #[.agg #[.int .i64 (⟨x.fo, i, a, x.de, x.dg, x.ha, x.ag⟩ : Lay).fo, .int .i64 (⟨x.fo, i, a, x.de, x.dg, x.ha, x.ag⟩ : Lay).ic, .int .i64 (⟨x.fo, i, a, x.de, x.dg, x.ha, x.ag⟩ : Lay).wa, .int .i64 (⟨x.fo, i, a, x.de, x.dg, x.ha, x.ag⟩ : Lay).de, .int .i64 (⟨x.fo, i, a, x.de, x.dg, x.ha, x.ag⟩ : Lay).dg, .int .i64 (⟨x.fo, i, a, x.de, x.dg, x.ha, x.ag⟩ : Lay).ha, .int .i64 (⟨x.fo, i, a, x.de, x.dg, x.ha, x.ag⟩ : Lay).ag], .int .i64 l, .bool false]) (by simp [results, Tryd.results43, go_sem]) rfl ⟨rfl, by repeat (first | exact Below.refl _ _ | refine bAl ?_ _ | refine bDr ?_)⟩)
  · rw [if_neg hp] at hr
    obtain ⟨t1, t2, t3, t4, t5, t6, t7⟩ := La.fal_bd hF l0
    obtain ⟨u1, u2⟩ := La.deg_bd hF l0
    have CD : ∀ W, Hid (Calls Tryd.prog 57 #[.agg #[.int .i64 (⟨x.fo, i, a, x.de, x.dg, x.ha, x.ag⟩ : Lay).fo, .int .i64 (⟨x.fo, i, a, x.de, x.dg, x.ha, x.ag⟩ : Lay).ic, .int .i64 (⟨x.fo, i, a, x.de, x.dg, x.ha, x.ag⟩ : Lay).wa, .int .i64 (⟨x.fo, i, a, x.de, x.dg, x.ha, x.ag⟩ : Lay).de, .int .i64 (⟨x.fo, i, a, x.de, x.dg, x.ha, x.ag⟩ : Lay).dg, .int .i64 (⟨x.fo, i, a, x.de, x.dg, x.ha, x.ag⟩ : Lay).ha, .int .i64 (⟨x.fo, i, a, x.de, x.dg, x.ha, x.ag⟩ : Lay).ag], .int .i64 l] W fun e w' => e = .returned (.int .i64 (La.deg ⟨x.fo, i, a, x.de, x.dg, x.ha, x.ag⟩ l)) ∧ w' = W.alloc (bxo ⟨x.fo, i, a, x.de, x.dg, x.ha, x.ag⟩)) :=
      fun W => Lib.hid (degreesOf_ex ⟨x.fo, i, a, x.de, x.dg, x.ha, x.ag⟩ l W j1 j2 l0 l1)
    have hfd : La.fal ⟨x.fo, i, a, x.de, x.dg, x.ha, x.ag⟩ l = min (La.deg ⟨x.fo, i, a, x.de, x.dg, x.ha, x.ag⟩ l) (x.dg + 4000) := rfl
    have hct : La.cost ⟨x.fo, i, a, x.de, x.dg, x.ha, x.ag⟩ (La.fal ⟨x.fo, i, a, x.de, x.dg, x.ha, x.ag⟩ l) = (i * 21 * La.fal ⟨x.fo, i, a, x.de, x.dg, x.ha, x.ag⟩ l + 1000 - 1) / 1000 := by
      unfold La.cost
      have : La.fal ⟨x.fo, i, a, x.de, x.dg, x.ha, x.ag⟩ l * 21 * i = i * 21 * La.fal ⟨x.fo, i, a, x.de, x.dg, x.ha, x.ag⟩ l := by rw [Int.mul_assoc, Int.mul_comm, Int.mul_comm 21 i]
      simp only [this]
      congr 1
      omega
    have t45 : 0 ≤ i * 21 * La.fal ⟨x.fo, i, a, x.de, x.dg, x.ha, x.ag⟩ l ∧ i * 21 * La.fal ⟨x.fo, i, a, x.de, x.dg, x.ha, x.ag⟩ l ≤ 84000000000 := by
      have : La.fal ⟨x.fo, i, a, x.de, x.dg, x.ha, x.ag⟩ l * 21 * i = i * 21 * La.fal ⟨x.fo, i, a, x.de, x.dg, x.ha, x.ag⟩ l := by rw [Int.mul_assoc, Int.mul_comm, Int.mul_comm 21 i]
      exact ⟨by rw [← this]; exact t4, by rw [← this]; exact t5⟩
    rw [hct] at hr t6 t7
    have t3' : La.fal ⟨x.fo, i, a, x.de, x.dg, x.ha, x.ag⟩ l ≤ x.dg + 4000 := t3
    clear hct t3 t4 t5
    generalize La.fal ⟨x.fo, i, a, x.de, x.dg, x.ha, x.ag⟩ l = f at *
    generalize La.deg ⟨x.fo, i, a, x.de, x.dg, x.ha, x.ag⟩ l = d at *
    obtain ⟨t4, t5⟩ := t45
    have CH : ∀ W, Hid (Calls Tryd.prog 59 #[.agg #[.int .i64 (⟨x.fo, i, a, x.de, x.dg - f, x.ha, x.ag⟩ : Lay).fo, .int .i64 (⟨x.fo, i, a, x.de, x.dg - f, x.ha, x.ag⟩ : Lay).ic, .int .i64 (⟨x.fo, i, a, x.de, x.dg - f, x.ha, x.ag⟩ : Lay).wa, .int .i64 (⟨x.fo, i, a, x.de, x.dg - f, x.ha, x.ag⟩ : Lay).de, .int .i64 (⟨x.fo, i, a, x.de, x.dg - f, x.ha, x.ag⟩ : Lay).dg, .int .i64 (⟨x.fo, i, a, x.de, x.dg - f, x.ha, x.ag⟩ : Lay).ha, .int .i64 (⟨x.fo, i, a, x.de, x.dg - f, x.ha, x.ag⟩ : Lay).ag], .int .i64 f] W fun e w' => e = .returned (.int .i64 ((i * 21 * f + 1000 - 1) / 1000)) ∧ w' = W.alloc (bxo ⟨x.fo, i, a, x.de, x.dg - f, x.ha, x.ag⟩)) :=
      fun W => Lib.hid (heatOf_ex ⟨x.fo, i, a, x.de, x.dg - f, x.ha, x.ag⟩ f W t4 (by have : i * 21 * f ≤ 84000000000 := t5; show i * 21 * f ≤ _; omega) j1 j2)
    generalize hcc : (i * 21 * f + 1000 - 1) / 1000 = ct at *
    subst hr
    clear hF hcc t4 t5
    unfold bxo at CM CD CH
    have el : h - n * 334 = l := hl.symm
    have eq0 : 1000000 - x.ic = n := hn.symm
    clear hn
    have nw : IntKind.i64.wrap (x.dg - -4000) = x.dg + 4000 := by rw [IntWalk.i64_in _ (by omega)]; omega
    have nw2 : IntKind.i64.wrap (x.dg + 4000) = x.dg + 4000 := IntWalk.i64_in _ (by omega)
    by_cases hd : x.dg + 4000 < d
    · have hfx : f = x.dg + 4000 := by omega
      clear hi ha hl hf hfd
      have HFX := Lib.hid hfx
      clear hfx
      have e4 : x.dg + 4000 = f := HFX.out.symm
      have nw3 : IntKind.i64.wrap (x.dg - -4000) = f := nw.trans e4
      have nw4 : IntKind.i64.wrap (x.dg + 4000) = f := nw2.trans e4
      rw [e4] at hd t3'
      clear nw nw2 e4
      go_enter Tryd.func43, Tryd.ntmps43
      go_wp2_with fail
      all_goals (
        refine (CM _).out.mono ?_
        rintro e w1 ⟨rfl, rfl⟩
        go_wp2_with fail
        go_region_with (go_at_call 57; refine (CD _).out.mono ?_; rintro e w1 ⟨rfl, rfl⟩)
        all_goals (
          go_wp2_with fail
          refine (CH _).out.mono ?_
          rintro e w1 ⟨rfl, rfl⟩
          go_wp2_with fail
          go_region
          all_goals (
            go_wp2_with fail
            exact bodyPost_ret (v := .tuple #[.agg #[.int .i64 (⟨x.fo, i, a, x.de, x.dg - f, x.ha, x.ag⟩ : Lay).fo, .int .i64 (⟨x.fo, i, a, x.de, x.dg - f, x.ha, x.ag⟩ : Lay).ic, .int .i64 (⟨x.fo, i, a, x.de, x.dg - f, x.ha, x.ag⟩ : Lay).wa, .int .i64 (⟨x.fo, i, a, x.de, x.dg - f, x.ha, x.ag⟩ : Lay).de, .int .i64 (⟨x.fo, i, a, x.de, x.dg - f, x.ha, x.ag⟩ : Lay).dg, .int .i64 (⟨x.fo, i, a, x.de, x.dg - f, x.ha, x.ag⟩ : Lay).ha, .int .i64 (⟨x.fo, i, a, x.de, x.dg - f, x.ha, x.ag⟩ : Lay).ag], .int .i64 (l - ct), .bool (decide (x.dg - f = -4000))]) (by simp [results, Tryd.results43, go_sem] <;> rfl) rfl ⟨rfl, by repeat (first | exact Below.refl _ _ | refine bAl ?_ _ | refine bDr ?_)⟩)))
    · have hfx : f = d := by omega
      clear hi ha hl hf hfd
      subst hfx
      go_enter Tryd.func43, Tryd.ntmps43
      go_wp2_with fail
      all_goals (
        refine (CM _).out.mono ?_
        rintro e w1 ⟨rfl, rfl⟩
        go_wp2_with fail
        go_region_with (go_at_call 57; refine (CD _).out.mono ?_; rintro e w1 ⟨rfl, rfl⟩)
        all_goals (
          go_wp2_with fail
          refine (CH _).out.mono ?_
          rintro e w1 ⟨rfl, rfl⟩
          go_wp2_with fail
          go_region
          all_goals (
            go_wp2_with fail
            exact bodyPost_ret (v := .tuple #[.agg #[.int .i64 (⟨x.fo, i, a, x.de, x.dg - f, x.ha, x.ag⟩ : Lay).fo, .int .i64 (⟨x.fo, i, a, x.de, x.dg - f, x.ha, x.ag⟩ : Lay).ic, .int .i64 (⟨x.fo, i, a, x.de, x.dg - f, x.ha, x.ag⟩ : Lay).wa, .int .i64 (⟨x.fo, i, a, x.de, x.dg - f, x.ha, x.ag⟩ : Lay).de, .int .i64 (⟨x.fo, i, a, x.de, x.dg - f, x.ha, x.ag⟩ : Lay).dg, .int .i64 (⟨x.fo, i, a, x.de, x.dg - f, x.ha, x.ag⟩ : Lay).ha, .int .i64 (⟨x.fo, i, a, x.de, x.dg - f, x.ha, x.ag⟩ : Lay).ag], .int .i64 (l - ct), .bool (decide (x.dg - f = -4000))]) (by simp [results, Tryd.results43, go_sem] <;> rfl) rfl ⟨rfl, by repeat (first | exact Below.refl _ _ | refine bAl ?_ _ | refine bDr ?_)⟩)))
theorem coo_eq (x : Lay) (h : Int) : La.coo x h = if 0 < x.wa - La.frz x h then (⟨x.fo, x.ic + La.frz x h, x.wa - La.frz x h, x.de, x.dg, x.ha, x.ag⟩, h - La.frz x h * 334, false) else (⟨x.fo, x.ic + La.frz x h, x.wa - La.frz x h, x.de, x.dg - La.fal ⟨x.fo, x.ic + La.frz x h, x.wa - La.frz x h, x.de, x.dg, x.ha, x.ag⟩ (h - La.frz x h * 334), x.ha, x.ag⟩, h - La.frz x h * 334 - La.cost ⟨x.fo, x.ic + La.frz x h, x.wa - La.frz x h, x.de, x.dg, x.ha, x.ag⟩ (La.fal ⟨x.fo, x.ic + La.frz x h, x.wa - La.frz x h, x.de, x.dg, x.ha, x.ag⟩ (h - La.frz x h * 334)), decide (x.dg - La.fal ⟨x.fo, x.ic + La.frz x h, x.wa - La.frz x h, x.de, x.dg, x.ha, x.ag⟩ (h - La.frz x h * 334) = -4000)) := rfl
theorem cooled_any (x : Lay) (h : Int) (w : World) (hf : La.Fits x) (h0 : 0 ≤ h) (h1 : h ≤ 100000000) :
    Calls Tryd.prog 43 #[.agg #[.int .i64 x.fo, .int .i64 x.ic, .int .i64 x.wa, .int .i64 x.de, .int .i64 x.dg, .int .i64 x.ha, .int .i64 x.ag], .int .i64 h] w fun e w' => e = .returned (.tuple #[.agg #[.int .i64 (La.coo x h).1.fo, .int .i64 (La.coo x h).1.ic, .int .i64 (La.coo x h).1.wa, .int .i64 (La.coo x h).1.de, .int .i64 (La.coo x h).1.dg, .int .i64 (La.coo x h).1.ha, .int .i64 (La.coo x h).1.ag], .int .i64 (La.coo x h).2.1, .bool (La.coo x h).2.2]) ∧ Below w.heap.size w w' := by
  obtain ⟨n0, n1, n2, hF⟩ := La.frz_bd hf h0
  have hfr : La.frz x h = min (h / 334) (min x.wa (1000000 - x.ic)) := rfl
  have e := coo_eq x h
  by_cases ca : h / 334 ≤ x.wa ∧ h / 334 ≤ 1000000 - x.ic
  · exact cooled_a x h (La.frz x h) _ _ _ w hf h0 h1 (by omega) (by omega) (by omega) rfl rfl rfl n0 n1 (by omega) (by omega) hF _ e
  · by_cases cb : x.wa ≤ 1000000 - x.ic
    · exact cooled_b x h (La.frz x h) _ _ _ w hf h0 h1 (by omega) (by omega) (by omega) rfl rfl rfl n0 n1 (by omega) (by omega) hF _ e
    · exact cooled_c x h (La.frz x h) _ _ _ w hf h0 h1 (by omega) (by omega) (by omega) rfl rfl rfl n0 n1 (by omega) (by omega) hF _ e
end Go.Proofs.YtbdhdlgenfpjgaaDoor
