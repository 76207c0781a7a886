import Derived.Test.YtfbfdiejffjbmaaDoorHr
/-
  Plain mathematics of chapter 5, for its promise: what melts is paid for, ice and water together are kept, what drains is little enough; a profile that is turned over. No Go in sight.
-/
namespace Go.Proofs.YtfbfdiejffjbmaaDoor
set_option linter.unusedVariables false
namespace La

theorem wrm_keep {x : Lay} {h : Int} (hx : Fits x) (h0 : 0 ≤ h) : (wrm x h).1.ic + (wrm x h).1.wa = x.ic + x.wa ∧ (wrm x h).1.ic ≤ x.ic ∧ (x.ic - (wrm x h).1.ic) * 334 ≤ h - (wrm x h).2.1 ∧ cold (wrm x h).1 ≤ cold x := by
  have a1 := hx.i1; have a2 := hx.i2; have b1 := hx.w1; have b2 := hx.w2; have g1 := hx.g1; have g2 := hx.g2
  have c := cold_bd hx
  unfold wrm
  by_cases hc : h < cold x
  · have d := deg_bd hx h0
    have d2 := deg_cold hx h0 hc
    rw [if_pos hc]
    refine ⟨rfl, Int.le_refl _, by simp only; omega, ?_⟩
    unfold cold
    simp only
    have e : x.ic * -(x.dg + deg x h) ≤ x.ic * -x.dg := Int.mul_le_mul_of_nonneg_left (by omega) (by omega)
    omega
  · rw [if_neg hc]
    have e0 : ∀ i : Int, (i * -(0:Int) * 21 + 999) / 1000 = 0 := by intro i; simp
    refine ⟨by simp only; omega, by simp only; omega, by simp only; omega, ?_⟩
    unfold cold at c ⊢
    simp only
    rw [e0]
    exact c.1
theorem coo_keep {x : Lay} {h : Int} (hx : Fits x) (h0 : 0 ≤ h) : (coo x h).1.ic + (coo x h).1.wa = x.ic + x.wa ∧ x.ic ≤ (coo x h).1.ic ∧ ((coo x h).1.ic - x.ic) * 334 ≤ h - (coo x h).2.1 := by
  obtain ⟨n0, n1, n2, hf⟩ := frz_bd hx h0
  unfold coo
  split
  · unfold iced; exact ⟨by simp only; omega, by simp only; omega, by simp only; omega⟩
  · obtain ⟨d0, d1, d2, d3, d4, d5, d6⟩ := fal_bd hf (l := h - frz x h * 334) (by omega)
    generalize cost (iced x (frz x h)) (fal (iced x (frz x h)) (h - frz x h * 334)) = q at *
    unfold iced
    exact ⟨by simp only; omega, by simp only; omega, by simp only; omega⟩
theorem drn_keep {x : Lay} {f : Int} (hx : Fits x) (h0 : 0 ≤ f) : (drn x f).1.ic = x.ic ∧ (drn x f).1.wa + (drn x f).2.1 = x.wa + f ∧ 1000 * (drn x f).1.wa ≤ (drn x f).1.ic * 60 := by
  have a1 := hx.i1; have a2 := hx.i2; have b1 := hx.w1; have b2 := hx.w2
  unfold drn hold
  exact ⟨rfl, by simp only; omega, by simp only; omega⟩
theorem wrm_sum {j : Int} (hj : 0 ≤ j) : ∀ xs : List Lay, (∀ x ∈ xs, Fits x) → (0 ≤ (top wrm xs j).2.1 ∧ (top wrm xs j).2.1 ≤ j) ∧ sm Lay.ic (top wrm xs j).1 + sm Lay.wa (top wrm xs j).1 = sm Lay.ic xs + sm Lay.wa xs ∧ sm Lay.ic (top wrm xs j).1 ≤ sm Lay.ic xs ∧
    (sm Lay.ic xs - sm Lay.ic (top wrm xs j).1) * 334 ≤ j - (top wrm xs j).2.1 ∧ sm cold (top wrm xs j).1 ≤ sm cold xs
  | [], _ => by simp [top, sm, hj]
  | x :: xs, hx => by
    obtain ⟨⟨q0, q1⟩, i1, i2, i3, i4⟩ := wrm_sum hj xs (fun y hy => hx y (List.mem_cons_of_mem _ hy))
    have hxx := hx x (List.mem_cons_self ..)
    rw [top]
    split
    · obtain ⟨k1, k2, k3⟩ := wrm_ok hxx q0
      obtain ⟨m1, m2, m3, m4⟩ := wrm_keep hxx q0
      simp only [sm_cons]
      refine ⟨⟨by omega, by omega⟩, by omega, by omega, by omega, by omega⟩
    · simp only [sm_cons]
      refine ⟨⟨by omega, by omega⟩, by omega, by omega, by omega, by omega⟩
theorem coo_sum {j : Int} (hj : 0 ≤ j) : ∀ xs : List Lay, (∀ x ∈ xs, Fits x) → (0 ≤ (top coo xs j).2.1 ∧ (top coo xs j).2.1 ≤ j) ∧ sm Lay.ic (top coo xs j).1 + sm Lay.wa (top coo xs j).1 = sm Lay.ic xs + sm Lay.wa xs ∧ sm Lay.ic xs ≤ sm Lay.ic (top coo xs j).1 ∧
    (sm Lay.ic (top coo xs j).1 - sm Lay.ic xs) * 334 ≤ j - (top coo xs j).2.1
  | [], _ => by simp [top, sm, hj]
  | x :: xs, hx => by
    obtain ⟨⟨q0, q1⟩, i1, i2, i3⟩ := coo_sum hj xs (fun y hy => hx y (List.mem_cons_of_mem _ hy))
    have hxx := hx x (List.mem_cons_self ..)
    rw [top]
    split
    · obtain ⟨k1, k2, k3⟩ := coo_ok hxx q0
      obtain ⟨m1, m2, m3⟩ := coo_keep hxx q0
      simp only [sm_cons]
      refine ⟨⟨by omega, by omega⟩, by omega, by omega, by omega⟩
    · simp only [sm_cons]
      refine ⟨⟨by omega, by omega⟩, by omega, by omega, by omega⟩
theorem drn_sum : ∀ xs : List Lay, (∀ x ∈ xs, Fits x) → (0 ≤ (top drn xs 0).2.1 ∧ (top drn xs 0).2.2 = true) ∧ sm Lay.ic (top drn xs 0).1 = sm Lay.ic xs ∧ sm Lay.wa (top drn xs 0).1 + (top drn xs 0).2.1 = sm Lay.wa xs ∧ ∀ y ∈ (top drn xs 0).1, 1000 * y.wa ≤ y.ic * 60
  | [], _ => by simp [top, sm]
  | x :: xs, hx => by
    obtain ⟨⟨q0, q1⟩, i1, i2, i3⟩ := drn_sum xs (fun y hy => hx y (List.mem_cons_of_mem _ hy))
    have hxx := hx x (List.mem_cons_self ..)
    obtain ⟨k1, k2, k3⟩ := drn_ok hxx q0
    obtain ⟨m1, m2, m3⟩ := drn_keep hxx q0
    rw [top, if_pos q1]
    simp only [sm_cons]
    refine ⟨⟨k2, rfl⟩, by omega, by omega, fun y hy => ?_⟩
    rcases List.mem_cons.1 hy with rfl | hy
    · exact m3
    · exact i3 y hy
/-- a gradient seen from the other side -/
theorem dr_odd (a b : Int) (hb : 0 < b) : Ar.dr (-a) b = -Ar.dr a b := by
  unfold Ar.dr
  rw [if_neg (by omega), if_neg (by omega)]
  rcases Int.lt_trichotomy a 0 with h | h | h
  · have := Ar.drp_neg (a := -a) (b := b) (by omega)
    rw [Int.neg_neg] at this
    omega
  · subst h
    unfold Ar.drp
    simp
    have e : b / (2 * b) = 0 := Int.ediv_eq_zero_of_lt (by omega) (by omega)
    omega
  · exact Ar.drp_neg h
theorem way_comm (x y : Lay) : way x y = way y x := by unfold way; rw [Int.add_comm]
theorem grd_turn {x y : Lay} (hx : Fits x) (hy : Fits y) : grd y x = -grd x y := by
  have w1 := way_bd hx hy
  unfold grd
  rw [way_comm y x, show (x.dg - y.dg) * 1000 = -((y.dg - x.dg) * 1000) by omega]
  exact dr_odd _ _ (by omega)
end La
end Go.Proofs.YtfbfdiejffjbmaaDoor
