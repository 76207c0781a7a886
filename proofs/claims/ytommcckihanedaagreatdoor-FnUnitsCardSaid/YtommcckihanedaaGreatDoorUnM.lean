/-
  Plain mathematics of the law of units: how many bounds a speed has passed, a line that rises, a mass and its height. No Go in sight.
-/
import Derived.Test.YtommcckihanedaaGreatDoorArith
namespace Go.Proofs.YtommcckihanedaaGreatDoor.Un
open Go.Proofs.YtommcckihanedaaGreatDoor.Ar
set_option linter.unusedVariables false

theorem filt_le : ∀ (l : List Int) (s : Int), (l.filter fun z => decide (z ≤ s)).length ≤ (l.filter fun z => decide (z ≤ s + 1)).length
  | [], _ => by simp
  | y :: l, s => by
    have := filt_le l s
    simp only [List.filter_cons, decide_eq_true_eq]
    split
    · rw [if_pos (by omega)]; simp only [List.length_cons]; omega
    · split
      · simp only [List.length_cons]; omega
      · exact this
theorem filt_none : ∀ (l : List Int) (s : Int), (∀ z ∈ l, s < z) → (l.filter fun z => decide (z ≤ s)).length = 0
  | [], _, _ => rfl
  | y :: l, s, h => by
    have := filt_none l s (fun z hz => h z (List.mem_cons_of_mem _ hz))
    have := h y List.mem_cons_self
    simp only [List.filter_cons, decide_eq_true_eq]
    rw [if_neg (by omega)]; assumption
theorem filt_succ : ∀ (l : List Int) (s : Int), l.Pairwise (· < ·) → (l.filter fun z => decide (z ≤ s + 1)).length ≤ (l.filter fun z => decide (z ≤ s)).length + 1
  | [], _, _ => by simp
  | y :: l, s, h => by
    rw [List.pairwise_cons] at h
    have ih := filt_succ l s h.2
    simp only [List.filter_cons, decide_eq_true_eq]
    by_cases h1 : y ≤ s
    · rw [if_pos (by omega), if_pos h1]; simp only [List.length_cons]; omega
    · rw [if_neg h1]
      by_cases h2 : y ≤ s + 1
      · rw [if_pos h2]
        have := filt_none l (s + 1) (fun z hz => by have := h.1 z hz; omega)
        simp only [List.length_cons, this]; omega
      · rw [if_neg h2]; exact ih
theorem filt_bd (l : List Int) (s : Int) : (l.filter fun z => decide (z ≤ s)).length ≤ l.length := List.length_filter_le _ _
/-- the share at a speed -/
def shr (s : Int) : Int := bl 500 0 2500 1000 s
theorem shr_eq (s : Int) : shr s = if s ≤ 500 then 0 else if 2500 ≤ s then 1000 else dr (1000 * (s - 500)) 2000 := by
  have h : (pt 500 && pt 0 && pt 2500 && pt 1000) = true := by decide
  unfold shr bl line
  rw [if_pos h]
  by_cases h1 : s ≤ 500
  · rw [if_pos h1, if_pos (Or.inl h1)]
  · rw [if_neg h1, if_neg (by omega)]
    by_cases h2 : 2500 ≤ s
    · rw [if_pos h2, if_pos h2]
    · rw [if_neg h2, if_neg h2, Int.zero_add]; rfl
theorem dr_mono {a b d : Int} (h0 : 0 ≤ a) (h : a ≤ b) (hd : 0 < d) : dr a d ≤ dr b d := by
  unfold dr drp
  rw [if_neg (by omega), if_neg (by omega), if_neg (by omega), if_neg (by omega)]
  exact Int.ediv_le_ediv (by omega) (by omega)
theorem shr_bd (s : Int) : 0 ≤ shr s ∧ shr s ≤ 1000 := by
  rw [shr_eq]
  split
  · omega
  · split
    · omega
    · rename_i h1 h2
      have a := dr_mono (a := 0) (b := 1000 * (s - 500)) (d := 2000) (by omega) (by omega) (by omega)
      have b := dr_mono (a := 1000 * (s - 500)) (b := 2000000) (d := 2000) (by omega) (by omega) (by omega)
      have c : dr 0 2000 = 0 := by decide
      have e : dr 2000000 2000 = 1000 := by decide
      omega
theorem shr_mono (s : Int) : shr s ≤ shr (s + 1) := by
  have b1 := shr_bd s
  have b2 := shr_bd (s + 1)
  by_cases h1 : s ≤ 500
  · have : shr s = 0 := by rw [shr_eq, if_pos h1]
    omega
  · by_cases h2 : 2500 ≤ s + 1
    · have : shr (s + 1) = 1000 := by rw [shr_eq, if_neg (by omega), if_pos h2]
      omega
    · rw [shr_eq s, shr_eq (s + 1), if_neg h1, if_neg (by omega), if_neg (by omega), if_neg h2]
      exact dr_mono (by omega) (by omega) (by omega)
/-- the height of a mass of a height -/
theorem snow_back {d h : Int} (hd : 0 ≤ d) (hh : 1 ≤ h) : dr (10 * d * h) (10 * h) = d := by
  have e : 10 * d * h = d * (10 * h) := by rw [Int.mul_comm 10 d, Int.mul_assoc]
  rw [dr_pos (by rw [e]; exact Int.mul_nonneg hd (by omega)) (by omega), e, Int.mul_emod_left, Int.mul_ediv_cancel _ (by omega), if_pos (by omega)]
theorem snow_bd {d h : Int} (h1 : 0 ≤ d) (h2 : d ≤ 2000) (h3 : 1 ≤ h) (h4 : h ≤ 1000) : 0 ≤ 10 * d * h ∧ 10 * d * h ≤ 1000000000 := by
  have a : 0 ≤ d * h := Int.mul_nonneg h1 (by omega)
  have b : d * h ≤ 2000000 := by have := Int.mul_le_mul h2 h4 (by omega) (by omega); omega
  have e : 10 * d * h = 10 * (d * h) := Int.mul_assoc ..
  omega
end Go.Proofs.YtommcckihanedaaGreatDoor.Un
