/-
  Plain arithmetic for chapter 1: the nearest quotient, written as the program writes it and as the model writes it. No Go in sight.
-/
namespace Go.Proofs.YtommcckihanedaaGreatDoor.Ar

/-- the nearest quotient for a positive divisor, halves away from 0 -/
def drp (a b : Int) : Int := if a < 0 then -((b - 2 * a) / (2 * b)) else (2 * a + b) / (2 * b)
/-- the nearest quotient -/
def dr (a b : Int) : Int := if b < 0 then drp (-a) (-b) else drp a b
/-- the absolute value -/
def ab (a : Int) : Int := if a < 0 then -a else a

theorem ab_nonneg (a : Int) : 0 ≤ ab a := by unfold ab; split <;> omega
theorem ab_le {a m : Int} (h : -m ≤ a) (h' : a ≤ m) : ab a ≤ m := by unfold ab; split <;> omega

theorem ediv_unique {x q d : Int} (hd : 0 < d) (h1 : q * d ≤ x) (h2 : x < (q + 1) * d) : x / d = q := by
  have := Int.ediv_emod_unique (a := x) (b := d) (r := x - q * d) (q := q) hd
  refine (this.2 ⟨?_, ?_, ?_⟩).1
  · rw [Int.mul_comm q d]; omega
  · omega
  · have : (q + 1) * d = q * d + d := by rw [Int.add_mul]; omega
    omega

/-- for a non-negative number and a positive divisor: by the rest -/
theorem drp_rest {a b : Int} (ha : 0 ≤ a) (hb : 0 < b) : drp a b = if a % b < b - a % b then a / b else a / b + 1 := by
  have e := Int.mul_ediv_add_emod a b
  have r0 := Int.emod_nonneg a (Int.ne_of_gt hb)
  have r1 := Int.emod_lt_of_pos a hb
  generalize a / b = q at *
  generalize a % b = r at *
  subst e
  unfold drp
  rw [if_neg (by omega)]
  split
  · apply ediv_unique (by omega)
    · have : q * (2 * b) = 2 * (b * q) := by rw [Int.mul_comm q, Int.mul_assoc]
      omega
    · have : (q + 1) * (2 * b) = 2 * (b * q) + 2 * b := by rw [Int.add_mul, Int.mul_comm q, Int.mul_assoc]; omega
      omega
  · apply ediv_unique (by omega)
    · have : (q + 1) * (2 * b) = 2 * (b * q) + 2 * b := by rw [Int.add_mul, Int.mul_comm q, Int.mul_assoc]; omega
      omega
    · have : (q + 1 + 1) * (2 * b) = 2 * (b * q) + 4 * b := by rw [Int.add_mul, Int.add_mul, Int.mul_comm q, Int.mul_assoc]; omega
      omega
theorem drp_neg {a b : Int} (ha : 0 < a) : drp (-a) b = -drp a b := by
  unfold drp
  rw [if_pos (by omega), if_neg (by omega)]
  congr 2; omega
theorem dr_pos {a b : Int} (ha : 0 ≤ a) (hb : 0 < b) : dr a b = if a % b < b - a % b then a / b else a / b + 1 := by
  unfold dr; rw [if_neg (by omega), drp_rest ha hb]

/-- the nearest quotient as the program computes it: the quotient towards 0, then one step away from 0 if the rest is large -/
def near (a b : Int) : Int := if ab (a.tmod b) < ab b - ab (a.tmod b) then a.tdiv b else if (!(decide (a < 0) == decide (b < 0))) = true then a.tdiv b - 1 else a.tdiv b + 1

theorem ab_neg (a : Int) : ab (-a) = ab a := by unfold ab; split <;> split <;> omega
theorem ab_of_nonneg {a : Int} (h : 0 ≤ a) : ab a = a := by unfold ab; rw [if_neg (by omega)]
theorem near_pp {a b : Int} (ha : 0 ≤ a) (hb : 0 < b) : near a b = dr a b := by
  have r0 := Int.emod_nonneg a (Int.ne_of_gt hb)
  rw [dr_pos ha hb]
  unfold near
  rw [Int.tdiv_eq_ediv_of_nonneg ha, Int.tmod_eq_emod_of_nonneg ha, ab_of_nonneg r0, ab_of_nonneg (Int.le_of_lt hb)]
  split
  · rfl
  · rw [if_neg (by simp; omega)]
theorem near_np {a b : Int} (ha : a < 0) (hb : 0 < b) : near a b = dr a b := by
  obtain ⟨c, rfl⟩ : ∃ c, a = -c := ⟨-a, by omega⟩
  have hc : 0 < c := by omega
  have r0 := Int.emod_nonneg c (Int.ne_of_gt hb)
  have e : dr (-c) b = -dr c b := by unfold dr; rw [if_neg (by omega), if_neg (by omega), drp_neg hc]
  rw [e, dr_pos (by omega) hb]
  unfold near
  rw [Int.neg_tdiv, Int.neg_tmod, ab_neg, Int.tdiv_eq_ediv_of_nonneg (by omega), Int.tmod_eq_emod_of_nonneg (by omega), ab_of_nonneg r0, ab_of_nonneg (Int.le_of_lt hb)]
  split
  · rfl
  · rw [if_pos (by simp; omega)]; omega
theorem dr_nn (a b : Int) (hb : b < 0) : dr (-a) (-b) = dr a b := by
  unfold dr; rw [if_neg (by omega), if_pos hb]
theorem near_nn (a b : Int) (ha : a < 0 ∨ 0 < a) (hb : b < 0 ∨ 0 < b) : near (-a) (-b) = near a b := by
  unfold near
  rw [Int.neg_tdiv, Int.tdiv_neg, Int.neg_tmod, Int.tmod_neg, ab_neg, ab_neg, Int.neg_neg]
  have : (decide (-a < 0) == decide (-b < 0)) = (decide (a < 0) == decide (b < 0)) := by
    have d : ∀ x : Int, x < 0 ∨ 0 < x → decide (-x < 0) = !decide (x < 0) := by
      intro x hx
      rcases hx with hx | hx
      · rw [decide_eq_false (by omega), decide_eq_true hx]; rfl
      · rw [decide_eq_true (by omega), decide_eq_false (by omega)]; rfl
    rw [d a ha, d b hb]
    cases decide (a < 0) <;> cases decide (b < 0) <;> rfl
  rw [this]
theorem near_eq (a b : Int) (hb : b < 0 ∨ 0 < b) : near a b = dr a b := by
  rcases hb with hb | hb
  · rcases Int.lt_trichotomy a 0 with ha | ha | ha
    · rw [← near_nn a b (Or.inl ha) (Or.inl hb), ← dr_nn a b hb]; exact near_pp (by omega) (by omega)
    · subst ha
      have e : dr 0 b = 0 := by
        rw [← dr_nn 0 b hb, Int.neg_zero, dr_pos (by omega) (by omega)]; simp; omega
      rw [e]; unfold near ab; simp; omega
    · rw [← near_nn a b (Or.inr ha) (Or.inl hb), ← dr_nn a b hb]; exact near_np (by omega) (by omega)
  · by_cases ha : a < 0
    · exact near_np ha hb
    · exact near_pp (by omega) hb
theorem tdiv_le {a b m : Int} (h1 : -m ≤ a) (h2 : a ≤ m) : -m ≤ a.tdiv b ∧ a.tdiv b ≤ m := by
  have h := Int.natAbs_tdiv_le_natAbs a b
  omega
theorem tmod_lt {a b : Int} (hb : b < 0 ∨ 0 < b) : ab (a.tmod b) < ab b := by
  have h := Int.natAbs_tmod a b
  have h' := Nat.mod_lt a.natAbs (y := b.natAbs) (by omega)
  unfold ab; split <;> split <;> omega
theorem tmod_bd {a b m : Int} (hb : b < 0 ∨ 0 < b) (h3 : -m ≤ b) (h4 : b ≤ m) : -m ≤ a.tmod b ∧ a.tmod b ≤ m := by
  have := tmod_lt (a := a) hb
  unfold ab at this; split at this <;> split at this <;> omega

/-- is a number in the range of the values of chapter 1? -/
def inB (l x h : Int) : Bool := decide (l ≤ x) && decide (x ≤ h)
theorem inB_t {l x h : Int} (h1 : l ≤ x) (h2 : x ≤ h) : inB l x h = true := by unfold inB; simp [h1, h2]
theorem inB_f {l x h : Int} (h1 : ¬ (l ≤ x ∧ x ≤ h)) : inB l x h = false := by
  unfold inB; rw [Bool.eq_false_iff]; intro hc; simp at hc; exact h1 hc
/-- DivRound of chapter 1 -/
def dR (a b : Int) : Int := if b = 0 ∨ ¬ (-1000000000000 ≤ a ∧ a ≤ 1000000000000) ∨ ¬ (-1000000000000 ≤ b ∧ b ≤ 1000000000000) then 0 else dr a b
/-- the value at x of the line through two points -/
def line (x0 y0 x1 y1 x : Int) : Int := if x ≤ x0 ∨ x1 ≤ x0 then y0 else if x1 ≤ x then y1 else y0 + dr ((y1 - y0) * (x - x0)) (x1 - x0)
def pt (x : Int) : Bool := inB (-1000000) x 1000000
def bl (x0 y0 x1 y1 x : Int) : Int := if (pt x0 && pt y0 && pt x1 && pt y1) = true then line x0 y0 x1 y1 x else 0
theorem mul_bd {a b m n : Int} (h1 : -m ≤ a) (h2 : a ≤ m) (h3 : 0 ≤ b) (h4 : b ≤ n) : -(m * n) ≤ a * b ∧ a * b ≤ m * n := by
  have hm : 0 ≤ m := by omega
  have e1 : a * b ≤ m * b := Int.mul_le_mul_of_nonneg_right h2 h3
  have e2 : m * b ≤ m * n := Int.mul_le_mul_of_nonneg_left h4 hm
  have e3 : -m * b ≤ a * b := Int.mul_le_mul_of_nonneg_right h1 h3
  rw [Int.neg_mul] at e3
  omega
theorem drp_bd {a b : Int} (ha : 0 ≤ a) (hb : 0 < b) : 0 ≤ drp a b ∧ drp a b ≤ a + 1 := by
  have q0 : 0 ≤ a / b := Int.ediv_nonneg ha (by omega)
  have q1 : a / b ≤ a := Int.ediv_le_self _ ha
  rw [drp_rest ha hb]
  split <;> omega
theorem dr_bd {a b m : Int} (h1 : -m ≤ a) (h2 : a ≤ m) (hb : 0 < b) : -m - 1 ≤ dr a b ∧ dr a b ≤ m + 1 := by
  unfold dr
  rw [if_neg (by omega)]
  by_cases ha : a < 0
  · have := drp_neg (a := -a) (b := b) (by omega)
    rw [Int.neg_neg] at this
    rw [this]
    have := drp_bd (a := -a) (b := b) (by omega) hb
    omega
  · have := drp_bd (a := a) (b := b) (by omega) hb
    omega
end Go.Proofs.YtommcckihanedaaGreatDoor.Ar
