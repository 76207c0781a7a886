/-
  Plain arithmetic for chapter 2: days and dates. No Go in sight.
-/
namespace Go.Proofs.YtnflndngkihaaabDoor.Dy

/-- days of a month -/
def dom (y m : Int) : Int := if m = 2 then (if y % 4 = 0 then 29 else 28) else if m = 4 ∨ m = 6 ∨ m = 9 ∨ m = 11 then 30 else 31
/-- days of a year -/
def ylen (y : Int) : Int := if y % 4 = 0 then 366 else 365
/-- days of a year in front of a month -/
def cum (y m : Int) : Int := (367 * m - 362) / 12 - (if m ≤ 2 then 0 else if y % 4 = 0 then 1 else 2)
/-- days in front of a year -/
def yr (y : Int) : Int := 365 * (y - 2000) + (y - 1997) / 4
/-- days in front of a month of a year -/
def num (y m : Int) : Int := yr y + cum y m
/-- is it a date? -/
def isD (y m d : Int) : Prop := (2000 ≤ y ∧ y ≤ 2099) ∧ (1 ≤ m ∧ m ≤ 12) ∧ 1 ≤ d ∧ d ≤ dom y m

theorem dom_bd (y m : Int) : 28 ≤ dom y m ∧ dom y m ≤ 31 := by unfold dom; split <;> (try split) <;> omega
theorem ylen_bd (y : Int) : 365 ≤ ylen y ∧ ylen y ≤ 366 := by unfold ylen; split <;> omega
theorem mcases {m : Int} (h1 : 1 ≤ m) (h2 : m ≤ 12) : m = 1 ∨ m = 2 ∨ m = 3 ∨ m = 4 ∨ m = 5 ∨ m = 6 ∨ m = 7 ∨ m = 8 ∨ m = 9 ∨ m = 10 ∨ m = 11 ∨ m = 12 := by omega
theorem cum_succ (y m : Int) (h1 : 1 ≤ m) (h2 : m ≤ 12) : cum y (m + 1) = cum y m + dom y m := by
  unfold cum dom
  rcases mcases h1 h2 with rfl | rfl | rfl | rfl | rfl | rfl | rfl | rfl | rfl | rfl | rfl | rfl <;> (by_cases h : y % 4 = 0 <;> simp [h])
theorem cum_one (y : Int) : cum y 1 = 0 := by unfold cum; simp
theorem cum_end (y : Int) : cum y 13 = ylen y := by unfold cum ylen; by_cases h : y % 4 = 0 <;> simp [h]
theorem cum_mono (y : Int) {m n : Int} (h : m ≤ n) (h1 : 1 ≤ m) : cum y m ≤ cum y n := by
  unfold cum; split <;> split <;> (try split) <;> omega
theorem cum_bd (y : Int) {m : Int} (h1 : 1 ≤ m) (h2 : m ≤ 12) : 0 ≤ cum y m ∧ cum y m + dom y m ≤ ylen y := by
  have a := cum_mono y h1 (by omega)
  have b := cum_mono y (m := m + 1) (n := 13) (by omega) (by omega)
  rw [cum_one] at a; rw [cum_end, cum_succ y m h1 h2] at b
  exact ⟨a, b⟩
theorem yr_succ (y : Int) : yr (y + 1) = yr y + ylen y := by unfold yr ylen; split <;> omega
theorem yr_mono {y z : Int} (h : y ≤ z) : yr y ≤ yr z := by unfold yr; omega
theorem yr_bd {y : Int} (h1 : 2000 ≤ y) (h2 : y ≤ 2099) : 0 ≤ yr y ∧ yr y + ylen y ≤ 36525 := by
  have := yr_succ y
  have := yr_mono (y := y + 1) (z := 2100) (by omega)
  have e : yr 2100 = 36525 := by decide
  have := yr_mono h1
  have e2 : yr 2000 = 0 := by decide
  omega
theorem yr_le {y : Int} (h : yr y ≤ 36524) : y ≤ 2099 := by
  have e : yr 2100 = 36525 := by decide
  by_cases h2 : y ≤ 2099
  · exact h2
  · have := yr_mono (y := 2100) (z := y) (by omega); omega
theorem num_bd {y m d : Int} (h : isD y m d) : 0 ≤ num y m + d - 1 ∧ num y m + d - 1 ≤ 36524 := by
  obtain ⟨⟨a, b⟩, ⟨c, e⟩, f, g⟩ := h
  have := cum_bd y c e
  have := yr_bd a b
  unfold num; omega
theorem num_succ (y m : Int) (h1 : 1 ≤ m) (h2 : m ≤ 12) : num y (m + 1) = num y m + dom y m := by unfold num; rw [cum_succ y m h1 h2]; omega
theorem num_year (y : Int) : num (y + 1) 1 = num y 12 + dom y 12 := by
  have := num_succ y 12 (by omega) (by omega)
  have e : num y (12 + 1) = yr y + ylen y := by unfold num; rw [show (12 : Int) + 1 = 13 from rfl, cum_end]
  unfold num at *; rw [cum_one, yr_succ]; omega
theorem num_one (y : Int) : num y 1 = yr y := by unfold num; rw [cum_one]; omega
theorem uniq {y m d y' m' d' : Int} (h : isD y m d) (h' : isD y' m' d') (he : num y m + d = num y' m' + d') : y = y' ∧ m = m' ∧ d = d' := by
  obtain ⟨⟨a, b⟩, ⟨c, e⟩, f, g⟩ := h
  obtain ⟨⟨a', b'⟩, ⟨c', e'⟩, f', g'⟩ := h'
  have k := cum_bd y c e
  have k' := cum_bd y' c' e'
  have s := yr_succ y
  have s' := yr_succ y'
  unfold num at he
  have hy : y = y' := by
    rcases Int.lt_trichotomy y y' with hl | hl | hl
    · have := yr_mono (y := y + 1) (z := y') (by omega); omega
    · exact hl
    · have := yr_mono (y := y' + 1) (z := y) (by omega); omega
  subst hy
  have t := cum_succ y m c e
  have t' := cum_succ y m' c' e'
  have hm : m = m' := by
    rcases Int.lt_trichotomy m m' with hl | hl | hl
    · have := cum_mono y (m := m + 1) (n := m') (by omega) (by omega); omega
    · exact hl
    · have := cum_mono y (m := m' + 1) (n := m) (by omega) (by omega); omega
  subst hm
  exact ⟨rfl, rfl, by omega⟩
/-- the loops over months end: what is left lies in the month -/
theorem rest_month {y m r : Int} (h2 : m ≤ 12) (h1 : 1 ≤ m) (hr : cum y m + r < ylen y) : m = 12 → r < dom y 12 := by
  rintro rfl
  have := cum_succ y 12 (by omega) (by omega)
  rw [show (12 : Int) + 1 = 13 from rfl, cum_end] at this; omega
end Go.Proofs.YtnflndngkihaaabDoor.Dy
