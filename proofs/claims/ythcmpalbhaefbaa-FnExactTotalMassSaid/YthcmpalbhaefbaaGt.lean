/-
  The cells next to a cell of a grid (chapter 9), by the model: plain mathematics, and the model's walk from a cell in a direction. No condition of its own.
-/
import Derived.Test.YthcmpalbhaefbaaGdA
import Derived.Deep.RegionHeld3
namespace Go.Proofs.Ythcmpalbhaefbaa
open Go.RowKit Go.Shelf Go.Deep
set_option linter.unusedVariables false
set_option maxRecDepth 100000

namespace Gw
/-- the ways in rows and in columns -/
def drs : List Int := [-1, -1, 0, 1, 1, 1, 0, -1]
def dcs : List Int := [0, 1, 1, 1, 0, -1, -1, -1]
theorem drs_bd (a : Nat) : -1 ≤ drs.getD a 0 ∧ drs.getD a 0 ≤ 1 := by
  rcases Nat.lt_or_ge a 8 with h | h
  · have : a = 0 ∨ a = 1 ∨ a = 2 ∨ a = 3 ∨ a = 4 ∨ a = 5 ∨ a = 6 ∨ a = 7 := by omega
    rcases this with rfl | rfl | rfl | rfl | rfl | rfl | rfl | rfl <;> decide
  · rw [List.getD_eq_getElem?_getD, List.getElem?_eq_none (by simpa [drs] using h)]; decide
theorem dcs_bd (a : Nat) : -1 ≤ dcs.getD a 0 ∧ dcs.getD a 0 ≤ 1 := by
  rcases Nat.lt_or_ge a 8 with h | h
  · have : a = 0 ∨ a = 1 ∨ a = 2 ∨ a = 3 ∨ a = 4 ∨ a = 5 ∨ a = 6 ∨ a = 7 := by omega
    rcases this with rfl | rfl | rfl | rfl | rfl | rfl | rfl | rfl <;> decide
  · rw [List.getD_eq_getElem?_getD, List.getElem?_eq_none (by simpa [dcs] using h)]; decide
def rwA (c k : Int) (a : Nat) : Int := k / c + drs.getD a 0
def clA (c k : Int) (a : Nat) : Int := k % c + dcs.getD a 0
/-- is there a cell in this direction? -/
def goB (r c k : Int) (a : Nat) : Bool := isAt r c (rwA c k a) (clA c k a)
/-- the cell in a direction from a cell, or -1 -/
def goC (r c k : Int) (a : Nat) : Int := if goB r c k a = true then rwA c k a * c + clA c k a else -1
theorem place_bd {c k : Int} (h1 : 1 ≤ c) (h2 : c ≤ 8) (h3 : 0 ≤ k) (h4 : k ≤ 63) : 0 ≤ k / c ∧ k / c ≤ 63 ∧ 0 ≤ k % c ∧ k % c ≤ 7 := by
  refine ⟨Int.ediv_nonneg h3 (by omega), ?_, Int.emod_nonneg _ (by omega), ?_⟩
  · have := Int.ediv_le_self c h3; omega
  · have := Int.emod_lt_of_pos k (show 0 < c by omega); omega
def isCell (r c k : Int) : Bool := Ar.inB 0 k (r * c - 1)
end Gw
theorem new_row {w : World} {g n : Nat} {cs : List Value} {t : TypeId} (h : w.heap[g]? = some (.cells cs.toArray t (0, 0))) (j : Nat) : w.cell? ⟨g, j, none⟩ = cs[j]? := by
  have := cell_of_row w g j cs.toArray t (0, 0) h
  rw [this]; simp
end Go.Proofs.Ythcmpalbhaefbaa
