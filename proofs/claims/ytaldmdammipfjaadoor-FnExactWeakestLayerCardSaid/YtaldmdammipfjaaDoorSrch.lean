/-
  sort.Search at a function value that only reads: the first place from which on it says yes. No condition of its own.
-/
import Derived.Test.YtaldmdammipfjaaDoorGen
import Derived.Shelf.Abstract
import Derived.WalkLawsBesides
namespace Go.Proofs.YtaldmdammipfjaaDoor
open Go.RowKit Go.Shelf
set_option linter.unusedVariables false
set_option maxRecDepth 100000

/-- how a search ends -/
def Srch (n : Nat) (p : Nat → Bool) (w : World) (e : Ending) (w' : World) : Prop :=
  ∃ k, k ≤ n ∧ e = .returned (.int .i64 (k : Int)) ∧ (∀ a, a < k → p a = false) ∧ (∀ a, k ≤ a → a < n → p a = true) ∧ ∃ q, w' = w.drewN q
/-- the same, of the world no more than that all lies as it lay -/
def SrchB (n : Nat) (p : Nat → Bool) (w : World) (e : Ending) (w' : World) : Prop :=
  ∃ k, k ≤ n ∧ e = .returned (.int .i64 (k : Int)) ∧ (∀ a, a < k → p a = false) ∧ (∀ a, k ≤ a → a < n → p a = true) ∧ Below w.heap.size w w'
theorem Srch.below {n : Nat} {p : Nat → Bool} {w : World} {e : Ending} {w' : World} (h : Srch n p w e w') : SrchB n p w e w' := by
  obtain ⟨k, h1, h2, h3, h4, q, rfl⟩ := h
  exact ⟨k, h1, h2, h3, h4, below_drewW _ _⟩
end Go.Proofs.YtaldmdammipfjaaDoor
