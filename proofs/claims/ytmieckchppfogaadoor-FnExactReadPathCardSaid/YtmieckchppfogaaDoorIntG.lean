/-
  slices.IndexFunc and slices.ContainsFunc at int64, at a function value. No condition of its own.
-/
import Derived.Test.YtmieckchppfogaaDoorGen
import Derived.StillTailTactics
import Derived.Shelf.Abstract
namespace Go.Proofs.YtmieckchppfogaaDoor
open Go.RowKit Go.Shelf
set_option linter.unusedVariables false
set_option maxRecDepth 100000

def FoundI (q : Nat → Bool) (n : Nat) (I : Nat → World → Prop) (e : Ending) (w' : World) : Prop :=
  (∃ k, k < n ∧ q k = true ∧ (∀ j, j < k → q j = false) ∧ e = .returned (.int .i64 (k : Int)) ∧ I (k + 1) w') ∨ ((∀ j, j < n → q j = false) ∧ e = .returned (.int .i64 (-1)) ∧ I n w')
theorem Sl.atI {w : World} {v : Value} {zs : List Int} (h : Sl w v zs) {k : Nat} (hk : k < zs.length) :
    ∃ b off cap, v = .slice (some ⟨b, off, none⟩) zs.length cap ∧ b < w.heap.size ∧ ∀ j (hj : j < zs.length), w.cell? ⟨b, off + j, none⟩ = some (.int .i64 zs[j]) := by
  rcases h with ⟨rfl, _⟩ | ⟨b, off, cap, rfl, hlt, hc⟩
  · cases hk
  · exact ⟨b, off, cap, rfl, hlt, fun j hj => hc j _ (List.getElem?_eq_getElem hj)⟩
end Go.Proofs.YtmieckchppfogaaDoor
