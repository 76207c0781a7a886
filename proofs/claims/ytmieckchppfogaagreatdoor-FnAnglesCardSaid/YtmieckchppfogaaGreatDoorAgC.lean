/-
  Tangents, the ground, the line, the stop, by the model (chapter 14). No condition of its own. (Written by wip/gen/genagc.py.)
-/
import Derived.Test.YtmieckchppfogaaGreatDoorAgB
namespace Go.Proofs.YtmieckchppfogaaGreatDoor
open Go.RowKit Go.Shelf
set_option linter.unusedVariables false
set_option maxRecDepth 100000

namespace An
/-- the model's stop: -1 where there is none -/
def sR (xs : List Pth) (t : Int) : Int := if st xs t < (la xs).toNat then (st xs t : Int) + 1 else -1
theorem sR_at {xs : List Pth} {t : Int} {n : Nat} (h : n < (la xs).toNat) (h1 : ∀ j : Nat, j < n → 0 < hi xs t ((j : Int) + 1)) (h2 : hi xs t ((n : Int) + 1) ≤ 0) : sR xs t = (n : Int) + 1 := by
  have : st xs t = n := fi_eq (by omega) (fun i hi => decide_eq_false (by have := h1 i hi; omega)) (fun _ => decide_eq_true h2)
  unfold sR; rw [this, if_pos h]
theorem sR_no {xs : List Pth} {t : Int} (h1 : ∀ j : Nat, j < (la xs).toNat → 0 < hi xs t ((j : Int) + 1)) : sR xs t = -1 := by
  have : st xs t = (la xs).toNat := fi_all (fun i hi => decide_eq_false (by have := h1 i hi; omega))
  unfold sR; rw [this, if_neg (by omega)]
end An
end Go.Proofs.YtmieckchppfogaaGreatDoor
