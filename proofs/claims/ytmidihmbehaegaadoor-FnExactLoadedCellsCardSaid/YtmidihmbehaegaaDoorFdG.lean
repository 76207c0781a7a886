/-
  Numbers of the call's own stay where other numbers are marked. No condition of its own.
-/
import Derived.Test.YtmidihmbehaegaaDoorFdL
namespace Go.Proofs.YtmidihmbehaegaaDoor
open Go.RowKit Go.Shelf
set_option linter.unusedVariables false

theorem Own.apart {B : Nat} {w w1 : World} {u v : Value} {zs : List Int} (h : Own B w u zs) (hg : w.grownBy w1 v.ownBlock) (hv : ∀ j, v.ownBlock = some j → j < B) : Own B w1 u zs :=
  World.ownsRow.kept h hg (by
    cases hu : u.ownBlock with
    | none => exact Or.inl rfl
    | some a => exact Or.inr (fun e => by have h1 := (World.ownsRow.lt h a hu).1; have h2 := hv a e.symm; omega))
end Go.Proofs.YtmidihmbehaegaaDoor
