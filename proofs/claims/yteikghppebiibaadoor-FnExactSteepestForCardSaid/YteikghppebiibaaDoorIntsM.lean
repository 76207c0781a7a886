/-
  Rows of numbers are marked, and looked at: the forms that the laws' walks take. No condition of its own.
-/
import Derived.Test.YteikghppebiibaaDoorGen
import Derived.Laws.MakeOwn
namespace Go.Proofs.YteikghppebiibaaDoor
open Go.RowKit
set_option linter.unusedVariables false
set_option maxRecDepth 100000

theorem Own.belowAll {B : Nat} {w w1 : World} {v : Value} {zs : List Int} (h : Own B w v zs) (hb : Below w.heap.size w w1) : Own B w1 v zs := own_belowAll h hb
theorem Own.far {B x : Nat} {w w1 : World} {v : Value} {zs : List Int} (h : Own B w v zs) (hg : w.grownBy w1 (some x)) (hx : x < B) : Own B w1 v zs := own_far h hg hx
end Go.Proofs.YteikghppebiibaaDoor
