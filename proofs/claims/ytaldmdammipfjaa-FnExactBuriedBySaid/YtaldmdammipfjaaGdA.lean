/-
  The cell of a row and a column, by the program and by the model. No condition of its own.
-/
import Derived.Test.YtaldmdammipfjaaGdV
import Derived.Deep.RegionHeld3
namespace Go.Proofs.Ytaldmdammipfjaa
open Go.RowKit Go.Shelf Go.Deep
set_option linter.unusedVariables false
set_option maxRecDepth 100000

namespace Gw
def atV (r c s : Int) (zs : List Int) (a b : Int) : Int := Cd.vl (ok r c s zs) (isAt r c a b) (a * c + b)
def atC (r c s : Int) (zs : List Int) (a b : Int) : Int := Cd.cd (ok r c s zs) (isAt r c a b) 0
end Gw
/-- a place in a new block -/
theorem placeBox_below (w : World) (a b : Int) (t : TypeId) : Below w.heap.size w (w.alloc (.cells #[.int .i64 a, .int .i64 b] t)) := (Below.refl _ _).alloc (Nat.le_refl _) _
end Go.Proofs.Ytaldmdammipfjaa
