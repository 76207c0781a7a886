/-
  Places among the cells of a grid: where a cell lies, the place behind a way, whether it lies in the grid. The conditions: small numbers.
-/
import Derived.Test.YtaldmdammipfjaaGtb
import Derived.Test.YtaldmdammipfjaaGdA
import Derived.Deep.RegionHeld3
namespace Go.Proofs.Ytaldmdammipfjaa
open Go.RowKit Go.Shelf
set_option linter.unusedVariables false
set_option maxRecDepth 100000
theorem whole2 (w : World) (o o' : Obj) (t : TypeId) (cs : Array Value) : Whole (((w.alloc o).alloc o').alloc (.cells cs t)) (w.heap.size + 1 + 1) t cs := by
  have := Whole.new ((w.alloc o).alloc o') t cs
  rwa [World.size_alloc, World.size_alloc] at this
end Go.Proofs.Ytaldmdammipfjaa
