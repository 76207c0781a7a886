/-
  HeightOf, MassOf, ColdOf and ThicknessOf of chapter 3, by the program and by the model. No condition of its own.
-/
import Derived.Test.YtaldmdammipfjaaDoorSum2
namespace Go.Proofs.YtaldmdammipfjaaDoor
open Go.RowKit Go.Shelf
set_option linter.unusedVariables false
set_option maxRecDepth 100000

theorem bd100 {y : Int} (h : 0 ≤ y ∧ y ≤ 1000001) : 0 ≤ y ∧ y ≤ 100000000 := ⟨h.1, by omega⟩
end Go.Proofs.YtaldmdammipfjaaDoor
