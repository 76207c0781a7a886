/-
  The list's condition on impl.strengthFactors, as cells. No condition of its own.
-/
import Derived.Test.YtaldmdammipfjaaDoorStC
namespace Go.Proofs.YtaldmdammipfjaaDoor
open Go.RowKit Go.ChangeShapes Go.WideShapes
set_option linter.unusedVariables false
set_option maxRecDepth 100000

theorem gFactors : Tryd.prog.globalNamed "loop.example/g01013/impl.strengthFactors" = some 2 := by kernel_rfl
theorem tFactors : (Tryd.prog.globals[2]?).map (·.type) = some 205 := by kernel_rfl
theorem cFactors : Tryd.prog.cellsOf 205 = 6 := by kernel_rfl
theorem cFactor1 : Tryd.prog.cellsOf 2 = 1 := by kernel_rfl
theorem factors_of {l : List (String × DataW Unit)} {w : World} (h : laidMet Tryd.prog l w) (hf : (l.filter fun x => x.1 == "loop.example/g01013/impl.strengthFactors") = [("loop.example/g01013/impl.strengthFactors", Lib.tabData .i64 factors)]) : FactorsAt w := by
  have h' := laidMet.filter (fun x => x.1 == "loop.example/g01013/impl.strengthFactors") h
  rw [hf] at h'
  have t := Lib.tabIs_of_head (rest := []) gFactors tFactors Tryd.underlying205 Tryd.underlying2 cFactor1 cFactors h'
  intro i z hz
  have hi : i < factors.length := (List.getElem?_eq_some_iff.1 hz).1
  have := Lib.TabIs.cell t gFactors i hi
  rw [List.getElem?_eq_getElem hi] at hz
  simp only [Option.some.injEq] at hz
  rw [this, List.getD_eq_getElem?_getD, List.getElem?_eq_getElem hi, Option.getD_some, hz]
end Go.Proofs.YtaldmdammipfjaaDoor
