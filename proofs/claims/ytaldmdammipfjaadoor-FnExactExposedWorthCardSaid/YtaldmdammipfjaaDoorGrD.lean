/-
  The library's table of de Bruijn, out of what the list of variables says. No condition of its own.
-/
import Derived.Test.YtaldmdammipfjaaDoorGrA
import Derived.Lib.LaidTab
import Derived.LaidSub
import Derived.Lib.SmallJoins
namespace Go.Proofs.YtaldmdammipfjaaDoor
open Go.RowKit
set_option linter.unusedVariables false
def dbI : List Int := Lib.deBruijn64tab.map (fun (n : Nat) => (n : Int))
theorem gDb : Tryd.prog.globalNamed "math/bits.deBruijn64tab" = some 0 := by kernel_rfl
theorem tDb : (Tryd.prog.globals[0]?).map (·.type) = some 155 := by kernel_rfl
theorem cDb : Tryd.prog.cellsOf 155 = 64 := by kernel_rfl
theorem cU8 : Tryd.prog.cellsOf 5 = 1 := by kernel_rfl
theorem db_of {l : List (String × DataW Unit)} {w : World} (h : laidMet Tryd.prog l w) (hf : (l.filter fun x => x.1 == "math/bits.deBruijn64tab") = [("math/bits.deBruijn64tab", Lib.tabData .u8 dbI)]) : DbAt w := by
  have h' := laidMet.filter (fun x => x.1 == "math/bits.deBruijn64tab") h
  rw [hf] at h'
  have t := Lib.tabIs_of_head (rest := []) gDb tDb Tryd.underlying155 Tryd.underlying5 cU8 cDb h'
  intro j hj
  have hl : j < dbI.length := by unfold dbI; rw [List.length_map]; exact hj
  have := Lib.TabIs.cell t gDb j hl
  rw [this]
  have e : dbI.getD j 0 = ((Lib.deBruijn64tab.getD j 0 : Nat) : Int) := by
    unfold dbI
    rw [List.getD_eq_getElem?_getD, List.getD_eq_getElem?_getD, List.getElem?_map, List.getElem?_eq_getElem hj]; rfl
  rw [e]
end Go.Proofs.YtaldmdammipfjaaDoor
