/-
  The direction of the steepest slope, by the model (chapter 9). No condition of its own.
-/
import Derived.Test.YthcmpalbhaefbaaDoorGs
namespace Go.Proofs.YthcmpalbhaefbaaDoor
open Go.RowKit Go.Shelf Go.Deep
set_option linter.unusedVariables false
set_option maxRecDepth 100000

namespace Gw
theorem isCell_lt {r c k : Int} {n : Nat} (h : isCell r c k = true) (hn : (n : Int) = r * c) : k.toNat < n := by
  unfold isCell at h
  obtain ⟨h1, h2⟩ := inB_iff.1 h
  omega
/-- what AspectOf answers -/
def asR (r c s : Int) (zs : List Int) (k : Int) : Int × Int := if ok r c s zs = true then (if isCell r c k = true then (if (stp r c s zs k.toNat 8).1 < 0 then (0, 3) else ((stp r c s zs k.toNat 8).1, 0)) else (0, 2)) else (0, 1)
theorem as_bad {r c s : Int} {zs : List Int} {k : Int} (h : ok r c s zs = false) : asR r c s zs k = (0, 1) := by unfold asR; rw [h]; rfl
theorem as_out {r c s : Int} {zs : List Int} {k : Int} (h : ok r c s zs = true) (hi : isCell r c k = false) : asR r c s zs k = (0, 2) := by unfold asR; rw [h, hi]; rfl
theorem as_none {r c s : Int} {zs : List Int} {k : Int} (h : ok r c s zs = true) (hi : isCell r c k = true) (hm : (stp r c s zs k.toNat 8).1 < 0) : asR r c s zs k = (0, 3) := by unfold asR; rw [h, hi, if_pos rfl, if_pos rfl, if_pos hm]
theorem as_yes {r c s : Int} {zs : List Int} {k : Int} (h : ok r c s zs = true) (hi : isCell r c k = true) (hm : ¬ (stp r c s zs k.toNat 8).1 < 0) : asR r c s zs k = ((stp r c s zs k.toNat 8).1, 0) := by unfold asR; rw [h, hi, if_pos rfl, if_pos rfl, if_neg hm]
end Gw
end Go.Proofs.YthcmpalbhaefbaaDoor
