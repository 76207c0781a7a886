/-
  Rows of three and four numbers in a new block. No condition of its own.
-/
import Derived.Test.YtecobplmkdlagaaDoorGen
import Derived.Test.YtecobplmkdlagaaDoorInts
namespace Go.Proofs.YtecobplmkdlagaaDoor
open Go.RowKit Go.ChangeShapes Go.WideShapes Go.Deep
set_option linter.unusedVariables false
set_option maxRecDepth 100000

theorem sl3 (w : World) (a b c : Int) (t : TypeId) : Sl (w.alloc (.cells #[.int .i64 a, .int .i64 b, .int .i64 c] t)) (.slice (some ⟨w.heap.size, 0, none⟩) 3 3) [a, b, c] := by
  refine Or.inr ⟨w.heap.size, 0, 3, rfl, by simp, ?_⟩
  have h := Whole.new w t #[.int .i64 a, .int .i64 b, .int .i64 c]
  intro j x hj
  match j, hj with
  | 0, hj => cases hj; exact h.at_ 0
  | 1, hj => cases hj; exact h.at_ 1
  | 2, hj => cases hj; exact h.at_ 2
  | k + 3, hj => simp at hj
theorem sl4 (w : World) (a b c d : Int) (t : TypeId) : Sl (w.alloc (.cells #[.int .i64 a, .int .i64 b, .int .i64 c, .int .i64 d] t)) (.slice (some ⟨w.heap.size, 0, none⟩) 4 4) [a, b, c, d] := by
  refine Or.inr ⟨w.heap.size, 0, 4, rfl, by simp, ?_⟩
  have h := Whole.new w t #[.int .i64 a, .int .i64 b, .int .i64 c, .int .i64 d]
  intro j x hj
  match j, hj with
  | 0, hj => cases hj; exact h.at_ 0
  | 1, hj => cases hj; exact h.at_ 1
  | 2, hj => cases hj; exact h.at_ 2
  | 3, hj => cases hj; exact h.at_ 3
  | k + 4, hj => simp at hj
theorem sl3d (w : World) (a b c : Int) (t : TypeId) : Sl (w.alloc (.cells #[.int .i64 a, .int .i64 b, .int .i64 c] t)).drew (.slice (some ⟨w.heap.size, 0, none⟩) 3 3) [a, b, c] := (sl3 w a b c t).drewN 1
theorem sl4d (w : World) (a b c d : Int) (t : TypeId) : Sl (w.alloc (.cells #[.int .i64 a, .int .i64 b, .int .i64 c, .int .i64 d] t)).drew (.slice (some ⟨w.heap.size, 0, none⟩) 4 4) [a, b, c, d] := (sl4 w a b c d t).drewN 1
theorem bdA3 (w : World) (o : Obj) : Below w.heap.size w (w.alloc o).drew := bt ((Below.refl _ _).alloc (Nat.le_refl _) o) (below_drewW _ 1)
theorem bdA1 (w : World) : Below w.heap.size w w.drew := below_drewW w 1
theorem bdA2 (w : World) (o : Obj) : Below w.heap.size w (w.alloc o) := (Below.refl _ _).alloc (Nat.le_refl _) o
end Go.Proofs.YtecobplmkdlagaaDoor
