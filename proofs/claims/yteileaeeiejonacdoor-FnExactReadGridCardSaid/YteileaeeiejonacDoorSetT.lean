/-
  A test written into a block of its own. No condition of its own.
-/
import Derived.Test.YteileaeeiejonacDoorTstS
namespace Go.Proofs.YteileaeeiejonacDoor
open Go.RowKit Go.ChangeShapes Go.WideShapes
set_option linter.unusedVariables false
set_option maxRecDepth 100000

def setQ (w : World) (g : Nat) (x : Tst) : World := ((((w.setCell ⟨g, 0, none⟩ (.int .i64 x.ki)).setCell ⟨g, 1, none⟩ (.int .i64 x.sc)).setCell ⟨g, 2, none⟩ (.int .i64 x.qu)).setCell ⟨g, 3, none⟩ (.int .i64 x.de)).setCell ⟨g, 4, none⟩ (.int .i64 x.ho)
def qcs (x : Tst) : Array Value := #[.int .i64 x.ki, .int .i64 x.sc, .int .i64 x.qu, .int .i64 x.de, .int .i64 x.ho]
theorem setQ_whole {w : World} {g : Nat} {t : TypeId} {y : Tst} (h : Whole w g t (qcs y)) (x : Tst) : Whole (setQ w g x) g t (qcs x) := by
  have := ((((h.put 0 (.int .i64 x.ki)).put 1 (.int .i64 x.sc)).put 2 (.int .i64 x.qu)).put 3 (.int .i64 x.de)).put 4 (.int .i64 x.ho)
  unfold setQ
  simpa [qcs] using this
theorem setQ_below {B : Nat} {w0 w : World} {g : Nat} (h : Below B w0 w) (hg : B ≤ g) (x : Tst) : Below B w0 (setQ w g x) :=
  ((((h.setCell (p := ⟨g, 0, none⟩) hg _).setCell (p := ⟨g, 1, none⟩) hg _).setCell (p := ⟨g, 2, none⟩) hg _).setCell (p := ⟨g, 3, none⟩) hg _).setCell (p := ⟨g, 4, none⟩) hg _
theorem setQ_only (w : World) (g : Nat) (x : Tst) : w.grownBy (setQ w g x) (some g) := by
  have h1 := only_setCell (a := w) (w := w) (g := g) (p := ⟨g, 0, none⟩) (World.grownBy.refl _ _) rfl (.int .i64 x.ki)
  have h2 := only_setCell (p := ⟨g, 1, none⟩) h1 rfl (.int .i64 x.sc)
  have h3 := only_setCell (p := ⟨g, 2, none⟩) h2 rfl (.int .i64 x.qu)
  have h4 := only_setCell (p := ⟨g, 3, none⟩) h3 rfl (.int .i64 x.de)
  exact only_setCell (p := ⟨g, 4, none⟩) h4 rfl (.int .i64 x.ho)
theorem qcs_five {w : World} {g : Nat} {t : TypeId} {y : Tst} (h : Whole w g t (qcs y)) : (w.cell? ⟨g, 0, none⟩ = some (.int .i64 y.ki) ∧ w.cell? ⟨g, 1, none⟩ = some (.int .i64 y.sc) ∧ w.cell? ⟨g, 2, none⟩ = some (.int .i64 y.qu) ∧ w.cell? ⟨g, 3, none⟩ = some (.int .i64 y.de) ∧ w.cell? ⟨g, 4, none⟩ = some (.int .i64 y.ho)) ∧
    (w.frozen? ⟨g, 0, none⟩ = false ∧ w.frozen? ⟨g, 1, none⟩ = false ∧ w.frozen? ⟨g, 2, none⟩ = false ∧ w.frozen? ⟨g, 3, none⟩ = false ∧ w.frozen? ⟨g, 4, none⟩ = false) :=
  ⟨⟨h.at_ 0, h.at_ 1, h.at_ 2, h.at_ 3, h.at_ 4⟩, h.free 0, h.free 1, h.free 2, h.free 3, h.free 4⟩
theorem qcs_zero {w : World} {g : Nat} {t : TypeId} (h : Whole w g t (qcs ⟨0, 0, 0, 0, 0⟩)) : (w.cell? ⟨g, 0, none⟩ = some (.int .i64 0) ∧ w.cell? ⟨g, 1, none⟩ = some (.int .i64 0) ∧ w.cell? ⟨g, 2, none⟩ = some (.int .i64 0) ∧ w.cell? ⟨g, 3, none⟩ = some (.int .i64 0) ∧ w.cell? ⟨g, 4, none⟩ = some (.int .i64 0)) ∧
    (w.frozen? ⟨g, 0, none⟩ = false ∧ w.frozen? ⟨g, 1, none⟩ = false ∧ w.frozen? ⟨g, 2, none⟩ = false ∧ w.frozen? ⟨g, 3, none⟩ = false ∧ w.frozen? ⟨g, 4, none⟩ = false) := qcs_five h
theorem qcs_cells {w : World} {g : Nat} {t : TypeId} {y : Tst} (h : Whole w g t (qcs y)) : TeCells w g 0 y := ⟨h.at_ 0, h.at_ 1, h.at_ 2, h.at_ 3, h.at_ 4⟩
end Go.Proofs.YteileaeeiejonacDoor
