/-
  A layer written into a block that is known whole. No condition of its own.
-/
import Derived.Test.YtbdhdlgenfpjgaaDoorLays
namespace Go.Proofs.YtbdhdlgenfpjgaaDoor
open Go.RowKit
set_option linter.unusedVariables false
set_option maxRecDepth 100000

/-- a new block with no layer in it, a layer written into it -/
theorem zero_put {w : World} {g : Nat} {t : TypeId} {a b c d e f h : Int} (hw : Whole w g t #[.int .i64 a, .int .i64 b, .int .i64 c, .int .i64 d, .int .i64 e, .int .i64 f, .int .i64 h]) (y : Lay) :
    Whole ((((((((w.setCell ⟨g, 0, none⟩ (.int .i64 y.fo)).setCell ⟨g, 1, none⟩ (.int .i64 y.ic)).setCell ⟨g, 2, none⟩ (.int .i64 y.wa)).setCell ⟨g, 3, none⟩ (.int .i64 y.de)).setCell ⟨g, 4, none⟩ (.int .i64 y.dg)).setCell ⟨g, 5, none⟩ (.int .i64 y.ha)).setCell ⟨g, 6, none⟩ (.int .i64 y.ag))) g t #[.int .i64 y.fo, .int .i64 y.ic, .int .i64 y.wa, .int .i64 y.de, .int .i64 y.dg, .int .i64 y.ha, .int .i64 y.ag] := by
  have := ((((((hw.put 0 (.int .i64 y.fo)).put 1 (.int .i64 y.ic)).put 2 (.int .i64 y.wa)).put 3 (.int .i64 y.de)).put 4 (.int .i64 y.dg)).put 5 (.int .i64 y.ha)).put 6 (.int .i64 y.ag)
  simpa using this
theorem put_below {w0 w : World} {g : Nat} (h : Below w0.heap.size w0 w) (hg : w0.heap.size ≤ g) (y : Lay) : Below w0.heap.size w0 (((((((w.setCell ⟨g, 0, none⟩ (.int .i64 y.fo)).setCell ⟨g, 1, none⟩ (.int .i64 y.ic)).setCell ⟨g, 2, none⟩ (.int .i64 y.wa)).setCell ⟨g, 3, none⟩ (.int .i64 y.de)).setCell ⟨g, 4, none⟩ (.int .i64 y.dg)).setCell ⟨g, 5, none⟩ (.int .i64 y.ha)).setCell ⟨g, 6, none⟩ (.int .i64 y.ag)) :=
  ((((((h.setCell (p := ⟨g, 0, none⟩) hg _).setCell (p := ⟨g, 1, none⟩) hg _).setCell (p := ⟨g, 2, none⟩) hg _).setCell (p := ⟨g, 3, none⟩) hg _).setCell (p := ⟨g, 4, none⟩) hg _).setCell (p := ⟨g, 5, none⟩) hg _).setCell (p := ⟨g, 6, none⟩) hg _
theorem Whole.seven {w : World} {g : Nat} {t : TypeId} {a b c d e f h : Int} (hw : Whole w g t #[.int .i64 a, .int .i64 b, .int .i64 c, .int .i64 d, .int .i64 e, .int .i64 f, .int .i64 h]) :
    w.cell? ⟨g, 0, none⟩ = some (.int .i64 a) ∧ w.cell? ⟨g, 1, none⟩ = some (.int .i64 b) ∧ w.cell? ⟨g, 2, none⟩ = some (.int .i64 c) ∧ w.cell? ⟨g, 3, none⟩ = some (.int .i64 d) ∧ w.cell? ⟨g, 4, none⟩ = some (.int .i64 e) ∧ w.cell? ⟨g, 5, none⟩ = some (.int .i64 f) ∧ w.cell? ⟨g, 6, none⟩ = some (.int .i64 h) :=
  ⟨hw.at_ 0, hw.at_ 1, hw.at_ 2, hw.at_ 3, hw.at_ 4, hw.at_ 5, hw.at_ 6⟩
end Go.Proofs.YtbdhdlgenfpjgaaDoor
