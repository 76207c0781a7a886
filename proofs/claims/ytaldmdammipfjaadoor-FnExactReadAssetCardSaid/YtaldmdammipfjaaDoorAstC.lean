/-
  The cells of one Asset in a block of its own. No condition of its own.
-/
import Derived.Test.YtaldmdammipfjaaDoorAstL
namespace Go.Proofs.YtaldmdammipfjaaDoor
open Go.RowKit Go.Deep
set_option linter.unusedVariables false
set_option maxRecDepth 100000
/-- the cells of one in a block of its own, its list in v -/
structure AsC (w : World) (b : Nat) (x : Ast) (v : Value) : Prop where
  c0 : w.cell? ⟨b, 0, none⟩ = some (.string ⟨x.id.toArray⟩)
  c1 : w.cell? ⟨b, 1, none⟩ = some (v)
  c2 : w.cell? ⟨b, 2, none⟩ = some (.int .i64 x.wo)
theorem AsC.lt {w : World} {b : Nat} {x : Ast} {v : Value} (h : AsC w b x v) : b < w.heap.size := World.block_lt_of_cell? w _ h.c0
theorem AsC.all {w w1 : World} {b : Nat} {x : Ast} {v : Value} (h : AsC w b x v) (hb : Below w.heap.size w w1) : AsC w1 b x v :=
  ⟨(hb.cell (p := ⟨b, 0, none⟩) h.lt).trans h.c0, (hb.cell (p := ⟨b, 1, none⟩) h.lt).trans h.c1, (hb.cell (p := ⟨b, 2, none⟩) h.lt).trans h.c2⟩
theorem AsC.each {w : World} {b : Nat} {x : Ast} {v : Value} (h : AsC w b x v) : w.cell? ⟨b, 0, none⟩ = some (.string ⟨x.id.toArray⟩) ∧ w.cell? ⟨b, 1, none⟩ = some (v) ∧ w.cell? ⟨b, 2, none⟩ = some (.int .i64 x.wo) := ⟨h.c0, h.c1, h.c2⟩
theorem AsC.grow {w w1 : World} {b : Nat} {x : Ast} {v : Value} {r : Option Nat} (h : AsC w b x v) (hb : w.grownBy w1 r) (hg : ∀ j, r = some j → b ≠ j) : AsC w1 b x v := by
  have e : w1.heap[b]? = w.heap[b]? := hb.block b h.lt (fun e => hg b e.symm rfl)
  exact ⟨by unfold World.cell?; rw [e]; exact h.c0, by unfold World.cell?; rw [e]; exact h.c1, by unfold World.cell?; rw [e]; exact h.c2⟩
theorem boxAst_cells (w : World) (x : Ast) (u : Value) (t : TypeId) : AsC (boxAst w x u t) w.heap.size x u := by
  have h := boxAst_whole w x u t
  exact ⟨h.at_ 0, h.at_ 1, h.at_ 2⟩
end Go.Proofs.YtaldmdammipfjaaDoor
