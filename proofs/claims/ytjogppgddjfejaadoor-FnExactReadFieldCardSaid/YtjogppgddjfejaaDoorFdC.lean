/-
  Rows of numbers: copied, compared, added up, looked through, by the program and by the model. No condition of its own.
-/
import Derived.Test.YtjogppgddjfejaaDoorFdO
import Derived.Test.YtjogppgddjfejaaDoorIntG
import Derived.Laws.AppendOwn
import Derived.Laws.OwnMore
import Derived.Lib.SliceRun
namespace Go.Proofs.YtjogppgddjfejaaDoor
open Go.RowKit Go.Shelf
set_option linter.unusedVariables false
set_option maxRecDepth 100000

/-- an argument that is a row of numbers of somebody's own -/
def IAt (w : World) (v : Value) (zs : List Int) : Prop := ∃ B b cap, v = .slice (some ⟨b, 0, none⟩) zs.length cap ∧ Own B w v zs
theorem IAt.sl {w : World} {v : Value} {zs : List Int} (h : IAt w v zs) : Sl w v zs := by obtain ⟨B, b, cap, rfl, ho⟩ := h; exact ho.sl
theorem IAt.all {w w1 : World} {v : Value} {zs : List Int} (h : IAt w v zs) (hb : Below w.heap.size w w1) : IAt w1 v zs := by
  obtain ⟨B, b, cap, rfl, ho⟩ := h; exact ⟨B, b, cap, rfl, ho.belowAll hb⟩
theorem Own.at_ {B g n cap : Nat} {w : World} {zs : List Int} (h : Own B w (.slice (some ⟨g, 0, none⟩) n cap) zs) (hn : n = zs.length) : IAt w (.slice (some ⟨g, 0, none⟩) n cap) zs := by subst hn; exact ⟨B, g, cap, rfl, h⟩
theorem Own.le {B B' : Nat} {w : World} {v : Value} {zs : List Int} (h : Own B w v zs) (hb : B' ≤ B) : Own B' w v zs := Go.Joins.ownsRow_le h hb
theorem Own.nil (B : Nat) (w : World) : Own B w (.slice none 0 0) [] := World.ownsRow_nil _ _ _ _
theorem Own.drewN {B : Nat} {w : World} {v : Value} {zs : List Int} (h : Own B w v zs) (q : Nat) : Own B (w.drewN q) v zs := h.belowAll (below_drewW w q)
/-- how a call ends that answers numbers of its own -/
def RN (w : World) (zs : List Int) (e : Ending) (w' : World) : Prop := ∃ g cap, e = .returned (.slice (some ⟨g, 0, none⟩) zs.length cap) ∧ Own w.heap.size w' (.slice (some ⟨g, 0, none⟩) zs.length cap) zs ∧ Below w.heap.size w w'
theorem own_len {B g n cap : Nat} {w : World} {zs : List Int} (h : Own B w (.slice (some ⟨g, 0, none⟩) n cap) zs) : n = zs.length := by
  rcases h.2 with ⟨hv, _⟩ | ⟨g', cap', cur, hv, _⟩
  · cases hv
  · simp only [Value.slice.injEq] at hv; omega
theorem RN.yes {w w' : World} {g n cap : Nat} {xs ys : List Int} (h : xs = ys) (ho : Own w.heap.size w' (.slice (some ⟨g, 0, none⟩) n cap) ys) (hb : Below w.heap.size w w') : RN w xs (.returned (.slice (some ⟨g, 0, none⟩) n cap)) w' := by
  subst h
  have := own_len ho
  subst this
  exact ⟨g, cap, rfl, ho, hb⟩
end Go.Proofs.YtjogppgddjfejaaDoor
