/-
  When a path is valid, by the model; its tangents, legs and lines (chapter 14). No condition of its own.
-/
import Derived.Test.YtmieckchppfogaaGreatDoorPthF
import Derived.Test.YtmieckchppfogaaGreatDoorAgN
import Derived.Test.YtmieckchppfogaaGreatDoorCd
import Derived.Test.YtmieckchppfogaaGreatDoorUnits
import Derived.Test.YtmieckchppfogaaGreatDoorLine
namespace Go.Proofs.YtmieckchppfogaaGreatDoor
open Go.RowKit Go.Shelf
set_option linter.unusedVariables false
set_option maxRecDepth 100000

/-- the cells of the points of a path -/
def PtAt (w : World) (b off : Nat) (xs : List Pth) : Prop := ∀ k, k < xs.length → w.cell? ⟨b, off + k * 2, none⟩ = some (.int .i64 (An.nd xs k).di) ∧ w.cell? ⟨b, off + k * 2 + 1, none⟩ = some (.int .i64 (An.nd xs k).he)
theorem PtAt.below {w w1 : World} {b off : Nat} {xs : List Pth} (h : PtAt w b off xs) (hb : Below w.heap.size w w1) : PtAt w1 b off xs := fun k hk => by
  obtain ⟨c0, c1⟩ := h k hk
  have hlt := World.block_lt_of_cell? w _ c0
  exact ⟨(hb.cell (p := ⟨b, off + k * 2, none⟩) hlt).trans c0, (hb.cell (p := ⟨b, off + k * 2 + 1, none⟩) hlt).trans c1⟩
theorem PtAt.zero {w : World} {b off : Nat} {xs : List Pth} (h : PtAt w b off xs) (h0 : 0 < xs.length) : w.cell? ⟨b, off, none⟩ = some (.int .i64 (An.nd xs 0).di) ∧ w.cell? ⟨b, off + 1, none⟩ = some (.int .i64 (An.nd xs 0).he) := by
  have := h 0 h0
  rw [Nat.zero_mul, Nat.add_zero] at this; exact this
theorem PpSl.pts {w : World} {v : Value} {xs : List Pth} (h : PpSl w v xs) (h0 : 0 < xs.length) : ∃ b off cap, v = .slice (some ⟨b, off, none⟩) xs.length cap ∧ PtAt w b off xs := by
  obtain ⟨b, off, cap, hn, hbl, hc⟩ := h.at_ h0
  refine ⟨b, off, cap, hn, fun k hk => ?_⟩
  rw [An.nd_at hk]
  obtain ⟨c0, c1⟩ := hc k hk
  exact ⟨c0, c1⟩

end Go.Proofs.YtmieckchppfogaaGreatDoor
