/-
  Numbers that strictly increase, by the program; indices below a count; the code of an ordered list. No condition of its own.
-/
import Derived.Test.YtmieckchppfogaaGreatDoorRlA
import Derived.OwnWalk
namespace Go.Proofs.YtmieckchppfogaaGreatDoor
open Go.RowKit Go.Shelf
set_option linter.unusedVariables false
set_option maxRecDepth 100000
theorem latI_keep (g : Nat) (y x : Int) (ex : Bool) (u : FrameMode) (w : World) (h : Whole w g 105 #[.int .i64 y, .bool ex]) :
    CallsD Tryz.prog 89 #[.pointer (some ⟨g, 0, none⟩), .int .i64 x] u w fun e u' w' => u' = u ∧ (e = .returned (.tuple #[]) ∧ Whole w' g 105 #[.int .i64 x, .bool true] ∧ w.grownBy w' (some g)) := by
  have c0 := h.at_ 0
  have c1 := h.at_ 1
  have f0 := h.free 0
  have f1 := h.free 1
  have H := Lib.hid ((h.put 0 (.int .i64 x)).put 1 (.bool true))
  have G := Lib.hid (only_setCell (p := ⟨g, 1, none⟩) (only_setCell (p := ⟨g, 0, none⟩) (World.grownBy.refl w (some g)) rfl (.int .i64 x)) rfl (.bool true))
  simp at c0 c1
  clear h
  go_enter_d Tryz.func89, Tryz.ntmps89
  go_wp2
  go_end0
  exact ⟨rfl, by simpa using H.out, G.out⟩
set_option maxHeartbeats 800000 in
theorem latI_pass (g : Nat) (y x : Int) (ex : Bool) (w : World) (h : Whole w g 105 #[.int .i64 y, .bool ex]) :
    Calls Tryz.prog 76 #[.pointer (some ⟨g, 0, none⟩), .int .i64 x] w fun e w' => e = .returned (.tuple #[.int .i64 y, .bool ex]) ∧ Whole w' g 105 #[.int .i64 x, .bool true] ∧ w.grownBy w' (some g) := by
  have c0 := h.at_ 0
  have c1 := h.at_ 1
  have H := Lib.hid h
  simp at c0 c1
  clear h
  go_enter_defers Tryz.func76, Tryz.ntmps76
  go_wp2
  go_quiet (fail)
  go_wp2
  refine leaves_cons (f := 89) (args := #[.pointer (some ⟨g, 0, none⟩), .int .i64 x]) (by simp) (by simp [go_sem]) ?_
  refine (latI_keep g y x ex .returning _ (H.out.drewN _)).mono ?_
  rintro e u' w'' ⟨rfl, rfl, h1, h2⟩
  exact ⟨_, results_tmp2 rfl _ _ _, rfl, h1, ⟨h2.os, h2.tape, h2.output, h2.size, h2.block⟩⟩
/-- the code of an ordered list -/
def odC (a b o : Bool) : Int := Cd.cd a b (if o then 0 else 7)
end Go.Proofs.YtmieckchppfogaaGreatDoor
