/-
  The latest text of a list, and the one before it (chapter 4's latest at strings). No condition of its own.
-/
import Derived.Test.YtaldmdammipfjaaDoorGen
import Derived.Deep.QuietTactic
import Derived.BigQuiet
import Derived.Defers
import Derived.OwnWalk
namespace Go.Proofs.YtaldmdammipfjaaDoor
open Go.RowKit
set_option linter.unusedVariables false
set_option maxRecDepth 100000
theorem latS_keep (g : Nat) (y x : List UInt8) (ex : Bool) (u : FrameMode) (w : World) (h : Whole w g 148 #[.string ⟨y.toArray⟩, .bool ex]) :
    CallsD Tryd.prog 143 #[.pointer (some ⟨g, 0, none⟩), .string ⟨x.toArray⟩] u w fun e u' w' => u' = u ∧ (e = .returned (.tuple #[]) ∧ Whole w' g 148 #[.string ⟨x.toArray⟩, .bool true] ∧ w.grownBy w' (some g)) := by
  have c0 := h.at_ 0
  have c1 := h.at_ 1
  have f0 := h.free 0
  have f1 := h.free 1
  have H := Lib.hid ((h.put 0 (.string ⟨x.toArray⟩)).put 1 (.bool true))
  have G := Lib.hid (only_setCell (p := ⟨g, 1, none⟩) (only_setCell (p := ⟨g, 0, none⟩) (World.grownBy.refl w (some g)) rfl (.string ⟨x.toArray⟩)) rfl (.bool true))
  simp at c0 c1
  clear h
  go_enter_d Tryd.func143, Tryd.ntmps143
  go_wp2
  go_end0
  exact ⟨rfl, by simpa using H.out, G.out⟩
set_option maxHeartbeats 800000 in
theorem latS_pass (g : Nat) (y x : List UInt8) (ex : Bool) (w : World) (h : Whole w g 148 #[.string ⟨y.toArray⟩, .bool ex]) :
    Calls Tryd.prog 113 #[.pointer (some ⟨g, 0, none⟩), .string ⟨x.toArray⟩] w fun e w' => e = .returned (.tuple #[.string ⟨y.toArray⟩, .bool ex]) ∧ Whole w' g 148 #[.string ⟨x.toArray⟩, .bool true] ∧ w.grownBy w' (some g) := by
  have c0 := h.at_ 0
  have c1 := h.at_ 1
  have H := Lib.hid h
  simp at c0 c1
  clear h
  go_enter_defers Tryd.func113, Tryd.ntmps113
  go_wp2
  go_quiet (fail)
  go_wp2
  refine leaves_cons (f := 143) (args := #[.pointer (some ⟨g, 0, none⟩), .string ⟨x.toArray⟩]) (by simp) (by simp [go_sem]) ?_
  refine (latS_keep g y x ex .returning _ (H.out.drewN _)).mono ?_
  rintro e u' w'' ⟨rfl, rfl, h1, h2⟩
  exact ⟨_, results_tmp2 rfl _ _ _, rfl, h1, ⟨h2.os, h2.tape, h2.output, h2.size, h2.block⟩⟩
end Go.Proofs.YtaldmdammipfjaaDoor
