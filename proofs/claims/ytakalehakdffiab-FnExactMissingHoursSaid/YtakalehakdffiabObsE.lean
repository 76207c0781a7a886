/-
  The generic 'latest' at observations: an element is kept, and the one before it handed back. No condition of its own.
-/
import Derived.Test.YtakalehakdffiabObsC
import Derived.RegionTactic
import Derived.ChangeAlike
import Derived.Deep.RegionHeld3
namespace Go.Proofs.Ytakalehakdffiab
open Go.RowKit Go.Shelf
set_option linter.unusedVariables false
set_option maxRecDepth 100000

/-- the block of a 'latest' of observations -/
def LatO (w : World) (g : Nat) (y : Obs) (ex : Bool) : Prop := Whole w g 104 #[.int .i64 y.ho, .int .i64 y.sn, .int .i64 y.dg, .int .i64 y.wi, .bool ex]
theorem LatO.cells {w : World} {g : Nat} {y : Obs} {ex : Bool} (h : LatO w g y ex) : w.cell? ⟨g, 0, none⟩ = some (.int .i64 y.ho) ∧ w.cell? ⟨g, 1, none⟩ = some (.int .i64 y.sn) ∧ w.cell? ⟨g, 2, none⟩ = some (.int .i64 y.dg) ∧
    w.cell? ⟨g, 3, none⟩ = some (.int .i64 y.wi) ∧ w.cell? ⟨g, 4, none⟩ = some (.bool ex) := ⟨h.at_ 0, h.at_ 1, h.at_ 2, h.at_ 3, h.at_ 4⟩
def setO (w : World) (g : Nat) (x : Obs) : World := ((((w.setCell ⟨g, 0, none⟩ (.int .i64 x.ho)).setCell ⟨g, 1, none⟩ (.int .i64 x.sn)).setCell ⟨g, 2, none⟩ (.int .i64 x.dg)).setCell ⟨g, 3, none⟩ (.int .i64 x.wi)).setCell ⟨g, 4, none⟩ (.bool true)
theorem LatO.set_ {w : World} {g : Nat} {y : Obs} {ex : Bool} (h : LatO w g y ex) (x : Obs) : LatO (setO w g x) g x true := by
  have := ((((h.put 0 (.int .i64 x.ho)).put 1 (.int .i64 x.sn)).put 2 (.int .i64 x.dg)).put 3 (.int .i64 x.wi)).put 4 (.bool true)
  unfold LatO setO
  simpa using this
theorem only_setO (w : World) (g : Nat) (x : Obs) : w.grownBy (setO w g x) (some g) :=
  only_setCell (p := ⟨g, 4, none⟩) (only_setCell (p := ⟨g, 3, none⟩) (only_setCell (p := ⟨g, 2, none⟩) (only_setCell (p := ⟨g, 1, none⟩) (only_setCell (p := ⟨g, 0, none⟩) (World.grownBy.refl w (some g)) rfl _) rfl _) rfl _) rfl _) rfl _
set_option maxHeartbeats 800000 in
theorem latO_keep (g : Nat) (y x : Obs) (ex : Bool) (u : FrameMode) (w : World) (h : LatO w g y ex) :
    CallsD Try.prog 83 #[.pointer (some ⟨g, 0, none⟩), .agg #[.int .i64 x.ho, .int .i64 x.sn, .int .i64 x.dg, .int .i64 x.wi]] u w fun e u' w' => u' = u ∧ (e = .returned (.tuple #[]) ∧ LatO w' g x true ∧ w.grownBy w' (some g)) := by
  obtain ⟨c0, c1, c2, c3, c4⟩ := h.cells
  have hlt := h.lt
  have H := fun o => Lib.hid (Whole.alloc (h.set_ x) o)
  have G := fun o => Lib.hid (only_alloc (only_setO w g x) o)
  have n0 := World.new_ne w _ c0
  have n1 := World.new_ne w _ c1
  have n2 := World.new_ne w _ c2
  have n3 := World.new_ne w _ c3
  have n4 := World.new_ne w _ c4
  have f0 := h.free 0
  have f1 := h.free 1
  have f2 := h.free 2
  have f3 := h.free 3
  have f4 := h.free 4
  clear h
  go_enter_d Try.func83, Try.ntmps83
  go_wp2
  go_end0
  exact ⟨rfl, (H _).out, (G _).out⟩
set_option maxHeartbeats 1600000 in
theorem latO_pass (g : Nat) (y x : Obs) (ex : Bool) (w : World) (h : LatO w g y ex) :
    Calls Try.prog 84 #[.pointer (some ⟨g, 0, none⟩), .agg #[.int .i64 x.ho, .int .i64 x.sn, .int .i64 x.dg, .int .i64 x.wi]] w fun e w' => e = .returned (.tuple #[.agg #[.int .i64 y.ho, .int .i64 y.sn, .int .i64 y.dg, .int .i64 y.wi], .bool ex]) ∧ LatO w' g x true ∧ w.grownBy w' (some g) := by
  obtain ⟨c0, c1, c2, c3, c4⟩ := h.cells
  have hlt := h.lt
  have H := Lib.hid h
  have n0 := World.new_ne w _ c0
  have Y : Hid (Whole ((w.alloc (.cells #[.int .i64 x.ho, .int .i64 x.sn, .int .i64 x.dg, .int .i64 x.wi] 30)).alloc (.cells #[.int .i64 y.ho, .int .i64 y.sn, .int .i64 y.dg, .int .i64 y.wi] 30)) (w.heap.size + 1) 30 #[.int .i64 y.ho, .int .i64 y.sn, .int .i64 y.dg, .int .i64 y.wi]) := Lib.hid (by
    have := Whole.new (w.alloc (.cells #[.int .i64 x.ho, .int .i64 x.sn, .int .i64 x.dg, .int .i64 x.wi] 30)) 30 #[.int .i64 y.ho, .int .i64 y.sn, .int .i64 y.dg, .int .i64 y.wi]
    simpa using this)
  clear h
  go_enter_defers Try.func84, Try.ntmps84
  go_wp2
  go_region
  all_goals
    go_wp2
    refine leaves_cons (f := 83) (args := #[.pointer (some ⟨g, 0, none⟩), .agg #[.int .i64 x.ho, .int .i64 x.sn, .int .i64 x.dg, .int .i64 x.wi]]) (by simp) (by simp [go_sem]) ?_
    refine (latO_keep g y x ex .returning _ ?_).mono ?_
    · exact Whole.alloc (Whole.alloc H.out _) _
    rintro e u' w'' ⟨rfl, rfl, h1, h2⟩
    have hy : Whole w'' (w.heap.size + 1) 30 #[.int .i64 y.ho, .int .i64 y.sn, .int .i64 y.dg, .int .i64 y.wi] := Whole.far Y.out ⟨h2.os, h2.tape, h2.output, h2.size, h2.block⟩ (by omega)
    have d0 := hy.at_ 0
    have d1 := hy.at_ 1
    have d2 := hy.at_ 2
    have d3 := hy.at_ 3
    simp at d0 d1 d2 d3
    refine ⟨.tuple #[.agg #[.int .i64 y.ho, .int .i64 y.sn, .int .i64 y.dg, .int .i64 y.wi], .bool ex], by simp [results, Try.results84, go_sem, d0, d1, d2, d3], rfl, h1, ?_⟩
    exact only_trans (only_alloc (only_alloc (World.grownBy.refl w (some g)) _) _) ⟨h2.os, h2.tape, h2.output, h2.size, h2.block⟩
end Go.Proofs.Ytakalehakdffiab
