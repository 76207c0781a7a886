/-
  The text of one part, by the model and by the program, and back. No condition of its own.
-/
import Derived.Test.YtobcflcmlejajaaDoorVoA
import Derived.Test.YtobcflcmlejajaaDoorList
import Derived.Test.YtobcflcmlejajaaDoorReadL
import Derived.Deep.RegionHeld3
namespace Go.Proofs.YtobcflcmlejajaaDoor
open Go.RowKit Go.ChangeShapes Go.WideShapes Go.Deep
set_option linter.unusedVariables false
set_option maxRecDepth 100000

/-- four numbers that have just been laid one after the other -/
theorem sl_four (w : World) (a b c d : Int) (t : TypeId) : Sl (w.alloc (.cells #[.int .i64 a, .int .i64 b, .int .i64 c, .int .i64 d] t)) (.slice (some ⟨w.heap.size, 0, none⟩) 4 4) [a, b, c, d] := by
  refine Or.inr ⟨w.heap.size, 0, 4, rfl, by simp, ?_⟩
  have h := Whole.new w t #[.int .i64 a, .int .i64 b, .int .i64 c, .int .i64 d]
  intro j x hj
  match j, hj with
  | 0, hj => cases hj; exact h.at_ 0
  | 1, hj => cases hj; exact h.at_ 1
  | 2, hj => cases hj; exact h.at_ 2
  | 3, hj => cases hj; exact h.at_ 3
  | k + 4, hj => simp at hj
theorem Sl.drew {w : World} {v : Value} {zs : List Int} (h : Sl w v zs) : Sl w.drew v zs := h.drewN 1
theorem sl_four_drew (w : World) (a b c d : Int) (t : TypeId) : Sl (w.alloc (.cells #[.int .i64 a, .int .i64 b, .int .i64 c, .int .i64 d] t)).drew (.slice (some ⟨w.heap.size, 0, none⟩) 4 4) [a, b, c, d] := (sl_four w a b c d t).drew

namespace Vm
/-- an part's text -/
def tx (x : Pat) : List UInt8 := if okP x = true then lt [x.le, x.wi, x.de, x.dn] else []
theorem fit_ok {x : Pat} (h : okP x = true) : fitB [x.le, x.wi, x.de, x.dn] = true := by
  have := (okP_iff x).1 h
  obtain ⟨h1, h2, h3, h4⟩ := this
  unfold fitB okV Ar.inB
  simp
  omega
theorem bd_ok {x : Pat} (h : okP x = true) : ∀ z ∈ [x.le, x.wi, x.de, x.dn], -9223372036854775808 ≤ z ∧ z ≤ 9223372036854775807 := fit_bd (fit_ok h)
theorem lt_ok {x : Pat} (h : okP x = true) : ltext [x.le, x.wi, x.de, x.dn] = tx x := by unfold ltext tx; rw [if_pos (fit_ok h), if_pos h]
end Vm

set_option maxHeartbeats 1600000 in
theorem l12Text_any (x : Pat) (b : Nat) (w : World) (h : PaCells w b 0 x) (hx : Vm.okP x = true) :
    Calls Tryd.prog 82 #[.pointer (some ⟨b, 0, none⟩)] w fun e w' => e = .returned (.string ⟨(Vm.tx x).toArray⟩) ∧ Below w.heap.size w w' := by
  obtain ⟨c0, c1, c2, c3⟩ := h.zero
  have hb := Lib.hid (Vm.bd_ok hx)
  have hT : Hid (lt [x.le, x.wi, x.de, x.dn] = Vm.tx x) := Lib.hid (by unfold Vm.tx; rw [if_pos hx])
  have C := Lib.hid (l01List_any (w.alloc (.cells #[.int .i64 x.le, .int .i64 x.wi, .int .i64 x.de, .int .i64 x.dn] 2)).drew (.slice (some ⟨w.heap.size, 0, none⟩) 4 4) [x.le, x.wi, x.de, x.dn] (sl_four_drew w _ _ _ _ _) (by simp) hb.out)
  go_enter Tryd.func82, Tryd.ntmps82
  go_wp2
  go_region_with (refine C.out.mono ?_; rintro e w1 ⟨rfl, b1⟩)
  all_goals (
    go_wp2
    go_ret
    exact ⟨congrArg (fun l : List UInt8 => Ending.returned (.string ⟨l.toArray⟩)) hT.out, bt ((Below.refl w.heap.size w).alloc (Nat.le_refl _) _) (drew_below b1)⟩)
end Go.Proofs.YtobcflcmlejajaaDoor
