/-
  The text of one observation, by the model and by the program, and back. No condition of its own.
-/
import Derived.Test.YtdfmgdmekflmeaaDoorObsO
import Derived.Test.YtdfmgdmekflmeaaDoorList
import Derived.Test.YtdfmgdmekflmeaaDoorReadL
import Derived.Deep.RegionHeld3
namespace Go.Proofs.YtdfmgdmekflmeaaDoor
open Go.RowKit Go.ChangeShapes Go.WideShapes Go.Deep
set_option linter.unusedVariables false
set_option maxRecDepth 100000

/-- four numbers that have just been laid one after the other -/
theorem sl_four (w : World) (a b c d : Int) (t : TypeId) : Sl (w.alloc (.cells #[.int .i64 a, .int .i64 b, .int .i64 c, .int .i64 d] t)) (.slice (some ⟨w.heap.size, 0, none⟩) 4 4) [a, b, c, d] := by
  refine Or.inr ⟨w.heap.size, 0, 4, rfl, by simp, ?_⟩
  have h := Whole.new w t #[.int .i64 a, .int .i64 b, .int .i64 c, .int .i64 d]
  intro j x hj
  match j, hj with
  | 0, hj => cases hj; exact h.at_ 0
  | 1, hj => cases hj; exact h.at_ 1
  | 2, hj => cases hj; exact h.at_ 2
  | 3, hj => cases hj; exact h.at_ 3
  | k + 4, hj => simp at hj
theorem Sl.drew {w : World} {v : Value} {zs : List Int} (h : Sl w v zs) : Sl w.drew v zs := h.drewN 1
theorem sl_four_drew (w : World) (a b c d : Int) (t : TypeId) : Sl (w.alloc (.cells #[.int .i64 a, .int .i64 b, .int .i64 c, .int .i64 d] t)).drew (.slice (some ⟨w.heap.size, 0, none⟩) 4 4) [a, b, c, d] := (sl_four w a b c d t).drew

namespace Ob
/-- an observation's text -/
def tx (x : Obs) : List UInt8 := if okO x = true then lt [x.ho, x.sn, x.dg, x.wi] else []
theorem fit_ok {x : Obs} (h : okO x = true) : fitB [x.ho, x.sn, x.dg, x.wi] = true := by
  have := (okO_iff x).1 h
  obtain ⟨h1, h2, h3, h4⟩ := this
  unfold fitB okV Ar.inB
  simp
  omega
theorem bd_ok {x : Obs} (h : okO x = true) : ∀ z ∈ [x.ho, x.sn, x.dg, x.wi], -9223372036854775808 ≤ z ∧ z ≤ 9223372036854775807 := fit_bd (fit_ok h)
theorem lt_ok {x : Obs} (h : okO x = true) : ltext [x.ho, x.sn, x.dg, x.wi] = tx x := by unfold ltext tx; rw [if_pos (fit_ok h), if_pos h]
end Ob

set_option maxHeartbeats 1600000 in
theorem l04Text_any (x : Obs) (b : Nat) (w : World) (h : ObCells w b 0 x) (hx : Ob.okO x = true) :
    Calls Tryd.prog 33 #[.pointer (some ⟨b, 0, none⟩)] w fun e w' => e = .returned (.string ⟨(Ob.tx x).toArray⟩) ∧ Below w.heap.size w w' := by
  obtain ⟨c0, c1, c2, c3⟩ := h.zero
  have hb := Lib.hid (Ob.bd_ok hx)
  have hT : Hid (lt [x.ho, x.sn, x.dg, x.wi] = Ob.tx x) := Lib.hid (by unfold Ob.tx; rw [if_pos hx])
  have C := Lib.hid (l01List_any (w.alloc (.cells #[.int .i64 x.ho, .int .i64 x.sn, .int .i64 x.dg, .int .i64 x.wi] 2)).drew (.slice (some ⟨w.heap.size, 0, none⟩) 4 4) [x.ho, x.sn, x.dg, x.wi] (sl_four_drew w _ _ _ _ _) (by simp) hb.out)
  go_enter Tryd.func33, Tryd.ntmps33
  go_wp2
  go_region_with (refine C.out.mono ?_; rintro e w1 ⟨rfl, b1⟩)
  all_goals (
    go_wp2
    go_ret
    exact ⟨congrArg (fun l : List UInt8 => Ending.returned (.string ⟨l.toArray⟩)) hT.out, bt ((Below.refl w.heap.size w).alloc (Nat.le_refl _) _) (drew_below b1)⟩)
end Go.Proofs.YtdfmgdmekflmeaaDoor
