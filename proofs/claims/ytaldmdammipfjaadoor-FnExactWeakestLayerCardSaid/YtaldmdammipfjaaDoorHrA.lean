/-
  Chapter 5's small parts: codes, least numbers, a layer that settles; by the program and by the model. No condition of its own.
-/
import Derived.Test.YtaldmdammipfjaaDoorSum3
import Derived.Test.YtaldmdammipfjaaDoorHr
namespace Go.Proofs.YtaldmdammipfjaaDoor
open Go.RowKit Go.Shelf
set_option linter.unusedVariables false
set_option maxRecDepth 100000

/-- the code of a call whose arguments are valid or not, and whose numbers are as stated or not -/
def stc (a b : Bool) : Int := if a then (if b then 0 else 2) else 1
set_option maxHeartbeats 400000 in
theorem statedCode_any (a b : Bool) (w : World) : Calls Tryd.prog 72 #[.bool a, .bool b] w fun e w' => e = .returned (.int .i64 (stc a b)) ∧ w = w' := by
  cases a <;> cases b <;> (go_enter Tryd.func72, Tryd.ntmps72; go_wp2; go_ret; exact ⟨rfl, rfl⟩)
set_option maxHeartbeats 400000 in
theorem l00Min_any (a b : Int) (w : World) :
    Calls Tryd.prog 134 #[.int .i64 a, .int .i64 b] w fun e w' => e = .returned (.int .i64 (min a b)) ∧ w = w' := by
  by_cases h : a < b
  · have hr : Hid (min a b = a) := Lib.hid (by omega)
    go_enter Tryd.func134, Tryd.ntmps134
    go_wp2
    go_ret
    exact ⟨ret_int hr.out.symm, rfl⟩
  · have hr : Hid (min a b = b) := Lib.hid (by omega)
    go_enter Tryd.func134, Tryd.ntmps134
    go_wp2
    go_ret
    exact ⟨ret_int hr.out.symm, rfl⟩
theorem stl_t {x : Lay} {l : Int} (h : x.de < 550) : La.stl x l = ⟨x.fo, x.ic, x.wa, min 550 (x.de + (550 - x.de) * l / 10000000), x.dg, x.ha, min 10000 (x.ag + 1)⟩ := by unfold La.stl; rw [if_pos h]
theorem stl_f {x : Lay} {l : Int} (h : ¬ x.de < 550) : La.stl x l = ⟨x.fo, x.ic, x.wa, x.de, x.dg, x.ha, min 10000 (x.ag + 1)⟩ := by unfold La.stl; rw [if_neg h]
theorem ret_lay {x y : Lay} (h : x = y) : Ending.returned (.agg #[.int .i64 x.fo, .int .i64 x.ic, .int .i64 x.wa, .int .i64 x.de, .int .i64 x.dg, .int .i64 x.ha, .int .i64 x.ag]) = .returned (.agg #[.int .i64 y.fo, .int .i64 y.ic, .int .i64 y.wa, .int .i64 y.de, .int .i64 y.dg, .int .i64 y.ha, .int .i64 y.ag]) := by rw [h]
end Go.Proofs.YtaldmdammipfjaaDoor
