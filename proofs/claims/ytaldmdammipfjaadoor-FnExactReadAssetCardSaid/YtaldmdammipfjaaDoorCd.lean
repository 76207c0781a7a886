/-
  A question's code, and the lesser and the greater of two numbers, by the program and by the model. No condition of its own.
-/
import Derived.Test.YtaldmdammipfjaaDoorNum
import Derived.Test.YtaldmdammipfjaaDoorUnits
import Derived.Lib.Hide
import Derived.WalkKit
namespace Go.Proofs.YtaldmdammipfjaaDoor
open Go.RowKit
set_option linter.unusedVariables false
set_option maxRecDepth 100000

namespace Cd
/-- a test of what is given, and its code: 1 the thing asked about, 2 the numbers -/
def cd (a b : Bool) (c : Int) : Int := if a then (if b then c else 2) else 1
def vl (a b : Bool) (v : Int) : Int := if a then (if b then v else 0) else 0
def ls {α : Type} (a b : Bool) (l : List α) : List α := if a then (if b then l else []) else []
theorem cd_t (c : Int) : cd true true c = c := rfl
theorem cd_f (b : Bool) (c : Int) : cd false b c = 1 := rfl
theorem cd_tf (c : Int) : cd true false c = 2 := rfl
theorem vl_t (c : Int) : vl true true c = c := rfl
theorem vl_f (b : Bool) (c : Int) : vl false b c = 0 := rfl
theorem vl_tf (c : Int) : vl true false c = 0 := rfl
theorem ls_t {α : Type} (l : List α) : ls true true l = l := rfl
theorem ls_f {α : Type} (b : Bool) (l : List α) : ls false b l = [] := rfl
theorem ls_tf {α : Type} (l : List α) : ls true false l = [] := rfl
theorem ls_len {α : Type} {a b : Bool} {l : List α} {n : Nat} (h : l.length ≤ n) : (ls a b l).length ≤ n := by cases a <;> cases b <;> simp [ls, h]
end Cd
theorem statedCd_any (a b : Bool) (w : World) : Calls Tryd.prog 72 #[.bool a, .bool b] w fun e w' => e = .returned (.int .i64 (Cd.cd a b 0)) ∧ w = w' := by
  cases a <;> cases b <;> (go_enter Tryd.func72, Tryd.ntmps72; go_wp2; go_ret; exact ⟨rfl, rfl⟩)
set_option maxHeartbeats 400000 in
theorem mn_any (a b c : Int) (w : World) (hc : min a b = c) :
    Calls Tryd.prog 134 #[.int .i64 a, .int .i64 b] w fun e w' => e = .returned (.int .i64 c) ∧ w = w' := by
  by_cases h : a < b
  · have hr : Hid (a = c) := Lib.hid (by omega)
    go_enter Tryd.func134, Tryd.ntmps134
    go_wp2
    go_ret
    exact ⟨ret_int hr.out, rfl⟩
  · have hr : Hid (b = c) := Lib.hid (by omega)
    go_enter Tryd.func134, Tryd.ntmps134
    go_wp2
    go_ret
    exact ⟨ret_int hr.out, rfl⟩
end Go.Proofs.YtaldmdammipfjaaDoor
