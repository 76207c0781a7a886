import Derived.Test.YtjogppgddjfejaaDoorRows
import Derived.Test.YtjogppgddjfejaaDoorArith
import Derived.WalkKit
import Derived.WalkSpells
import Derived.WalkLawsBesides
import Derived.Outline
import Derived.IntWalk
import Derived.Lib.Hide
namespace Go.Proofs.YtjogppgddjfejaaDoor
open Go.RowKit
set_option linter.unusedVariables false

theorem ret_int {k : IntKind} {a b : Int} (h : a = b) : Ending.returned (.int k a) = .returned (.int k b) := by rw [h]
theorem u64_wrap (a : Int) : IntKind.u64.wrap a = a % 18446744073709551616 := by
  unfold IntKind.wrap; simp only [IntKind.signed, IntKind.bits, Bool.false_and, Bool.false_eq_true, if_false]
  rfl
theorem u64_neg (a : Int) (h1 : -1000000000000000000 ≤ a) (h2 : a < 0) : IntKind.u64.wrap (-IntKind.u64.wrap a) = -a := by
  rw [u64_wrap, u64_wrap]; omega
theorem u64_in (a : Int) (h1 : 0 ≤ a) (h2 : a ≤ 1000000000000000000) : IntKind.u64.wrap a = a := by
  rw [u64_wrap]; omega

theorem ret_bool {a b : Bool} (h : a = b) : Ending.returned (.bool a) = .returned (.bool b) := by rw [h]
set_option maxHeartbeats 400000 in
theorem within_any (x l h : Int) (w : World) :
    Calls Tryd.prog 40 #[.int .i64 x, .int .i64 l, .int .i64 h] w fun e w' => e = .returned (.bool (Ar.inB l x h)) ∧ w = w' := by
  by_cases h1 : l ≤ x
  · go_enter Tryd.func40, Tryd.ntmps40
    go_wp2
    go_ret
    exact ⟨ret_bool (by unfold Ar.inB; simp [h1]), rfl⟩
  · go_enter Tryd.func40, Tryd.ntmps40
    go_wp2
    go_ret
    exact ⟨ret_bool (by rw [Ar.inB_f]; omega), rfl⟩
set_option maxHeartbeats 400000 in
theorem l00In_any (x l h : Int) (w : World) :
    Calls Tryd.prog 31 #[.int .i64 x, .int .i64 l, .int .i64 h] w fun e w' => e = .returned (.bool (Ar.inB l x h)) ∧ w = w' := by
  by_cases h1 : l ≤ x
  · go_enter Tryd.func31, Tryd.ntmps31
    go_wp2
    go_ret
    exact ⟨ret_bool (by unfold Ar.inB; simp [h1]), rfl⟩
  · go_enter Tryd.func31, Tryd.ntmps31
    go_wp2
    go_ret
    exact ⟨ret_bool (by rw [Ar.inB_f]; omega), rfl⟩
theorem isValue_any (x : Int) (w : World) :
    Calls Tryd.prog 26 #[.int .i64 x] w fun e w' => e = .returned (.bool (Ar.inB (-1000000000000) x 1000000000000)) ∧ w = w' := by
  go_enter Tryd.func26, Tryd.ntmps26
  go_wp2_with (go_at_call 40; refine (within_any _ _ _ _).mono ?_; rintro e w' ⟨rfl, rfl⟩)
  go_ret
  exact ⟨rfl, rfl⟩

theorem inV_cases (x : Int) : ((-1000000000000 ≤ x ∧ x ≤ 1000000000000) ∧ Ar.inB (-1000000000000) x 1000000000000 = true) ∨ (¬ (-1000000000000 ≤ x ∧ x ≤ 1000000000000) ∧ Ar.inB (-1000000000000) x 1000000000000 = false) := by
  by_cases h : -1000000000000 ≤ x ∧ x ≤ 1000000000000
  · exact Or.inl ⟨h, Ar.inB_t h.1 h.2⟩
  · exact Or.inr ⟨h, Ar.inB_f h⟩
end Go.Proofs.YtjogppgddjfejaaDoor
