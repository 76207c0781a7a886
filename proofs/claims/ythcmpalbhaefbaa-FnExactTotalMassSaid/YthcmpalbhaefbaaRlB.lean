/-
  Numbers that strictly increase, by the program; indices below a count; the code of an ordered list. No condition of its own.
-/
import Derived.Test.YthcmpalbhaefbaaRlA
import Derived.OwnWalk
namespace Go.Proofs.Ythcmpalbhaefbaa
open Go.RowKit Go.Shelf
set_option linter.unusedVariables false
set_option maxRecDepth 100000
/-- the code of an ordered list -/
def odC (a b o : Bool) : Int := Cd.cd a b (if o then 0 else 7)
set_option maxHeartbeats 1600000 in
theorem orderedCode_any (a b o : Bool) (w : World) : Calls Try.prog 20 #[.bool a, .bool b, .bool o] w fun e w' => e = .returned (.int .i64 (odC a b o)) ∧ w = w' := by
  have C := Lib.hid (statedCd_any a b w)
  unfold odC
  cases a with
  | false =>
    rw [Cd.cd_f] at C
    rw [Cd.cd_f]
    go_enter Try.func20, Try.ntmps20
    go_wp2_with fail
    refine C.out.mono ?_
    rintro e w1 ⟨rfl, rfl⟩
    go_wp2_with fail
    go_ret
    exact ⟨rfl, rfl⟩
  | true =>
    cases b with
    | false =>
      rw [Cd.cd_tf] at C
      rw [Cd.cd_tf]
      go_enter Try.func20, Try.ntmps20
      go_wp2_with fail
      refine C.out.mono ?_
      rintro e w1 ⟨rfl, rfl⟩
      go_wp2_with fail
      go_ret
      exact ⟨rfl, rfl⟩
    | true =>
      rw [Cd.cd_t] at C
      rw [Cd.cd_t]
      cases o with
      | false =>
        go_enter Try.func20, Try.ntmps20
        go_wp2_with fail
        refine C.out.mono ?_
        rintro e w1 ⟨rfl, rfl⟩
        go_wp2_with fail
        go_ret
        exact ⟨rfl, rfl⟩
      | true =>
        go_enter Try.func20, Try.ntmps20
        go_wp2_with fail
        refine C.out.mono ?_
        rintro e w1 ⟨rfl, rfl⟩
        go_wp2_with fail
        go_ret
        exact ⟨rfl, rfl⟩
end Go.Proofs.Ythcmpalbhaefbaa
