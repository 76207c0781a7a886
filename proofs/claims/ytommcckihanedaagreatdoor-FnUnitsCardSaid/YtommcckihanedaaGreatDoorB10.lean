/-
  Are bytes too many for a law to look at them? No condition of its own.
-/
import Derived.Test.YtommcckihanedaaGreatDoorR8
namespace Go.Proofs.YtommcckihanedaaGreatDoor
open Go.RowKit
set_option linter.unusedVariables false

theorem b10no (w : World) (a : Option Addr) (n cn : Nat) (h1 : n ≤ 1048576) :
    Calls Tryz.prog 4 #[.slice a n cn] w fun e w' => e = .returned (.bool false) ∧ w = w' := by
  have h3 : ¬ (1048576 : Int) < n := by omega
  go_enter Tryz.func4, Tryz.ntmps4
  go_wp2
  go_ret
  exact ⟨rfl, rfl⟩
theorem b10yes (w : World) (a : Option Addr) (n cn : Nat) (h1 : 1048576 < n) :
    Calls Tryz.prog 4 #[.slice a n cn] w fun e w' => e = .returned (.bool true) ∧ w = w' := by
  have h3 : (1048576 : Int) < n := by omega
  go_enter Tryz.func4, Tryz.ntmps4
  go_wp2
  go_ret
  exact ⟨rfl, rfl⟩
end Go.Proofs.YtommcckihanedaaGreatDoor
