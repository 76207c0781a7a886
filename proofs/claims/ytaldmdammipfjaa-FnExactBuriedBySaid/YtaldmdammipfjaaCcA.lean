/-
  Whether cells are cells of a grid (for a seat without the table of ways). No condition of its own.
-/
import Derived.Test.YtaldmdammipfjaaTrC
import Derived.Test.YtaldmdammipfjaaIntG
import Derived.Test.YtaldmdammipfjaaGdV
import Derived.Test.YtaldmdammipfjaaGt
import Derived.Test.YtaldmdammipfjaaFdC
namespace Go.Proofs.Ytaldmdammipfjaa
open Go.RowKit Go.Shelf Go.Deep
set_option linter.unusedVariables false
set_option maxRecDepth 100000
set_option maxHeartbeats 400000 in
theorem isIndexP_any (w : World) (a : Option Addr) (n cap : Nat) (k : Int) (hl : n ≤ 1048576) :
    Calls Try.prog 56 #[.int .i64 k, .slice a n cap] w fun e w' => e = .returned (.bool (Ar.inB 0 k (n - 1))) ∧ w = w' := by
  have C := fun W => Lib.hid (within_any k 0 (n - 1) W)
  go_enter Try.func56, Try.ntmps56
  go_wp2_with fail
  refine (C _).out.mono ?_
  rintro e w1 ⟨rfl, rfl⟩
  go_wp2_with fail
  go_ret
  exact ⟨rfl, rfl⟩
end Go.Proofs.Ytaldmdammipfjaa
