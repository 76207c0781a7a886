/-
  The questions of chapter 7 by the program. Their condition: impl.strengthFactors holds what the program's text lays (StressAt: none).
-/
import Derived.Test.YtaldmdammipfjaaDoorStK
import Derived.Test.YtaldmdammipfjaaDoorStI
import Derived.Test.YtaldmdammipfjaaDoorStE
namespace Go.Proofs.YtaldmdammipfjaaDoor
open Go.RowKit Go.Shelf
set_option linter.unusedVariables false
set_option maxRecDepth 100000

theorem sdt_0 (ri ru d : Int) : sdt ri ru d 0 = Sb.sd ri ru d := by unfold sdt; rw [show Sb.lim 0 = true from by decide, Bool.and_true]
theorem sdt_00 (ri ru : Int) : sdt ri ru 0 0 = Sb.slo ri ru := by rw [sdt_0]; unfold Sb.sd; rw [show Ar.inB 0 0 1000 = true from by decide, Bool.and_true]
theorem sts_nil (w : World) : StS w (.slice none 0 0) [] := Or.inl ⟨rfl, none, 0, rfl⟩
end Go.Proofs.YtaldmdammipfjaaDoor
