/-
  A row of PathPoint of the call's own is marked, and looked at: every number gets the next mark. No condition of its own.
-/
import Derived.Test.YtmieckchppfogaaGreatDoorPthL
namespace Go.Proofs.YtmieckchppfogaaGreatDoor
open Go.RowKit
set_option linter.unusedVariables false
set_option maxRecDepth 100000

end Go.Proofs.YtmieckchppfogaaGreatDoor
