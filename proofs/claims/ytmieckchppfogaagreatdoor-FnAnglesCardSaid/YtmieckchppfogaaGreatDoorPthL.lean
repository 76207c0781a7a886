/-
  The laws' own helpers on PathPoint and slices of it. No condition of its own.
-/
import Derived.Test.YtmieckchppfogaaGreatDoorPthS
import Derived.Deep.QuietTactic
import Derived.BigQuiet
import Derived.StillTailTactics
namespace Go.Proofs.YtmieckchppfogaaGreatDoor
open Go.RowKit
set_option linter.unusedVariables false
set_option maxRecDepth 100000

end Go.Proofs.YtmieckchppfogaaGreatDoor
