/-
  DERIVED. GIVEN WITH THE SEED: THE CARDS: each row of YtmidihmbehaegaaDoorRows.lean that lists a variable, with what it lists TIED to the program's text (the seventh form; the later family's looks); each row that meets fmt, with fmt's text TOLD by the authors' own Lean function (tested against real Go, not proved from fmt's source: count such statements apart). THE CARD IS WHAT COUNTS. Prove the row's statement (the work); the ties are given (YtmidihmbehaegaaDoorTie.lean); close each card by the builder's one call (the guide's Derived/Test/ToyasCard.lean, 'card_holds'). Laid BY PROGRAM, IN A SANDBOX (cutbox-door.mjs). By AI agents, Wed Nov 11 2026. No macro, syntax, notation, axiom, sorry.
-/
import Derived.Test.YtmidihmbehaegaaDoorRows
import GoSem.ClaimSeven
namespace Go.Proofs.YtmidihmbehaegaaDoor
namespace Rows

/-- THE TIED CARD OF 'laws.FnExactDriftStep'. -/
def fnExactDriftStepCard : Claim7 := { stood := { row := fnExactDriftStepRow, standIns := [], harness := (true, "7bd511a977299e319147d9838326bcb990e9e71cad2c20939fe0f08c28797a90"), looks := false }, kinds := [], alts := [], laidByText := true, laidKinds := [.data], laidTests := true, laidLooks := .later }
def FnExactDriftStepCardSaid : Prop := Claim7.holds Tryd.pinned (.plain (OpenSpec.ofChange fnExactDriftStepSpec)) fnExactDriftStepCard

/-- THE TIED CARD OF 'laws.FnExactDriftRun'. -/
def fnExactDriftRunCard : Claim7 := { stood := { row := fnExactDriftRunRow, standIns := [], harness := (true, "7bd511a977299e319147d9838326bcb990e9e71cad2c20939fe0f08c28797a90"), looks := false }, kinds := [], alts := [], laidByText := true, laidKinds := [.data], laidTests := true, laidLooks := .later }
def FnExactDriftRunCardSaid : Prop := Claim7.holds Tryd.pinned (.plain (OpenSpec.ofChange fnExactDriftRunSpec)) fnExactDriftRunCard

/-- THE TIED CARD OF 'laws.FnExactDriftGain'. -/
def fnExactDriftGainCard : Claim7 := { stood := { row := fnExactDriftGainRow, standIns := [], harness := (true, "7bd511a977299e319147d9838326bcb990e9e71cad2c20939fe0f08c28797a90"), looks := false }, kinds := [], alts := [], laidByText := true, laidKinds := [.data], laidTests := true, laidLooks := .later }
def FnExactDriftGainCardSaid : Prop := Claim7.holds Tryd.pinned (.plain (OpenSpec.ofChange fnExactDriftGainSpec)) fnExactDriftGainCard

/-- THE TIED CARD OF 'laws.FnExactLoadedCells'. -/
def fnExactLoadedCellsCard : Claim7 := { stood := { row := fnExactLoadedCellsRow, standIns := [], harness := (true, "7bd511a977299e319147d9838326bcb990e9e71cad2c20939fe0f08c28797a90"), looks := false }, kinds := [], alts := [], laidByText := true, laidKinds := [.data], laidTests := true, laidLooks := .later }
def FnExactLoadedCellsCardSaid : Prop := Claim7.holds Tryd.pinned (.plain (OpenSpec.ofChange fnExactLoadedCellsSpec)) fnExactLoadedCellsCard

/-- THE TIED CARD OF 'laws.FnExactWorstWind'. -/
def fnExactWorstWindCard : Claim7 := { stood := { row := fnExactWorstWindRow, standIns := [], harness := (true, "7bd511a977299e319147d9838326bcb990e9e71cad2c20939fe0f08c28797a90"), looks := false }, kinds := [], alts := [], laidByText := true, laidKinds := [.data], laidTests := true, laidLooks := .later }
def FnExactWorstWindCardSaid : Prop := Claim7.holds Tryd.pinned (.plain (OpenSpec.ofChange fnExactWorstWindSpec)) fnExactWorstWindCard

/-- THE TIED CARD OF 'laws.FnExactSettledField'. -/
def fnExactSettledFieldCard : Claim7 := { stood := { row := fnExactSettledFieldRow, standIns := [], harness := (true, "7bd511a977299e319147d9838326bcb990e9e71cad2c20939fe0f08c28797a90"), looks := false }, kinds := [], alts := [], laidByText := true, laidKinds := [.data], laidTests := true, laidLooks := .later }
def FnExactSettledFieldCardSaid : Prop := Claim7.holds Tryd.pinned (.plain (OpenSpec.ofChange fnExactSettledFieldSpec)) fnExactSettledFieldCard

/-- THE SECOND FORM's CARD OF 'laws.FnExactDriftStep'. -/
def fnExactDriftStepUptoCard : Claim7 := { stood := { row := fnExactDriftStepUptoRow, standIns := [], harness := (true, "7bd511a977299e319147d9838326bcb990e9e71cad2c20939fe0f08c28797a90"), looks := false }, kinds := [], alts := [], laidByText := true, laidKinds := [.data], laidTests := true, laidLooks := .later }
def FnExactDriftStepUptoCardSaid : Prop := Claim7.holds Tryd.pinned (.plain (OpenSpec.upto fnExactDriftStepSpec)) fnExactDriftStepUptoCard

/-- THE SECOND FORM's CARD OF 'laws.FnExactDriftRun'. -/
def fnExactDriftRunUptoCard : Claim7 := { stood := { row := fnExactDriftRunUptoRow, standIns := [], harness := (true, "7bd511a977299e319147d9838326bcb990e9e71cad2c20939fe0f08c28797a90"), looks := false }, kinds := [], alts := [], laidByText := true, laidKinds := [.data], laidTests := true, laidLooks := .later }
def FnExactDriftRunUptoCardSaid : Prop := Claim7.holds Tryd.pinned (.plain (OpenSpec.upto fnExactDriftRunSpec)) fnExactDriftRunUptoCard

/-- THE SECOND FORM's CARD OF 'laws.FnExactDriftGain'. -/
def fnExactDriftGainUptoCard : Claim7 := { stood := { row := fnExactDriftGainUptoRow, standIns := [], harness := (true, "7bd511a977299e319147d9838326bcb990e9e71cad2c20939fe0f08c28797a90"), looks := false }, kinds := [], alts := [], laidByText := true, laidKinds := [.data], laidTests := true, laidLooks := .later }
def FnExactDriftGainUptoCardSaid : Prop := Claim7.holds Tryd.pinned (.plain (OpenSpec.upto fnExactDriftGainSpec)) fnExactDriftGainUptoCard

/-- THE SECOND FORM's CARD OF 'laws.FnExactLoadedCells'. -/
def fnExactLoadedCellsUptoCard : Claim7 := { stood := { row := fnExactLoadedCellsUptoRow, standIns := [], harness := (true, "7bd511a977299e319147d9838326bcb990e9e71cad2c20939fe0f08c28797a90"), looks := false }, kinds := [], alts := [], laidByText := true, laidKinds := [.data], laidTests := true, laidLooks := .later }
def FnExactLoadedCellsUptoCardSaid : Prop := Claim7.holds Tryd.pinned (.plain (OpenSpec.upto fnExactLoadedCellsSpec)) fnExactLoadedCellsUptoCard

/-- THE SECOND FORM's CARD OF 'laws.FnExactWorstWind'. -/
def fnExactWorstWindUptoCard : Claim7 := { stood := { row := fnExactWorstWindUptoRow, standIns := [], harness := (true, "7bd511a977299e319147d9838326bcb990e9e71cad2c20939fe0f08c28797a90"), looks := false }, kinds := [], alts := [], laidByText := true, laidKinds := [.data], laidTests := true, laidLooks := .later }
def FnExactWorstWindUptoCardSaid : Prop := Claim7.holds Tryd.pinned (.plain (OpenSpec.upto fnExactWorstWindSpec)) fnExactWorstWindUptoCard

/-- THE SECOND FORM's CARD OF 'laws.FnExactSettledField'. -/
def fnExactSettledFieldUptoCard : Claim7 := { stood := { row := fnExactSettledFieldUptoRow, standIns := [], harness := (true, "7bd511a977299e319147d9838326bcb990e9e71cad2c20939fe0f08c28797a90"), looks := false }, kinds := [], alts := [], laidByText := true, laidKinds := [.data], laidTests := true, laidLooks := .later }
def FnExactSettledFieldUptoCardSaid : Prop := Claim7.holds Tryd.pinned (.plain (OpenSpec.upto fnExactSettledFieldSpec)) fnExactSettledFieldUptoCard
end Rows
end Go.Proofs.YtmidihmbehaegaaDoor
