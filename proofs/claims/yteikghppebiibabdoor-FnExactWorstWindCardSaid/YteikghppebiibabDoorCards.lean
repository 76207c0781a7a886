/-
  DERIVED. GIVEN WITH THE SEED: THE CARDS: each row of YteikghppebiibabDoorRows.lean that lists a variable, with what it lists TIED to the program's text (the seventh form; the later family's looks); each row that meets fmt, with fmt's text TOLD by the authors' own Lean function (tested against real Go, not proved from fmt's source: count such statements apart). THE CARD IS WHAT COUNTS. Prove the row's statement (the work); the ties are given (YteikghppebiibabDoorTie.lean); close each card by the builder's one call (the guide's Derived/Test/ToyasCard.lean, 'card_holds'). Laid BY PROGRAM, IN A SANDBOX (cutbox-door.mjs). By AI agents, Wed Nov 11 2026. No macro, syntax, notation, axiom, sorry.
-/
import Derived.Test.YteikghppebiibabDoorRows
import GoSem.ClaimSeven
namespace Go.Proofs.YteikghppebiibabDoor
namespace Rows

/-- THE TIED CARD OF 'laws.FnExactDriftGain'. -/
def fnExactDriftGainCard : Claim7 := { stood := { row := fnExactDriftGainRow, standIns := [], harness := (true, "1aca820484374a98341e32af2d85ecc69d7ca072249bebb0d3df0b668e9a587d"), looks := true }, kinds := [], alts := [], laidByText := true, laidKinds := [.data], laidTests := true, laidLooks := .later }
def FnExactDriftGainCardSaid : Prop := Claim7.holds Tryd.pinned (.plain (OpenSpec.ofChange fnExactDriftGainSpec)) fnExactDriftGainCard

/-- THE TIED CARD OF 'laws.FnExactLoadedCells'. -/
def fnExactLoadedCellsCard : Claim7 := { stood := { row := fnExactLoadedCellsRow, standIns := [], harness := (true, "1aca820484374a98341e32af2d85ecc69d7ca072249bebb0d3df0b668e9a587d"), looks := true }, kinds := [], alts := [], laidByText := true, laidKinds := [.data], laidTests := true, laidLooks := .later }
def FnExactLoadedCellsCardSaid : Prop := Claim7.holds Tryd.pinned (.plain (OpenSpec.ofChange fnExactLoadedCellsSpec)) fnExactLoadedCellsCard

/-- THE TIED CARD OF 'laws.FnExactWorstWind'. -/
def fnExactWorstWindCard : Claim7 := { stood := { row := fnExactWorstWindRow, standIns := [], harness := (true, "1aca820484374a98341e32af2d85ecc69d7ca072249bebb0d3df0b668e9a587d"), looks := true }, kinds := [], alts := [], laidByText := true, laidKinds := [.data], laidTests := true, laidLooks := .later }
def FnExactWorstWindCardSaid : Prop := Claim7.holds Tryd.pinned (.plain (OpenSpec.ofChange fnExactWorstWindSpec)) fnExactWorstWindCard

/-- THE TIED CARD OF 'laws.FnExactSettledField'. -/
def fnExactSettledFieldCard : Claim7 := { stood := { row := fnExactSettledFieldRow, standIns := [], harness := (true, "1aca820484374a98341e32af2d85ecc69d7ca072249bebb0d3df0b668e9a587d"), looks := true }, kinds := [], alts := [], laidByText := true, laidKinds := [.data], laidTests := true, laidLooks := .later }
def FnExactSettledFieldCardSaid : Prop := Claim7.holds Tryd.pinned (.plain (OpenSpec.ofChange fnExactSettledFieldSpec)) fnExactSettledFieldCard

/-- THE TIED CARD OF 'laws.FnDrift'. -/
def fnDriftCard : Claim7 := { stood := { row := fnDriftRow, standIns := [], harness := (true, "1aca820484374a98341e32af2d85ecc69d7ca072249bebb0d3df0b668e9a587d"), looks := true }, kinds := [], alts := [], laidByText := true, laidKinds := [.data], laidTests := true, laidLooks := .later }
def FnDriftCardSaid : Prop := Claim7.holds Tryd.pinned (.plain (OpenSpec.ofChange fnDriftSpec)) fnDriftCard

/-- THE TIED CARD OF 'laws.FnExactFieldText'. -/
def fnExactFieldTextCard : Claim7 := { stood := { row := fnExactFieldTextRow, standIns := [], harness := (true, "1aca820484374a98341e32af2d85ecc69d7ca072249bebb0d3df0b668e9a587d"), looks := true }, kinds := [], alts := [], laidByText := true, laidKinds := [.data, .data, .data], laidTests := true, laidLooks := .later }
def FnExactFieldTextCardSaid : Prop := Claim7.holds Tryd.pinned (.plain (OpenSpec.ofChange fnExactFieldTextSpec)) fnExactFieldTextCard

/-- THE TIED CARD OF 'laws.FnExactReadField'. -/
def fnExactReadFieldCard : Claim7 := { stood := { row := fnExactReadFieldRow, standIns := [], harness := (true, "1aca820484374a98341e32af2d85ecc69d7ca072249bebb0d3df0b668e9a587d"), looks := true }, kinds := [], alts := [], laidByText := true, laidKinds := [.data, .data, .data, .data, .sentinel, .sentinel, .pinned], laidTests := true, laidLooks := .later }
def FnExactReadFieldCardSaid : Prop := Claim7.holds Tryd.pinned (.plain (OpenSpec.ofChange fnExactReadFieldSpec)) fnExactReadFieldCard

/-- THE SECOND FORM's CARD OF 'laws.FnExactDriftGain'. -/
def fnExactDriftGainUptoCard : Claim7 := { stood := { row := fnExactDriftGainUptoRow, standIns := [], harness := (true, "1aca820484374a98341e32af2d85ecc69d7ca072249bebb0d3df0b668e9a587d"), looks := true }, kinds := [], alts := [], laidByText := true, laidKinds := [.data], laidTests := true, laidLooks := .later }
def FnExactDriftGainUptoCardSaid : Prop := Claim7.holds Tryd.pinned (.plain (OpenSpec.upto fnExactDriftGainSpec)) fnExactDriftGainUptoCard

/-- THE SECOND FORM's CARD OF 'laws.FnExactLoadedCells'. -/
def fnExactLoadedCellsUptoCard : Claim7 := { stood := { row := fnExactLoadedCellsUptoRow, standIns := [], harness := (true, "1aca820484374a98341e32af2d85ecc69d7ca072249bebb0d3df0b668e9a587d"), looks := true }, kinds := [], alts := [], laidByText := true, laidKinds := [.data], laidTests := true, laidLooks := .later }
def FnExactLoadedCellsUptoCardSaid : Prop := Claim7.holds Tryd.pinned (.plain (OpenSpec.upto fnExactLoadedCellsSpec)) fnExactLoadedCellsUptoCard

/-- THE SECOND FORM's CARD OF 'laws.FnExactWorstWind'. -/
def fnExactWorstWindUptoCard : Claim7 := { stood := { row := fnExactWorstWindUptoRow, standIns := [], harness := (true, "1aca820484374a98341e32af2d85ecc69d7ca072249bebb0d3df0b668e9a587d"), looks := true }, kinds := [], alts := [], laidByText := true, laidKinds := [.data], laidTests := true, laidLooks := .later }
def FnExactWorstWindUptoCardSaid : Prop := Claim7.holds Tryd.pinned (.plain (OpenSpec.upto fnExactWorstWindSpec)) fnExactWorstWindUptoCard

/-- THE SECOND FORM's CARD OF 'laws.FnExactSettledField'. -/
def fnExactSettledFieldUptoCard : Claim7 := { stood := { row := fnExactSettledFieldUptoRow, standIns := [], harness := (true, "1aca820484374a98341e32af2d85ecc69d7ca072249bebb0d3df0b668e9a587d"), looks := true }, kinds := [], alts := [], laidByText := true, laidKinds := [.data], laidTests := true, laidLooks := .later }
def FnExactSettledFieldUptoCardSaid : Prop := Claim7.holds Tryd.pinned (.plain (OpenSpec.upto fnExactSettledFieldSpec)) fnExactSettledFieldUptoCard

/-- THE SECOND FORM's CARD OF 'laws.FnDrift'. -/
def fnDriftUptoCard : Claim7 := { stood := { row := fnDriftUptoRow, standIns := [], harness := (true, "1aca820484374a98341e32af2d85ecc69d7ca072249bebb0d3df0b668e9a587d"), looks := true }, kinds := [], alts := [], laidByText := true, laidKinds := [.data], laidTests := true, laidLooks := .later }
def FnDriftUptoCardSaid : Prop := Claim7.holds Tryd.pinned (.plain (OpenSpec.upto fnDriftSpec)) fnDriftUptoCard

/-- THE SECOND FORM's CARD OF 'laws.FnExactFieldText'. -/
def fnExactFieldTextUptoCard : Claim7 := { stood := { row := fnExactFieldTextUptoRow, standIns := [], harness := (true, "1aca820484374a98341e32af2d85ecc69d7ca072249bebb0d3df0b668e9a587d"), looks := true }, kinds := [], alts := [], laidByText := true, laidKinds := [.data, .data, .data], laidTests := true, laidLooks := .later }
def FnExactFieldTextUptoCardSaid : Prop := Claim7.holds Tryd.pinned (.plain (OpenSpec.upto fnExactFieldTextSpec)) fnExactFieldTextUptoCard

/-- THE SECOND FORM's CARD OF 'laws.FnExactReadField'. -/
def fnExactReadFieldUptoCard : Claim7 := { stood := { row := fnExactReadFieldUptoRow, standIns := [], harness := (true, "1aca820484374a98341e32af2d85ecc69d7ca072249bebb0d3df0b668e9a587d"), looks := true }, kinds := [], alts := [], laidByText := true, laidKinds := [.data, .data, .data, .data, .sentinel, .sentinel, .pinned], laidTests := true, laidLooks := .later }
def FnExactReadFieldUptoCardSaid : Prop := Claim7.holds Tryd.pinned (.plain (OpenSpec.upto fnExactReadFieldSpec)) fnExactReadFieldUptoCard
end Rows
end Go.Proofs.YteikghppebiibabDoor
