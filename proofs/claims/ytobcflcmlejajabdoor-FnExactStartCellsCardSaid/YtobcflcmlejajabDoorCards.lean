/-
  DERIVED. GIVEN WITH THE SEED: THE CARDS: each row of YtobcflcmlejajabDoorRows.lean that lists a variable, with what it lists TIED to the program's text (the seventh form; the later family's looks); each row that meets fmt, with fmt's text TOLD by the authors' own Lean function (tested against real Go, not proved from fmt's source: count such statements apart). THE CARD IS WHAT COUNTS. Prove the row's statement (the work); the ties are given (YtobcflcmlejajabDoorTie.lean); close each card by the builder's one call (the guide's Derived/Test/ToyasCard.lean, 'card_holds'). Laid BY PROGRAM, IN A SANDBOX (cutbox-door.mjs). By AI agents, Wed Nov 11 2026. No macro, syntax, notation, axiom, sorry.
-/
import Derived.Test.YtobcflcmlejajabDoorRows
import GoSem.ClaimSeven
namespace Go.Proofs.YtobcflcmlejajabDoor
namespace Rows

/-- THE TIED CARD OF 'laws.FnExactSlopesOf'. -/
def fnExactSlopesOfCard : Claim7 := { stood := { row := fnExactSlopesOfRow, standIns := [], harness := (true, "5c035ac2c3a11b227bce91c60d88834d4af40ce3e0539d14fe572d5de77e5326"), looks := false }, kinds := [], alts := [], laidByText := true, laidKinds := [.data], laidTests := true, laidLooks := .later }
def FnExactSlopesOfCardSaid : Prop := Claim7.holds Tryd.pinned (.plain (OpenSpec.ofChange fnExactSlopesOfSpec)) fnExactSlopesOfCard

/-- THE TIED CARD OF 'laws.FnExactStartCells'. -/
def fnExactStartCellsCard : Claim7 := { stood := { row := fnExactStartCellsRow, standIns := [], harness := (true, "5c035ac2c3a11b227bce91c60d88834d4af40ce3e0539d14fe572d5de77e5326"), looks := false }, kinds := [], alts := [], laidByText := true, laidKinds := [.data], laidTests := true, laidLooks := .later }
def FnExactStartCellsCardSaid : Prop := Claim7.holds Tryd.pinned (.plain (OpenSpec.ofChange fnExactStartCellsSpec)) fnExactStartCellsCard

/-- THE TIED CARD OF 'laws.FnExactBorderOf'. -/
def fnExactBorderOfCard : Claim7 := { stood := { row := fnExactBorderOfRow, standIns := [], harness := (true, "5c035ac2c3a11b227bce91c60d88834d4af40ce3e0539d14fe572d5de77e5326"), looks := false }, kinds := [], alts := [], laidByText := true, laidKinds := [.data], laidTests := true, laidLooks := .later }
def FnExactBorderOfCardSaid : Prop := Claim7.holds Tryd.pinned (.plain (OpenSpec.ofChange fnExactBorderOfSpec)) fnExactBorderOfCard

/-- THE TIED CARD OF 'laws.FnExactGrowCells'. -/
def fnExactGrowCellsCard : Claim7 := { stood := { row := fnExactGrowCellsRow, standIns := [], harness := (true, "5c035ac2c3a11b227bce91c60d88834d4af40ce3e0539d14fe572d5de77e5326"), looks := false }, kinds := [], alts := [], laidByText := true, laidKinds := [.data, .data], laidTests := true, laidLooks := .later }
def FnExactGrowCellsCardSaid : Prop := Claim7.holds Tryd.pinned (.plain (OpenSpec.ofChange fnExactGrowCellsSpec)) fnExactGrowCellsCard

/-- THE TIED CARD OF 'laws.FnExactSlopeTo'. -/
def fnExactSlopeToCard : Claim7 := { stood := { row := fnExactSlopeToRow, standIns := [], harness := (true, "5c035ac2c3a11b227bce91c60d88834d4af40ce3e0539d14fe572d5de77e5326"), looks := false }, kinds := [], alts := [], laidByText := true, laidKinds := [.data], laidTests := true, laidLooks := .later }
def FnExactSlopeToCardSaid : Prop := Claim7.holds Tryd.pinned (.plain (OpenSpec.ofChange fnExactSlopeToSpec)) fnExactSlopeToCard

/-- THE TIED CARD OF 'laws.FnExactSteepestOf'. -/
def fnExactSteepestOfCard : Claim7 := { stood := { row := fnExactSteepestOfRow, standIns := [], harness := (true, "5c035ac2c3a11b227bce91c60d88834d4af40ce3e0539d14fe572d5de77e5326"), looks := false }, kinds := [], alts := [], laidByText := true, laidKinds := [.data], laidTests := true, laidLooks := .later }
def FnExactSteepestOfCardSaid : Prop := Claim7.holds Tryd.pinned (.plain (OpenSpec.ofChange fnExactSteepestOfSpec)) fnExactSteepestOfCard

/-- THE TIED CARD OF 'laws.FnExactAspectOf'. -/
def fnExactAspectOfCard : Claim7 := { stood := { row := fnExactAspectOfRow, standIns := [], harness := (true, "5c035ac2c3a11b227bce91c60d88834d4af40ce3e0539d14fe572d5de77e5326"), looks := false }, kinds := [], alts := [], laidByText := true, laidKinds := [.data], laidTests := true, laidLooks := .later }
def FnExactAspectOfCardSaid : Prop := Claim7.holds Tryd.pinned (.plain (OpenSpec.ofChange fnExactAspectOfSpec)) fnExactAspectOfCard

/-- THE SECOND FORM's CARD OF 'laws.FnExactSlopesOf'. -/
def fnExactSlopesOfUptoCard : Claim7 := { stood := { row := fnExactSlopesOfUptoRow, standIns := [], harness := (true, "5c035ac2c3a11b227bce91c60d88834d4af40ce3e0539d14fe572d5de77e5326"), looks := false }, kinds := [], alts := [], laidByText := true, laidKinds := [.data], laidTests := true, laidLooks := .later }
def FnExactSlopesOfUptoCardSaid : Prop := Claim7.holds Tryd.pinned (.plain (OpenSpec.upto fnExactSlopesOfSpec)) fnExactSlopesOfUptoCard

/-- THE SECOND FORM's CARD OF 'laws.FnExactStartCells'. -/
def fnExactStartCellsUptoCard : Claim7 := { stood := { row := fnExactStartCellsUptoRow, standIns := [], harness := (true, "5c035ac2c3a11b227bce91c60d88834d4af40ce3e0539d14fe572d5de77e5326"), looks := false }, kinds := [], alts := [], laidByText := true, laidKinds := [.data], laidTests := true, laidLooks := .later }
def FnExactStartCellsUptoCardSaid : Prop := Claim7.holds Tryd.pinned (.plain (OpenSpec.upto fnExactStartCellsSpec)) fnExactStartCellsUptoCard

/-- THE SECOND FORM's CARD OF 'laws.FnExactBorderOf'. -/
def fnExactBorderOfUptoCard : Claim7 := { stood := { row := fnExactBorderOfUptoRow, standIns := [], harness := (true, "5c035ac2c3a11b227bce91c60d88834d4af40ce3e0539d14fe572d5de77e5326"), looks := false }, kinds := [], alts := [], laidByText := true, laidKinds := [.data], laidTests := true, laidLooks := .later }
def FnExactBorderOfUptoCardSaid : Prop := Claim7.holds Tryd.pinned (.plain (OpenSpec.upto fnExactBorderOfSpec)) fnExactBorderOfUptoCard

/-- THE SECOND FORM's CARD OF 'laws.FnExactGrowCells'. -/
def fnExactGrowCellsUptoCard : Claim7 := { stood := { row := fnExactGrowCellsUptoRow, standIns := [], harness := (true, "5c035ac2c3a11b227bce91c60d88834d4af40ce3e0539d14fe572d5de77e5326"), looks := false }, kinds := [], alts := [], laidByText := true, laidKinds := [.data, .data], laidTests := true, laidLooks := .later }
def FnExactGrowCellsUptoCardSaid : Prop := Claim7.holds Tryd.pinned (.plain (OpenSpec.upto fnExactGrowCellsSpec)) fnExactGrowCellsUptoCard

/-- THE SECOND FORM's CARD OF 'laws.FnExactSlopeTo'. -/
def fnExactSlopeToUptoCard : Claim7 := { stood := { row := fnExactSlopeToUptoRow, standIns := [], harness := (true, "5c035ac2c3a11b227bce91c60d88834d4af40ce3e0539d14fe572d5de77e5326"), looks := false }, kinds := [], alts := [], laidByText := true, laidKinds := [.data], laidTests := true, laidLooks := .later }
def FnExactSlopeToUptoCardSaid : Prop := Claim7.holds Tryd.pinned (.plain (OpenSpec.upto fnExactSlopeToSpec)) fnExactSlopeToUptoCard

/-- THE SECOND FORM's CARD OF 'laws.FnExactSteepestOf'. -/
def fnExactSteepestOfUptoCard : Claim7 := { stood := { row := fnExactSteepestOfUptoRow, standIns := [], harness := (true, "5c035ac2c3a11b227bce91c60d88834d4af40ce3e0539d14fe572d5de77e5326"), looks := false }, kinds := [], alts := [], laidByText := true, laidKinds := [.data], laidTests := true, laidLooks := .later }
def FnExactSteepestOfUptoCardSaid : Prop := Claim7.holds Tryd.pinned (.plain (OpenSpec.upto fnExactSteepestOfSpec)) fnExactSteepestOfUptoCard

/-- THE SECOND FORM's CARD OF 'laws.FnExactAspectOf'. -/
def fnExactAspectOfUptoCard : Claim7 := { stood := { row := fnExactAspectOfUptoRow, standIns := [], harness := (true, "5c035ac2c3a11b227bce91c60d88834d4af40ce3e0539d14fe572d5de77e5326"), looks := false }, kinds := [], alts := [], laidByText := true, laidKinds := [.data], laidTests := true, laidLooks := .later }
def FnExactAspectOfUptoCardSaid : Prop := Claim7.holds Tryd.pinned (.plain (OpenSpec.upto fnExactAspectOfSpec)) fnExactAspectOfUptoCard
end Rows
end Go.Proofs.YtobcflcmlejajabDoor
