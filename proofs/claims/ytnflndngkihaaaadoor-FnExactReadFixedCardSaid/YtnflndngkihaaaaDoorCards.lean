/-
  DERIVED. GIVEN WITH THE SEED: THE CARDS: each row of YtnflndngkihaaaaDoorRows.lean that lists a variable, with what it lists TIED to the program's text (the seventh form; the later family's looks); each row that meets fmt, with fmt's text TOLD by the authors' own Lean function (tested against real Go, not proved from fmt's source: count such statements apart). THE CARD IS WHAT COUNTS. Prove the row's statement (the work); the ties are given (YtnflndngkihaaaaDoorTie.lean); close each card by the builder's one call (the guide's Derived/Test/ToyasCard.lean, 'card_holds'). Laid BY PROGRAM, IN A SANDBOX (cutbox-door.mjs). By AI agents, Wed Nov 11 2026. No macro, syntax, notation, axiom, sorry.
-/
import Derived.Test.YtnflndngkihaaaaDoorRows
import GoSem.ClaimSeven
namespace Go.Proofs.YtnflndngkihaaaaDoor
namespace Rows

/-- THE TIED CARD OF 'laws.FnExactDateOf'. -/
def fnExactDateOfCard : Claim7 := { stood := { row := fnExactDateOfRow, standIns := [], harness := (true, "52f896f05d126a74c8598a39536eb77541d5be6fed5e0de93903693cfe09fb4c"), looks := true }, kinds := [], alts := [], laidByText := true, laidKinds := [.data], laidTests := true, laidLooks := .later }
def FnExactDateOfCardSaid : Prop := Claim7.holds Tryd.pinned (.plain (OpenSpec.ofChange fnExactDateOfSpec)) fnExactDateOfCard

/-- THE TIED CARD OF 'laws.FnExactDayNumber'. -/
def fnExactDayNumberCard : Claim7 := { stood := { row := fnExactDayNumberRow, standIns := [], harness := (true, "52f896f05d126a74c8598a39536eb77541d5be6fed5e0de93903693cfe09fb4c"), looks := true }, kinds := [], alts := [], laidByText := true, laidKinds := [.data], laidTests := true, laidLooks := .later }
def FnExactDayNumberCardSaid : Prop := Claim7.holds Tryd.pinned (.plain (OpenSpec.ofChange fnExactDayNumberSpec)) fnExactDayNumberCard

/-- THE TIED CARD OF 'laws.FnExactDateText'. -/
def fnExactDateTextCard : Claim7 := { stood := { row := fnExactDateTextRow, standIns := [], harness := (true, "52f896f05d126a74c8598a39536eb77541d5be6fed5e0de93903693cfe09fb4c"), looks := true }, kinds := [], alts := [], laidByText := true, laidKinds := [.data, .data, .data, .data], laidTests := true, laidLooks := .later }
def FnExactDateTextCardSaid : Prop := Claim7.holds Tryd.pinned (.plain (OpenSpec.ofChange fnExactDateTextSpec)) fnExactDateTextCard

/-- THE TIED CARD OF 'laws.FnExactReadDate'. -/
def fnExactReadDateCard : Claim7 := { stood := { row := fnExactReadDateRow, standIns := [], harness := (true, "52f896f05d126a74c8598a39536eb77541d5be6fed5e0de93903693cfe09fb4c"), looks := true }, kinds := [], alts := [], laidByText := true, laidKinds := [.data, .data, .pinned], laidTests := true, laidLooks := .later }
def FnExactReadDateCardSaid : Prop := Claim7.holds Tryd.pinned (.plain (OpenSpec.ofChange fnExactReadDateSpec)) fnExactReadDateCard

/-- THE TIED CARD OF 'laws.FnExactClockText'. -/
def fnExactClockTextCard : Claim7 := { stood := { row := fnExactClockTextRow, standIns := [], harness := (true, "52f896f05d126a74c8598a39536eb77541d5be6fed5e0de93903693cfe09fb4c"), looks := true }, kinds := [], alts := [], laidByText := true, laidKinds := [.data, .data, .data], laidTests := true, laidLooks := .later }
def FnExactClockTextCardSaid : Prop := Claim7.holds Tryd.pinned (.plain (OpenSpec.ofChange fnExactClockTextSpec)) fnExactClockTextCard

/-- THE TIED CARD OF 'laws.FnExactReadClock'. -/
def fnExactReadClockCard : Claim7 := { stood := { row := fnExactReadClockRow, standIns := [], harness := (true, "52f896f05d126a74c8598a39536eb77541d5be6fed5e0de93903693cfe09fb4c"), looks := true }, kinds := [], alts := [], laidByText := true, laidKinds := [.data, .pinned], laidTests := true, laidLooks := .later }
def FnExactReadClockCardSaid : Prop := Claim7.holds Tryd.pinned (.plain (OpenSpec.ofChange fnExactReadClockSpec)) fnExactReadClockCard

/-- THE TIED CARD OF 'laws.FnExactFixedText'. -/
def fnExactFixedTextCard : Claim7 := { stood := { row := fnExactFixedTextRow, standIns := [], harness := (true, "52f896f05d126a74c8598a39536eb77541d5be6fed5e0de93903693cfe09fb4c"), looks := true }, kinds := [], alts := [], laidByText := true, laidKinds := [.data, .data, .data], laidTests := true, laidLooks := .later }
def FnExactFixedTextCardSaid : Prop := Claim7.holds Tryd.pinned (.plain (OpenSpec.ofChange fnExactFixedTextSpec)) fnExactFixedTextCard

/-- THE TIED CARD OF 'laws.FnExactReadFixed'. -/
def fnExactReadFixedCard : Claim7 := { stood := { row := fnExactReadFixedRow, standIns := [], harness := (true, "52f896f05d126a74c8598a39536eb77541d5be6fed5e0de93903693cfe09fb4c"), looks := true }, kinds := [], alts := [], laidByText := true, laidKinds := [.data, .data, .data, .data, .sentinel, .sentinel, .pinned], laidTests := true, laidLooks := .later }
def FnExactReadFixedCardSaid : Prop := Claim7.holds Tryd.pinned (.plain (OpenSpec.ofChange fnExactReadFixedSpec)) fnExactReadFixedCard

/-- THE TIED CARD OF 'laws.FnExactBeaufortOf'. -/
def fnExactBeaufortOfCard : Claim7 := { stood := { row := fnExactBeaufortOfRow, standIns := [], harness := (true, "52f896f05d126a74c8598a39536eb77541d5be6fed5e0de93903693cfe09fb4c"), looks := true }, kinds := [], alts := [], laidByText := true, laidKinds := [.data], laidTests := true, laidLooks := .later }
def FnExactBeaufortOfCardSaid : Prop := Claim7.holds Tryd.pinned (.plain (OpenSpec.ofChange fnExactBeaufortOfSpec)) fnExactBeaufortOfCard

/-- THE TIED CARD OF 'laws.FnExactWindName'. -/
def fnExactWindNameCard : Claim7 := { stood := { row := fnExactWindNameRow, standIns := [], harness := (true, "52f896f05d126a74c8598a39536eb77541d5be6fed5e0de93903693cfe09fb4c"), looks := true }, kinds := [], alts := [], laidByText := true, laidKinds := [.data], laidTests := true, laidLooks := .later }
def FnExactWindNameCardSaid : Prop := Claim7.holds Tryd.pinned (.plain (OpenSpec.ofChange fnExactWindNameSpec)) fnExactWindNameCard

/-- THE SECOND FORM's CARD OF 'laws.FnExactDateOf'. -/
def fnExactDateOfUptoCard : Claim7 := { stood := { row := fnExactDateOfUptoRow, standIns := [], harness := (true, "52f896f05d126a74c8598a39536eb77541d5be6fed5e0de93903693cfe09fb4c"), looks := true }, kinds := [], alts := [], laidByText := true, laidKinds := [.data], laidTests := true, laidLooks := .later }
def FnExactDateOfUptoCardSaid : Prop := Claim7.holds Tryd.pinned (.plain (OpenSpec.upto fnExactDateOfSpec)) fnExactDateOfUptoCard

/-- THE SECOND FORM's CARD OF 'laws.FnExactDayNumber'. -/
def fnExactDayNumberUptoCard : Claim7 := { stood := { row := fnExactDayNumberUptoRow, standIns := [], harness := (true, "52f896f05d126a74c8598a39536eb77541d5be6fed5e0de93903693cfe09fb4c"), looks := true }, kinds := [], alts := [], laidByText := true, laidKinds := [.data], laidTests := true, laidLooks := .later }
def FnExactDayNumberUptoCardSaid : Prop := Claim7.holds Tryd.pinned (.plain (OpenSpec.upto fnExactDayNumberSpec)) fnExactDayNumberUptoCard

/-- THE SECOND FORM's CARD OF 'laws.FnExactDateText'. -/
def fnExactDateTextUptoCard : Claim7 := { stood := { row := fnExactDateTextUptoRow, standIns := [], harness := (true, "52f896f05d126a74c8598a39536eb77541d5be6fed5e0de93903693cfe09fb4c"), looks := true }, kinds := [], alts := [], laidByText := true, laidKinds := [.data, .data, .data, .data], laidTests := true, laidLooks := .later }
def FnExactDateTextUptoCardSaid : Prop := Claim7.holds Tryd.pinned (.plain (OpenSpec.upto fnExactDateTextSpec)) fnExactDateTextUptoCard

/-- THE SECOND FORM's CARD OF 'laws.FnExactReadDate'. -/
def fnExactReadDateUptoCard : Claim7 := { stood := { row := fnExactReadDateUptoRow, standIns := [], harness := (true, "52f896f05d126a74c8598a39536eb77541d5be6fed5e0de93903693cfe09fb4c"), looks := true }, kinds := [], alts := [], laidByText := true, laidKinds := [.data, .data, .pinned], laidTests := true, laidLooks := .later }
def FnExactReadDateUptoCardSaid : Prop := Claim7.holds Tryd.pinned (.plain (OpenSpec.upto fnExactReadDateSpec)) fnExactReadDateUptoCard

/-- THE SECOND FORM's CARD OF 'laws.FnExactClockText'. -/
def fnExactClockTextUptoCard : Claim7 := { stood := { row := fnExactClockTextUptoRow, standIns := [], harness := (true, "52f896f05d126a74c8598a39536eb77541d5be6fed5e0de93903693cfe09fb4c"), looks := true }, kinds := [], alts := [], laidByText := true, laidKinds := [.data, .data, .data], laidTests := true, laidLooks := .later }
def FnExactClockTextUptoCardSaid : Prop := Claim7.holds Tryd.pinned (.plain (OpenSpec.upto fnExactClockTextSpec)) fnExactClockTextUptoCard

/-- THE SECOND FORM's CARD OF 'laws.FnExactReadClock'. -/
def fnExactReadClockUptoCard : Claim7 := { stood := { row := fnExactReadClockUptoRow, standIns := [], harness := (true, "52f896f05d126a74c8598a39536eb77541d5be6fed5e0de93903693cfe09fb4c"), looks := true }, kinds := [], alts := [], laidByText := true, laidKinds := [.data, .pinned], laidTests := true, laidLooks := .later }
def FnExactReadClockUptoCardSaid : Prop := Claim7.holds Tryd.pinned (.plain (OpenSpec.upto fnExactReadClockSpec)) fnExactReadClockUptoCard

/-- THE SECOND FORM's CARD OF 'laws.FnExactFixedText'. -/
def fnExactFixedTextUptoCard : Claim7 := { stood := { row := fnExactFixedTextUptoRow, standIns := [], harness := (true, "52f896f05d126a74c8598a39536eb77541d5be6fed5e0de93903693cfe09fb4c"), looks := true }, kinds := [], alts := [], laidByText := true, laidKinds := [.data, .data, .data], laidTests := true, laidLooks := .later }
def FnExactFixedTextUptoCardSaid : Prop := Claim7.holds Tryd.pinned (.plain (OpenSpec.upto fnExactFixedTextSpec)) fnExactFixedTextUptoCard

/-- THE SECOND FORM's CARD OF 'laws.FnExactReadFixed'. -/
def fnExactReadFixedUptoCard : Claim7 := { stood := { row := fnExactReadFixedUptoRow, standIns := [], harness := (true, "52f896f05d126a74c8598a39536eb77541d5be6fed5e0de93903693cfe09fb4c"), looks := true }, kinds := [], alts := [], laidByText := true, laidKinds := [.data, .data, .data, .data, .sentinel, .sentinel, .pinned], laidTests := true, laidLooks := .later }
def FnExactReadFixedUptoCardSaid : Prop := Claim7.holds Tryd.pinned (.plain (OpenSpec.upto fnExactReadFixedSpec)) fnExactReadFixedUptoCard

/-- THE SECOND FORM's CARD OF 'laws.FnExactBeaufortOf'. -/
def fnExactBeaufortOfUptoCard : Claim7 := { stood := { row := fnExactBeaufortOfUptoRow, standIns := [], harness := (true, "52f896f05d126a74c8598a39536eb77541d5be6fed5e0de93903693cfe09fb4c"), looks := true }, kinds := [], alts := [], laidByText := true, laidKinds := [.data], laidTests := true, laidLooks := .later }
def FnExactBeaufortOfUptoCardSaid : Prop := Claim7.holds Tryd.pinned (.plain (OpenSpec.upto fnExactBeaufortOfSpec)) fnExactBeaufortOfUptoCard

/-- THE SECOND FORM's CARD OF 'laws.FnExactWindName'. -/
def fnExactWindNameUptoCard : Claim7 := { stood := { row := fnExactWindNameUptoRow, standIns := [], harness := (true, "52f896f05d126a74c8598a39536eb77541d5be6fed5e0de93903693cfe09fb4c"), looks := true }, kinds := [], alts := [], laidByText := true, laidKinds := [.data], laidTests := true, laidLooks := .later }
def FnExactWindNameUptoCardSaid : Prop := Claim7.holds Tryd.pinned (.plain (OpenSpec.upto fnExactWindNameSpec)) fnExactWindNameUptoCard
end Rows
end Go.Proofs.YtnflndngkihaaaaDoor
