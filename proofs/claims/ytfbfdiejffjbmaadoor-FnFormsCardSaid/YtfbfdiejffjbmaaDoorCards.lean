/-
  DERIVED. GIVEN WITH THE SEED: THE CARDS: each row of YtfbfdiejffjbmaaDoorRows.lean that lists a variable, with what it lists TIED to the program's text (the seventh form; the later family's looks); each row that meets fmt, with fmt's text TOLD by the authors' own Lean function (tested against real Go, not proved from fmt's source: count such statements apart). THE CARD IS WHAT COUNTS. Prove the row's statement (the work); the ties are given (YtfbfdiejffjbmaaDoorTie.lean); close each card by the builder's one call (the guide's Derived/Test/ToyasCard.lean, 'card_holds'). Laid BY PROGRAM, IN A SANDBOX (cutbox-door.mjs). By AI agents, Wed Nov 11 2026. No macro, syntax, notation, axiom, sorry.
-/
import Derived.Test.YtfbfdiejffjbmaaDoorRows
import GoSem.ClaimSeven
namespace Go.Proofs.YtfbfdiejffjbmaaDoor
namespace Rows

/-- THE TIED CARD OF 'laws.FnForms'. -/
def fnFormsCard : Claim7 := { stood := { row := fnFormsRow, standIns := [], harness := (true, "334649ad04e945b2e5c81258b69def81a361fdebd8bdc050e19b01236812c08c"), looks := false }, kinds := [], alts := [], laidByText := true, laidKinds := [.data, .data], laidTests := true, laidLooks := .later }
def FnFormsCardSaid : Prop := Claim7.holds Tryd.pinned (.plain (OpenSpec.ofChange fnFormsSpec)) fnFormsCard

/-- THE TIED CARD OF 'laws.FnExactChangeForms'. -/
def fnExactChangeFormsCard : Claim7 := { stood := { row := fnExactChangeFormsRow, standIns := [], harness := (true, "334649ad04e945b2e5c81258b69def81a361fdebd8bdc050e19b01236812c08c"), looks := false }, kinds := [], alts := [], laidByText := true, laidKinds := [.data], laidTests := true, laidLooks := .later }
def FnExactChangeFormsCardSaid : Prop := Claim7.holds Tryd.pinned (.plain (OpenSpec.ofChange fnExactChangeFormsSpec)) fnExactChangeFormsCard

/-- THE TIED CARD OF 'laws.FnExactStepHour'. -/
def fnExactStepHourCard : Claim7 := { stood := { row := fnExactStepHourRow, standIns := [], harness := (true, "334649ad04e945b2e5c81258b69def81a361fdebd8bdc050e19b01236812c08c"), looks := false }, kinds := [], alts := [], laidByText := true, laidKinds := [.data], laidTests := true, laidLooks := .later }
def FnExactStepHourCardSaid : Prop := Claim7.holds Tryd.pinned (.plain (OpenSpec.ofChange fnExactStepHourSpec)) fnExactStepHourCard

/-- THE TIED CARD OF 'laws.FnExactRunHours'. -/
def fnExactRunHoursCard : Claim7 := { stood := { row := fnExactRunHoursRow, standIns := [], harness := (true, "334649ad04e945b2e5c81258b69def81a361fdebd8bdc050e19b01236812c08c"), looks := false }, kinds := [], alts := [], laidByText := true, laidKinds := [.data], laidTests := true, laidLooks := .later }
def FnExactRunHoursCardSaid : Prop := Claim7.holds Tryd.pinned (.plain (OpenSpec.ofChange fnExactRunHoursSpec)) fnExactRunHoursCard

/-- THE SECOND FORM's CARD OF 'laws.FnForms'. -/
def fnFormsUptoCard : Claim7 := { stood := { row := fnFormsUptoRow, standIns := [], harness := (true, "334649ad04e945b2e5c81258b69def81a361fdebd8bdc050e19b01236812c08c"), looks := false }, kinds := [], alts := [], laidByText := true, laidKinds := [.data, .data], laidTests := true, laidLooks := .later }
def FnFormsUptoCardSaid : Prop := Claim7.holds Tryd.pinned (.plain (OpenSpec.upto fnFormsSpec)) fnFormsUptoCard

/-- THE SECOND FORM's CARD OF 'laws.FnExactChangeForms'. -/
def fnExactChangeFormsUptoCard : Claim7 := { stood := { row := fnExactChangeFormsUptoRow, standIns := [], harness := (true, "334649ad04e945b2e5c81258b69def81a361fdebd8bdc050e19b01236812c08c"), looks := false }, kinds := [], alts := [], laidByText := true, laidKinds := [.data], laidTests := true, laidLooks := .later }
def FnExactChangeFormsUptoCardSaid : Prop := Claim7.holds Tryd.pinned (.plain (OpenSpec.upto fnExactChangeFormsSpec)) fnExactChangeFormsUptoCard

/-- THE SECOND FORM's CARD OF 'laws.FnExactStepHour'. -/
def fnExactStepHourUptoCard : Claim7 := { stood := { row := fnExactStepHourUptoRow, standIns := [], harness := (true, "334649ad04e945b2e5c81258b69def81a361fdebd8bdc050e19b01236812c08c"), looks := false }, kinds := [], alts := [], laidByText := true, laidKinds := [.data], laidTests := true, laidLooks := .later }
def FnExactStepHourUptoCardSaid : Prop := Claim7.holds Tryd.pinned (.plain (OpenSpec.upto fnExactStepHourSpec)) fnExactStepHourUptoCard

/-- THE SECOND FORM's CARD OF 'laws.FnExactRunHours'. -/
def fnExactRunHoursUptoCard : Claim7 := { stood := { row := fnExactRunHoursUptoRow, standIns := [], harness := (true, "334649ad04e945b2e5c81258b69def81a361fdebd8bdc050e19b01236812c08c"), looks := false }, kinds := [], alts := [], laidByText := true, laidKinds := [.data], laidTests := true, laidLooks := .later }
def FnExactRunHoursUptoCardSaid : Prop := Claim7.holds Tryd.pinned (.plain (OpenSpec.upto fnExactRunHoursSpec)) fnExactRunHoursUptoCard
end Rows
end Go.Proofs.YtfbfdiejffjbmaaDoor
