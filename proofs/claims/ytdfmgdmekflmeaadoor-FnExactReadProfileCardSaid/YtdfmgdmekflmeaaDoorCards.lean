/-
  DERIVED. GIVEN WITH THE SEED: THE CARDS: each row of YtdfmgdmekflmeaaDoorRows.lean that lists a variable, with what it lists TIED to the program's text (the seventh form; the later family's looks); each row that meets fmt, with fmt's text TOLD by the authors' own Lean function (tested against real Go, not proved from fmt's source: count such statements apart). THE CARD IS WHAT COUNTS. Prove the row's statement (the work); the ties are given (YtdfmgdmekflmeaaDoorTie.lean); close each card by the builder's one call (the guide's Derived/Test/ToyasCard.lean, 'card_holds'). Laid BY PROGRAM, IN A SANDBOX (cutbox-door.mjs). By AI agents, Wed Nov 11 2026. No macro, syntax, notation, axiom, sorry.
-/
import Derived.Test.YtdfmgdmekflmeaaDoorRows
import GoSem.ClaimSeven
namespace Go.Proofs.YtdfmgdmekflmeaaDoor
namespace Rows

/-- THE TIED CARD OF 'laws.FnExactProfileText'. -/
def fnExactProfileTextCard : Claim7 := { stood := { row := fnExactProfileTextRow, standIns := [], harness := (true, "df55677b3303604fe063a4997ee0bd9642cb1eda2921c05fccb47c99c3e06b73"), looks := true }, kinds := [], alts := [], laidByText := true, laidKinds := [.data, .data, .data], laidTests := true, laidLooks := .later }
def FnExactProfileTextCardSaid : Prop := Claim7.holds Tryd.pinned (.plain (OpenSpec.ofChange fnExactProfileTextSpec)) fnExactProfileTextCard

/-- THE TIED CARD OF 'laws.FnExactReadProfile'. -/
def fnExactReadProfileCard : Claim7 := { stood := { row := fnExactReadProfileRow, standIns := [], harness := (true, "df55677b3303604fe063a4997ee0bd9642cb1eda2921c05fccb47c99c3e06b73"), looks := true }, kinds := [], alts := [], laidByText := true, laidKinds := [.data, .data, .data, .data, .sentinel, .sentinel, .pinned], laidTests := true, laidLooks := .later }
def FnExactReadProfileCardSaid : Prop := Claim7.holds Tryd.pinned (.plain (OpenSpec.ofChange fnExactReadProfileSpec)) fnExactReadProfileCard

/-- THE TIED CARD OF 'laws.FnExactObservedText'. -/
def fnExactObservedTextCard : Claim7 := { stood := { row := fnExactObservedTextRow, standIns := [], harness := (true, "df55677b3303604fe063a4997ee0bd9642cb1eda2921c05fccb47c99c3e06b73"), looks := true }, kinds := [], alts := [], laidByText := true, laidKinds := [.data, .data, .data], laidTests := true, laidLooks := .later }
def FnExactObservedTextCardSaid : Prop := Claim7.holds Tryd.pinned (.plain (OpenSpec.ofChange fnExactObservedTextSpec)) fnExactObservedTextCard

/-- THE TIED CARD OF 'laws.FnExactReadObserved'. -/
def fnExactReadObservedCard : Claim7 := { stood := { row := fnExactReadObservedRow, standIns := [], harness := (true, "df55677b3303604fe063a4997ee0bd9642cb1eda2921c05fccb47c99c3e06b73"), looks := true }, kinds := [], alts := [], laidByText := true, laidKinds := [.data, .data, .data, .data, .sentinel, .sentinel, .pinned], laidTests := true, laidLooks := .later }
def FnExactReadObservedCardSaid : Prop := Claim7.holds Tryd.pinned (.plain (OpenSpec.ofChange fnExactReadObservedSpec)) fnExactReadObservedCard

/-- THE SECOND FORM's CARD OF 'laws.FnExactProfileText'. -/
def fnExactProfileTextUptoCard : Claim7 := { stood := { row := fnExactProfileTextUptoRow, standIns := [], harness := (true, "df55677b3303604fe063a4997ee0bd9642cb1eda2921c05fccb47c99c3e06b73"), looks := true }, kinds := [], alts := [], laidByText := true, laidKinds := [.data, .data, .data], laidTests := true, laidLooks := .later }
def FnExactProfileTextUptoCardSaid : Prop := Claim7.holds Tryd.pinned (.plain (OpenSpec.upto fnExactProfileTextSpec)) fnExactProfileTextUptoCard

/-- THE SECOND FORM's CARD OF 'laws.FnExactReadProfile'. -/
def fnExactReadProfileUptoCard : Claim7 := { stood := { row := fnExactReadProfileUptoRow, standIns := [], harness := (true, "df55677b3303604fe063a4997ee0bd9642cb1eda2921c05fccb47c99c3e06b73"), looks := true }, kinds := [], alts := [], laidByText := true, laidKinds := [.data, .data, .data, .data, .sentinel, .sentinel, .pinned], laidTests := true, laidLooks := .later }
def FnExactReadProfileUptoCardSaid : Prop := Claim7.holds Tryd.pinned (.plain (OpenSpec.upto fnExactReadProfileSpec)) fnExactReadProfileUptoCard

/-- THE SECOND FORM's CARD OF 'laws.FnExactObservedText'. -/
def fnExactObservedTextUptoCard : Claim7 := { stood := { row := fnExactObservedTextUptoRow, standIns := [], harness := (true, "df55677b3303604fe063a4997ee0bd9642cb1eda2921c05fccb47c99c3e06b73"), looks := true }, kinds := [], alts := [], laidByText := true, laidKinds := [.data, .data, .data], laidTests := true, laidLooks := .later }
def FnExactObservedTextUptoCardSaid : Prop := Claim7.holds Tryd.pinned (.plain (OpenSpec.upto fnExactObservedTextSpec)) fnExactObservedTextUptoCard

/-- THE SECOND FORM's CARD OF 'laws.FnExactReadObserved'. -/
def fnExactReadObservedUptoCard : Claim7 := { stood := { row := fnExactReadObservedUptoRow, standIns := [], harness := (true, "df55677b3303604fe063a4997ee0bd9642cb1eda2921c05fccb47c99c3e06b73"), looks := true }, kinds := [], alts := [], laidByText := true, laidKinds := [.data, .data, .data, .data, .sentinel, .sentinel, .pinned], laidTests := true, laidLooks := .later }
def FnExactReadObservedUptoCardSaid : Prop := Claim7.holds Tryd.pinned (.plain (OpenSpec.upto fnExactReadObservedSpec)) fnExactReadObservedUptoCard
end Rows
end Go.Proofs.YtdfmgdmekflmeaaDoor
