/-
  DERIVED. GIVEN WITH THE SEED: THE CARDS: each row of YteileaeeiejonacDoorRows.lean that lists a variable, with what it lists TIED to the program's text (the seventh form; the later family's looks); each row that meets fmt, with fmt's text TOLD by the authors' own Lean function (tested against real Go, not proved from fmt's source: count such statements apart). THE CARD IS WHAT COUNTS. Prove the row's statement (the work); the ties are given (YteileaeeiejonacDoorTie.lean); close each card by the builder's one call (the guide's Derived/Test/ToyasCard.lean, 'card_holds'). Laid BY PROGRAM, IN A SANDBOX (cutbox-door.mjs). By AI agents, Wed Nov 11 2026. No macro, syntax, notation, axiom, sorry.
-/
import Derived.Test.YteileaeeiejonacDoorRows
import GoSem.ClaimSeven
namespace Go.Proofs.YteileaeeiejonacDoor
namespace Rows

/-- THE TIED CARD OF 'laws.FnExactAspectName'. -/
def fnExactAspectNameCard : Claim7 := { stood := { row := fnExactAspectNameRow, standIns := [], harness := (true, "b291415edf1bc7be60597ccda5e1a256f3735b92c0d87223fb91d3b1c42dc1f9"), looks := true }, kinds := [], alts := [], laidByText := true, laidKinds := [.data], laidTests := true, laidLooks := .later }
def FnExactAspectNameCardSaid : Prop := Claim7.holds Tryd.pinned (.plain (OpenSpec.ofChange fnExactAspectNameSpec)) fnExactAspectNameCard

/-- THE TIED CARD OF 'laws.FnExactGridText'. -/
def fnExactGridTextCard : Claim7 := { stood := { row := fnExactGridTextRow, standIns := [], harness := (true, "b291415edf1bc7be60597ccda5e1a256f3735b92c0d87223fb91d3b1c42dc1f9"), looks := true }, kinds := [], alts := [], laidByText := true, laidKinds := [.data, .data, .data], laidTests := true, laidLooks := .later }
def FnExactGridTextCardSaid : Prop := Claim7.holds Tryd.pinned (.plain (OpenSpec.ofChange fnExactGridTextSpec)) fnExactGridTextCard

/-- THE TIED CARD OF 'laws.FnExactReadGrid'. -/
def fnExactReadGridCard : Claim7 := { stood := { row := fnExactReadGridRow, standIns := [], harness := (true, "b291415edf1bc7be60597ccda5e1a256f3735b92c0d87223fb91d3b1c42dc1f9"), looks := true }, kinds := [], alts := [], laidByText := true, laidKinds := [.data, .data, .data, .data, .sentinel, .sentinel, .pinned], laidTests := true, laidLooks := .later }
def FnExactReadGridCardSaid : Prop := Claim7.holds Tryd.pinned (.plain (OpenSpec.ofChange fnExactReadGridSpec)) fnExactReadGridCard

/-- THE TIED CARD OF 'laws.FnExactTestText'. -/
def fnExactTestTextCard : Claim7 := { stood := { row := fnExactTestTextRow, standIns := [], harness := (true, "b291415edf1bc7be60597ccda5e1a256f3735b92c0d87223fb91d3b1c42dc1f9"), looks := true }, kinds := [], alts := [], laidByText := true, laidKinds := [.data, .data, .data, .data], laidTests := true, laidLooks := .later }
def FnExactTestTextCardSaid : Prop := Claim7.holds Tryd.pinned (.plain (OpenSpec.ofChange fnExactTestTextSpec)) fnExactTestTextCard

/-- THE TIED CARD OF 'laws.FnExactReadTest'. -/
def fnExactReadTestCard : Claim7 := { stood := { row := fnExactReadTestRow, standIns := [], harness := (true, "b291415edf1bc7be60597ccda5e1a256f3735b92c0d87223fb91d3b1c42dc1f9"), looks := true }, kinds := [], alts := [], laidByText := true, laidKinds := [.data, .data, .data, .data, .sentinel, .sentinel, .data, .pinned], laidTests := true, laidLooks := .later }
def FnExactReadTestCardSaid : Prop := Claim7.holds Tryd.pinned (.plain (OpenSpec.ofChange fnExactReadTestSpec)) fnExactReadTestCard

/-- THE TIED CARD OF 'laws.FnExactDepthGroups'. -/
def fnExactDepthGroupsCard : Claim7 := { stood := { row := fnExactDepthGroupsRow, standIns := [], harness := (true, "b291415edf1bc7be60597ccda5e1a256f3735b92c0d87223fb91d3b1c42dc1f9"), looks := true }, kinds := [], alts := [], laidByText := true, laidKinds := [.data], laidTests := true, laidLooks := .later }
def FnExactDepthGroupsCardSaid : Prop := Claim7.holds Tryd.pinned (.plain (OpenSpec.ofChange fnExactDepthGroupsSpec)) fnExactDepthGroupsCard

/-- THE TIED CARD OF 'laws.FnDepths'. -/
def fnDepthsCard : Claim7 := { stood := { row := fnDepthsRow, standIns := [], harness := (true, "b291415edf1bc7be60597ccda5e1a256f3735b92c0d87223fb91d3b1c42dc1f9"), looks := true }, kinds := [], alts := [], laidByText := true, laidKinds := [.data], laidTests := true, laidLooks := .later }
def FnDepthsCardSaid : Prop := Claim7.holds Tryd.pinned (.plain (OpenSpec.ofChange fnDepthsSpec)) fnDepthsCard

/-- THE SECOND FORM's CARD OF 'laws.FnExactAspectName'. -/
def fnExactAspectNameUptoCard : Claim7 := { stood := { row := fnExactAspectNameUptoRow, standIns := [], harness := (true, "b291415edf1bc7be60597ccda5e1a256f3735b92c0d87223fb91d3b1c42dc1f9"), looks := true }, kinds := [], alts := [], laidByText := true, laidKinds := [.data], laidTests := true, laidLooks := .later }
def FnExactAspectNameUptoCardSaid : Prop := Claim7.holds Tryd.pinned (.plain (OpenSpec.upto fnExactAspectNameSpec)) fnExactAspectNameUptoCard

/-- THE SECOND FORM's CARD OF 'laws.FnExactGridText'. -/
def fnExactGridTextUptoCard : Claim7 := { stood := { row := fnExactGridTextUptoRow, standIns := [], harness := (true, "b291415edf1bc7be60597ccda5e1a256f3735b92c0d87223fb91d3b1c42dc1f9"), looks := true }, kinds := [], alts := [], laidByText := true, laidKinds := [.data, .data, .data], laidTests := true, laidLooks := .later }
def FnExactGridTextUptoCardSaid : Prop := Claim7.holds Tryd.pinned (.plain (OpenSpec.upto fnExactGridTextSpec)) fnExactGridTextUptoCard

/-- THE SECOND FORM's CARD OF 'laws.FnExactReadGrid'. -/
def fnExactReadGridUptoCard : Claim7 := { stood := { row := fnExactReadGridUptoRow, standIns := [], harness := (true, "b291415edf1bc7be60597ccda5e1a256f3735b92c0d87223fb91d3b1c42dc1f9"), looks := true }, kinds := [], alts := [], laidByText := true, laidKinds := [.data, .data, .data, .data, .sentinel, .sentinel, .pinned], laidTests := true, laidLooks := .later }
def FnExactReadGridUptoCardSaid : Prop := Claim7.holds Tryd.pinned (.plain (OpenSpec.upto fnExactReadGridSpec)) fnExactReadGridUptoCard

/-- THE SECOND FORM's CARD OF 'laws.FnExactTestText'. -/
def fnExactTestTextUptoCard : Claim7 := { stood := { row := fnExactTestTextUptoRow, standIns := [], harness := (true, "b291415edf1bc7be60597ccda5e1a256f3735b92c0d87223fb91d3b1c42dc1f9"), looks := true }, kinds := [], alts := [], laidByText := true, laidKinds := [.data, .data, .data, .data], laidTests := true, laidLooks := .later }
def FnExactTestTextUptoCardSaid : Prop := Claim7.holds Tryd.pinned (.plain (OpenSpec.upto fnExactTestTextSpec)) fnExactTestTextUptoCard

/-- THE SECOND FORM's CARD OF 'laws.FnExactReadTest'. -/
def fnExactReadTestUptoCard : Claim7 := { stood := { row := fnExactReadTestUptoRow, standIns := [], harness := (true, "b291415edf1bc7be60597ccda5e1a256f3735b92c0d87223fb91d3b1c42dc1f9"), looks := true }, kinds := [], alts := [], laidByText := true, laidKinds := [.data, .data, .data, .data, .sentinel, .sentinel, .data, .pinned], laidTests := true, laidLooks := .later }
def FnExactReadTestUptoCardSaid : Prop := Claim7.holds Tryd.pinned (.plain (OpenSpec.upto fnExactReadTestSpec)) fnExactReadTestUptoCard

/-- THE SECOND FORM's CARD OF 'laws.FnExactDepthGroups'. -/
def fnExactDepthGroupsUptoCard : Claim7 := { stood := { row := fnExactDepthGroupsUptoRow, standIns := [], harness := (true, "b291415edf1bc7be60597ccda5e1a256f3735b92c0d87223fb91d3b1c42dc1f9"), looks := true }, kinds := [], alts := [], laidByText := true, laidKinds := [.data], laidTests := true, laidLooks := .later }
def FnExactDepthGroupsUptoCardSaid : Prop := Claim7.holds Tryd.pinned (.plain (OpenSpec.upto fnExactDepthGroupsSpec)) fnExactDepthGroupsUptoCard

/-- THE SECOND FORM's CARD OF 'laws.FnDepths'. -/
def fnDepthsUptoCard : Claim7 := { stood := { row := fnDepthsUptoRow, standIns := [], harness := (true, "b291415edf1bc7be60597ccda5e1a256f3735b92c0d87223fb91d3b1c42dc1f9"), looks := true }, kinds := [], alts := [], laidByText := true, laidKinds := [.data], laidTests := true, laidLooks := .later }
def FnDepthsUptoCardSaid : Prop := Claim7.holds Tryd.pinned (.plain (OpenSpec.upto fnDepthsSpec)) fnDepthsUptoCard
end Rows
end Go.Proofs.YteileaeeiejonacDoor
