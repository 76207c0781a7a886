/-
  DERIVED. GIVEN WITH THE SEED: THE CARDS: each row of YtobcflcmlejajaaDoorRows.lean that lists a variable, with what it lists TIED to the program's text (the seventh form; the later family's looks); each row that meets fmt, with fmt's text TOLD by the authors' own Lean function (tested against real Go, not proved from fmt's source: count such statements apart). THE CARD IS WHAT COUNTS. Prove the row's statement (the work); the ties are given (YtobcflcmlejajaaDoorTie.lean); close each card by the builder's one call (the guide's Derived/Test/ToyasCard.lean, 'card_holds'). Laid BY PROGRAM, IN A SANDBOX (cutbox-door.mjs). By AI agents, Wed Nov 11 2026. No macro, syntax, notation, axiom, sorry.
-/
import Derived.Test.YtobcflcmlejajaaDoorRows
import GoSem.ClaimSeven
namespace Go.Proofs.YtobcflcmlejajaaDoor
namespace Rows

/-- THE TIED CARD OF 'laws.FnExactSizeClass'. -/
def fnExactSizeClassCard : Claim7 := { stood := { row := fnExactSizeClassRow, standIns := [], harness := (true, "665d53944b71195a3a98d6ec449ca9a6dedcb9271cc29b8f56f6c3e36a1a28c7"), looks := true }, kinds := [], alts := [], laidByText := true, laidKinds := [.data], laidTests := true, laidLooks := .later }
def FnExactSizeClassCardSaid : Prop := Claim7.holds Tryd.pinned (.plain (OpenSpec.ofChange fnExactSizeClassSpec)) fnExactSizeClassCard

/-- THE TIED CARD OF 'laws.FnExactGrowthOf'. -/
def fnExactGrowthOfCard : Claim7 := { stood := { row := fnExactGrowthOfRow, standIns := [], harness := (true, "665d53944b71195a3a98d6ec449ca9a6dedcb9271cc29b8f56f6c3e36a1a28c7"), looks := true }, kinds := [], alts := [], laidByText := true, laidKinds := [.sentinel], laidTests := true, laidLooks := .later }
def FnExactGrowthOfCardSaid : Prop := Claim7.holds Tryd.pinned (.plain (OpenSpec.ofChange fnExactGrowthOfSpec)) fnExactGrowthOfCard

/-- THE TIED CARD OF 'laws.FnExactLargestMass'. -/
def fnExactLargestMassCard : Claim7 := { stood := { row := fnExactLargestMassRow, standIns := [], harness := (true, "665d53944b71195a3a98d6ec449ca9a6dedcb9271cc29b8f56f6c3e36a1a28c7"), looks := true }, kinds := [], alts := [], laidByText := true, laidKinds := [.sentinel], laidTests := true, laidLooks := .later }
def FnExactLargestMassCardSaid : Prop := Claim7.holds Tryd.pinned (.plain (OpenSpec.ofChange fnExactLargestMassSpec)) fnExactLargestMassCard

/-- THE TIED CARD OF 'laws.FnExactLeastStart'. -/
def fnExactLeastStartCard : Claim7 := { stood := { row := fnExactLeastStartRow, standIns := [], harness := (true, "665d53944b71195a3a98d6ec449ca9a6dedcb9271cc29b8f56f6c3e36a1a28c7"), looks := true }, kinds := [], alts := [], laidByText := true, laidKinds := [.sentinel], laidTests := true, laidLooks := .later }
def FnExactLeastStartCardSaid : Prop := Claim7.holds Tryd.pinned (.plain (OpenSpec.ofChange fnExactLeastStartSpec)) fnExactLeastStartCard

/-- THE TIED CARD OF 'laws.FnExactJoinTonnes'. -/
def fnExactJoinTonnesCard : Claim7 := { stood := { row := fnExactJoinTonnesRow, standIns := [], harness := (true, "665d53944b71195a3a98d6ec449ca9a6dedcb9271cc29b8f56f6c3e36a1a28c7"), looks := true }, kinds := [], alts := [], laidByText := true, laidKinds := [.data, .sentinel], laidTests := true, laidLooks := .later }
def FnExactJoinTonnesCardSaid : Prop := Claim7.holds Tryd.pinned (.plain (OpenSpec.ofChange fnExactJoinTonnesSpec)) fnExactJoinTonnesCard

/-- THE TIED CARD OF 'laws.FnVolumes'. -/
def fnVolumesCard : Claim7 := { stood := { row := fnVolumesRow, standIns := [], harness := (true, "665d53944b71195a3a98d6ec449ca9a6dedcb9271cc29b8f56f6c3e36a1a28c7"), looks := true }, kinds := [], alts := [], laidByText := true, laidKinds := [.data, .sentinel], laidTests := true, laidLooks := .later }
def FnVolumesCardSaid : Prop := Claim7.holds Tryd.pinned (.plain (OpenSpec.ofChange fnVolumesSpec)) fnVolumesCard

/-- THE TIED CARD OF 'laws.FnGrowth'. -/
def fnGrowthCard : Claim7 := { stood := { row := fnGrowthRow, standIns := [], harness := (true, "665d53944b71195a3a98d6ec449ca9a6dedcb9271cc29b8f56f6c3e36a1a28c7"), looks := true }, kinds := [], alts := [], laidByText := true, laidKinds := [.sentinel], laidTests := true, laidLooks := .later }
def FnGrowthCardSaid : Prop := Claim7.holds Tryd.pinned (.plain (OpenSpec.ofChange fnGrowthSpec)) fnGrowthCard

/-- THE TIED CARD OF 'laws.FnExactPartText'. -/
def fnExactPartTextCard : Claim7 := { stood := { row := fnExactPartTextRow, standIns := [], harness := (true, "665d53944b71195a3a98d6ec449ca9a6dedcb9271cc29b8f56f6c3e36a1a28c7"), looks := true }, kinds := [], alts := [], laidByText := true, laidKinds := [.data, .data, .data], laidTests := true, laidLooks := .later }
def FnExactPartTextCardSaid : Prop := Claim7.holds Tryd.pinned (.plain (OpenSpec.ofChange fnExactPartTextSpec)) fnExactPartTextCard

/-- THE TIED CARD OF 'laws.FnExactReadPart'. -/
def fnExactReadPartCard : Claim7 := { stood := { row := fnExactReadPartRow, standIns := [], harness := (true, "665d53944b71195a3a98d6ec449ca9a6dedcb9271cc29b8f56f6c3e36a1a28c7"), looks := true }, kinds := [], alts := [], laidByText := true, laidKinds := [.data, .data, .data, .data, .sentinel, .sentinel, .pinned], laidTests := true, laidLooks := .later }
def FnExactReadPartCardSaid : Prop := Claim7.holds Tryd.pinned (.plain (OpenSpec.ofChange fnExactReadPartSpec)) fnExactReadPartCard

/-- THE SECOND FORM's CARD OF 'laws.FnExactSizeClass'. -/
def fnExactSizeClassUptoCard : Claim7 := { stood := { row := fnExactSizeClassUptoRow, standIns := [], harness := (true, "665d53944b71195a3a98d6ec449ca9a6dedcb9271cc29b8f56f6c3e36a1a28c7"), looks := true }, kinds := [], alts := [], laidByText := true, laidKinds := [.data], laidTests := true, laidLooks := .later }
def FnExactSizeClassUptoCardSaid : Prop := Claim7.holds Tryd.pinned (.plain (OpenSpec.upto fnExactSizeClassSpec)) fnExactSizeClassUptoCard

/-- THE SECOND FORM's CARD OF 'laws.FnExactGrowthOf'. -/
def fnExactGrowthOfUptoCard : Claim7 := { stood := { row := fnExactGrowthOfUptoRow, standIns := [], harness := (true, "665d53944b71195a3a98d6ec449ca9a6dedcb9271cc29b8f56f6c3e36a1a28c7"), looks := true }, kinds := [], alts := [], laidByText := true, laidKinds := [.sentinel], laidTests := true, laidLooks := .later }
def FnExactGrowthOfUptoCardSaid : Prop := Claim7.holds Tryd.pinned (.plain (OpenSpec.upto fnExactGrowthOfSpec)) fnExactGrowthOfUptoCard

/-- THE SECOND FORM's CARD OF 'laws.FnExactLargestMass'. -/
def fnExactLargestMassUptoCard : Claim7 := { stood := { row := fnExactLargestMassUptoRow, standIns := [], harness := (true, "665d53944b71195a3a98d6ec449ca9a6dedcb9271cc29b8f56f6c3e36a1a28c7"), looks := true }, kinds := [], alts := [], laidByText := true, laidKinds := [.sentinel], laidTests := true, laidLooks := .later }
def FnExactLargestMassUptoCardSaid : Prop := Claim7.holds Tryd.pinned (.plain (OpenSpec.upto fnExactLargestMassSpec)) fnExactLargestMassUptoCard

/-- THE SECOND FORM's CARD OF 'laws.FnExactLeastStart'. -/
def fnExactLeastStartUptoCard : Claim7 := { stood := { row := fnExactLeastStartUptoRow, standIns := [], harness := (true, "665d53944b71195a3a98d6ec449ca9a6dedcb9271cc29b8f56f6c3e36a1a28c7"), looks := true }, kinds := [], alts := [], laidByText := true, laidKinds := [.sentinel], laidTests := true, laidLooks := .later }
def FnExactLeastStartUptoCardSaid : Prop := Claim7.holds Tryd.pinned (.plain (OpenSpec.upto fnExactLeastStartSpec)) fnExactLeastStartUptoCard

/-- THE SECOND FORM's CARD OF 'laws.FnExactJoinTonnes'. -/
def fnExactJoinTonnesUptoCard : Claim7 := { stood := { row := fnExactJoinTonnesUptoRow, standIns := [], harness := (true, "665d53944b71195a3a98d6ec449ca9a6dedcb9271cc29b8f56f6c3e36a1a28c7"), looks := true }, kinds := [], alts := [], laidByText := true, laidKinds := [.data, .sentinel], laidTests := true, laidLooks := .later }
def FnExactJoinTonnesUptoCardSaid : Prop := Claim7.holds Tryd.pinned (.plain (OpenSpec.upto fnExactJoinTonnesSpec)) fnExactJoinTonnesUptoCard

/-- THE SECOND FORM's CARD OF 'laws.FnVolumes'. -/
def fnVolumesUptoCard : Claim7 := { stood := { row := fnVolumesUptoRow, standIns := [], harness := (true, "665d53944b71195a3a98d6ec449ca9a6dedcb9271cc29b8f56f6c3e36a1a28c7"), looks := true }, kinds := [], alts := [], laidByText := true, laidKinds := [.data, .sentinel], laidTests := true, laidLooks := .later }
def FnVolumesUptoCardSaid : Prop := Claim7.holds Tryd.pinned (.plain (OpenSpec.upto fnVolumesSpec)) fnVolumesUptoCard

/-- THE SECOND FORM's CARD OF 'laws.FnGrowth'. -/
def fnGrowthUptoCard : Claim7 := { stood := { row := fnGrowthUptoRow, standIns := [], harness := (true, "665d53944b71195a3a98d6ec449ca9a6dedcb9271cc29b8f56f6c3e36a1a28c7"), looks := true }, kinds := [], alts := [], laidByText := true, laidKinds := [.sentinel], laidTests := true, laidLooks := .later }
def FnGrowthUptoCardSaid : Prop := Claim7.holds Tryd.pinned (.plain (OpenSpec.upto fnGrowthSpec)) fnGrowthUptoCard

/-- THE SECOND FORM's CARD OF 'laws.FnExactPartText'. -/
def fnExactPartTextUptoCard : Claim7 := { stood := { row := fnExactPartTextUptoRow, standIns := [], harness := (true, "665d53944b71195a3a98d6ec449ca9a6dedcb9271cc29b8f56f6c3e36a1a28c7"), looks := true }, kinds := [], alts := [], laidByText := true, laidKinds := [.data, .data, .data], laidTests := true, laidLooks := .later }
def FnExactPartTextUptoCardSaid : Prop := Claim7.holds Tryd.pinned (.plain (OpenSpec.upto fnExactPartTextSpec)) fnExactPartTextUptoCard

/-- THE SECOND FORM's CARD OF 'laws.FnExactReadPart'. -/
def fnExactReadPartUptoCard : Claim7 := { stood := { row := fnExactReadPartUptoRow, standIns := [], harness := (true, "665d53944b71195a3a98d6ec449ca9a6dedcb9271cc29b8f56f6c3e36a1a28c7"), looks := true }, kinds := [], alts := [], laidByText := true, laidKinds := [.data, .data, .data, .data, .sentinel, .sentinel, .pinned], laidTests := true, laidLooks := .later }
def FnExactReadPartUptoCardSaid : Prop := Claim7.holds Tryd.pinned (.plain (OpenSpec.upto fnExactReadPartSpec)) fnExactReadPartUptoCard
end Rows
end Go.Proofs.YtobcflcmlejajaaDoor
