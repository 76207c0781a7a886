/-
  DERIVED. GIVEN WITH THE SEED: THE CARDS: each row of YteileaeeiejonaaDoorRows.lean that lists a variable, with what it lists TIED to the program's text (the seventh form; the later family's looks); each row that meets fmt, with fmt's text TOLD by the authors' own Lean function (tested against real Go, not proved from fmt's source: count such statements apart). THE CARD IS WHAT COUNTS. Prove the row's statement (the work); the ties are given (YteileaeeiejonaaDoorTie.lean); close each card by the builder's one call (the guide's Derived/Test/ToyasCard.lean, 'card_holds'). Laid BY PROGRAM, IN A SANDBOX (cutbox-door.mjs). By AI agents, Wed Nov 11 2026. No macro, syntax, notation, axiom, sorry.
-/
import Derived.Test.YteileaeeiejonaaDoorRows
import GoSem.ClaimSeven
namespace Go.Proofs.YteileaeeiejonaaDoor
namespace Rows

/-- THE TIED CARD OF 'laws.FnExactTestName'. -/
def fnExactTestNameCard : Claim7 := { stood := { row := fnExactTestNameRow, standIns := [], harness := (true, "d5f865bb43f6ff8e582b6254ed667a0313f7ff175eb685696da1a5b6a71d0a60"), looks := false }, kinds := [], alts := [], laidByText := true, laidKinds := [.data], laidTests := true, laidLooks := .later }
def FnExactTestNameCardSaid : Prop := Claim7.holds Tryd.pinned (.plain (OpenSpec.ofChange fnExactTestNameSpec)) fnExactTestNameCard

/-- THE TIED CARD OF 'laws.FnExactValidTests'. -/
def fnExactValidTestsCard : Claim7 := { stood := { row := fnExactValidTestsRow, standIns := [], harness := (true, "d5f865bb43f6ff8e582b6254ed667a0313f7ff175eb685696da1a5b6a71d0a60"), looks := false }, kinds := [], alts := [], laidByText := true, laidKinds := [.data], laidTests := true, laidLooks := .later }
def FnExactValidTestsCardSaid : Prop := Claim7.holds Tryd.pinned (.plain (OpenSpec.ofChange fnExactValidTestsSpec)) fnExactValidTestsCard

/-- THE TIED CARD OF 'laws.FnExactClassOf'. -/
def fnExactClassOfCard : Claim7 := { stood := { row := fnExactClassOfRow, standIns := [], harness := (true, "d5f865bb43f6ff8e582b6254ed667a0313f7ff175eb685696da1a5b6a71d0a60"), looks := false }, kinds := [], alts := [], laidByText := true, laidKinds := [.data], laidTests := true, laidLooks := .later }
def FnExactClassOfCardSaid : Prop := Claim7.holds Tryd.pinned (.plain (OpenSpec.ofChange fnExactClassOfSpec)) fnExactClassOfCard

/-- THE TIED CARD OF 'laws.FnExactWorstClass'. -/
def fnExactWorstClassCard : Claim7 := { stood := { row := fnExactWorstClassRow, standIns := [], harness := (true, "d5f865bb43f6ff8e582b6254ed667a0313f7ff175eb685696da1a5b6a71d0a60"), looks := false }, kinds := [], alts := [], laidByText := true, laidKinds := [.data], laidTests := true, laidLooks := .later }
def FnExactWorstClassCardSaid : Prop := Claim7.holds Tryd.pinned (.plain (OpenSpec.ofChange fnExactWorstClassSpec)) fnExactWorstClassCard

/-- THE TIED CARD OF 'laws.FnExactMeanClass'. -/
def fnExactMeanClassCard : Claim7 := { stood := { row := fnExactMeanClassRow, standIns := [], harness := (true, "d5f865bb43f6ff8e582b6254ed667a0313f7ff175eb685696da1a5b6a71d0a60"), looks := false }, kinds := [], alts := [], laidByText := true, laidKinds := [.data], laidTests := true, laidLooks := .later }
def FnExactMeanClassCardSaid : Prop := Claim7.holds Tryd.pinned (.plain (OpenSpec.ofChange fnExactMeanClassSpec)) fnExactMeanClassCard

/-- THE TIED CARD OF 'laws.FnExactRecentTests'. -/
def fnExactRecentTestsCard : Claim7 := { stood := { row := fnExactRecentTestsRow, standIns := [], harness := (true, "d5f865bb43f6ff8e582b6254ed667a0313f7ff175eb685696da1a5b6a71d0a60"), looks := false }, kinds := [], alts := [], laidByText := true, laidKinds := [.data], laidTests := true, laidLooks := .later }
def FnExactRecentTestsCardSaid : Prop := Claim7.holds Tryd.pinned (.plain (OpenSpec.ofChange fnExactRecentTestsSpec)) fnExactRecentTestsCard

/-- THE TIED CARD OF 'laws.FnExactAgreeOf'. -/
def fnExactAgreeOfCard : Claim7 := { stood := { row := fnExactAgreeOfRow, standIns := [], harness := (true, "d5f865bb43f6ff8e582b6254ed667a0313f7ff175eb685696da1a5b6a71d0a60"), looks := false }, kinds := [], alts := [], laidByText := true, laidKinds := [.data], laidTests := true, laidLooks := .later }
def FnExactAgreeOfCardSaid : Prop := Claim7.holds Tryd.pinned (.plain (OpenSpec.ofChange fnExactAgreeOfSpec)) fnExactAgreeOfCard

/-- THE TIED CARD OF 'laws.FnExactWeakDepth'. -/
def fnExactWeakDepthCard : Claim7 := { stood := { row := fnExactWeakDepthRow, standIns := [], harness := (true, "d5f865bb43f6ff8e582b6254ed667a0313f7ff175eb685696da1a5b6a71d0a60"), looks := false }, kinds := [], alts := [], laidByText := true, laidKinds := [.data], laidTests := true, laidLooks := .later }
def FnExactWeakDepthCardSaid : Prop := Claim7.holds Tryd.pinned (.plain (OpenSpec.ofChange fnExactWeakDepthSpec)) fnExactWeakDepthCard

/-- THE TIED CARD OF 'laws.FnExactKindsUsed'. -/
def fnExactKindsUsedCard : Claim7 := { stood := { row := fnExactKindsUsedRow, standIns := [], harness := (true, "d5f865bb43f6ff8e582b6254ed667a0313f7ff175eb685696da1a5b6a71d0a60"), looks := false }, kinds := [], alts := [], laidByText := true, laidKinds := [.data], laidTests := true, laidLooks := .later }
def FnExactKindsUsedCardSaid : Prop := Claim7.holds Tryd.pinned (.plain (OpenSpec.ofChange fnExactKindsUsedSpec)) fnExactKindsUsedCard

/-- THE TIED CARD OF 'laws.FnExactContradictTests'. -/
def fnExactContradictTestsCard : Claim7 := { stood := { row := fnExactContradictTestsRow, standIns := [], harness := (true, "d5f865bb43f6ff8e582b6254ed667a0313f7ff175eb685696da1a5b6a71d0a60"), looks := false }, kinds := [], alts := [], laidByText := true, laidKinds := [.data], laidTests := true, laidLooks := .later }
def FnExactContradictTestsCardSaid : Prop := Claim7.holds Tryd.pinned (.plain (OpenSpec.ofChange fnExactContradictTestsSpec)) fnExactContradictTestsCard

/-- THE SECOND FORM's CARD OF 'laws.FnExactTestName'. -/
def fnExactTestNameUptoCard : Claim7 := { stood := { row := fnExactTestNameUptoRow, standIns := [], harness := (true, "d5f865bb43f6ff8e582b6254ed667a0313f7ff175eb685696da1a5b6a71d0a60"), looks := false }, kinds := [], alts := [], laidByText := true, laidKinds := [.data], laidTests := true, laidLooks := .later }
def FnExactTestNameUptoCardSaid : Prop := Claim7.holds Tryd.pinned (.plain (OpenSpec.upto fnExactTestNameSpec)) fnExactTestNameUptoCard

/-- THE SECOND FORM's CARD OF 'laws.FnExactValidTests'. -/
def fnExactValidTestsUptoCard : Claim7 := { stood := { row := fnExactValidTestsUptoRow, standIns := [], harness := (true, "d5f865bb43f6ff8e582b6254ed667a0313f7ff175eb685696da1a5b6a71d0a60"), looks := false }, kinds := [], alts := [], laidByText := true, laidKinds := [.data], laidTests := true, laidLooks := .later }
def FnExactValidTestsUptoCardSaid : Prop := Claim7.holds Tryd.pinned (.plain (OpenSpec.upto fnExactValidTestsSpec)) fnExactValidTestsUptoCard

/-- THE SECOND FORM's CARD OF 'laws.FnExactClassOf'. -/
def fnExactClassOfUptoCard : Claim7 := { stood := { row := fnExactClassOfUptoRow, standIns := [], harness := (true, "d5f865bb43f6ff8e582b6254ed667a0313f7ff175eb685696da1a5b6a71d0a60"), looks := false }, kinds := [], alts := [], laidByText := true, laidKinds := [.data], laidTests := true, laidLooks := .later }
def FnExactClassOfUptoCardSaid : Prop := Claim7.holds Tryd.pinned (.plain (OpenSpec.upto fnExactClassOfSpec)) fnExactClassOfUptoCard

/-- THE SECOND FORM's CARD OF 'laws.FnExactWorstClass'. -/
def fnExactWorstClassUptoCard : Claim7 := { stood := { row := fnExactWorstClassUptoRow, standIns := [], harness := (true, "d5f865bb43f6ff8e582b6254ed667a0313f7ff175eb685696da1a5b6a71d0a60"), looks := false }, kinds := [], alts := [], laidByText := true, laidKinds := [.data], laidTests := true, laidLooks := .later }
def FnExactWorstClassUptoCardSaid : Prop := Claim7.holds Tryd.pinned (.plain (OpenSpec.upto fnExactWorstClassSpec)) fnExactWorstClassUptoCard

/-- THE SECOND FORM's CARD OF 'laws.FnExactMeanClass'. -/
def fnExactMeanClassUptoCard : Claim7 := { stood := { row := fnExactMeanClassUptoRow, standIns := [], harness := (true, "d5f865bb43f6ff8e582b6254ed667a0313f7ff175eb685696da1a5b6a71d0a60"), looks := false }, kinds := [], alts := [], laidByText := true, laidKinds := [.data], laidTests := true, laidLooks := .later }
def FnExactMeanClassUptoCardSaid : Prop := Claim7.holds Tryd.pinned (.plain (OpenSpec.upto fnExactMeanClassSpec)) fnExactMeanClassUptoCard

/-- THE SECOND FORM's CARD OF 'laws.FnExactRecentTests'. -/
def fnExactRecentTestsUptoCard : Claim7 := { stood := { row := fnExactRecentTestsUptoRow, standIns := [], harness := (true, "d5f865bb43f6ff8e582b6254ed667a0313f7ff175eb685696da1a5b6a71d0a60"), looks := false }, kinds := [], alts := [], laidByText := true, laidKinds := [.data], laidTests := true, laidLooks := .later }
def FnExactRecentTestsUptoCardSaid : Prop := Claim7.holds Tryd.pinned (.plain (OpenSpec.upto fnExactRecentTestsSpec)) fnExactRecentTestsUptoCard

/-- THE SECOND FORM's CARD OF 'laws.FnExactAgreeOf'. -/
def fnExactAgreeOfUptoCard : Claim7 := { stood := { row := fnExactAgreeOfUptoRow, standIns := [], harness := (true, "d5f865bb43f6ff8e582b6254ed667a0313f7ff175eb685696da1a5b6a71d0a60"), looks := false }, kinds := [], alts := [], laidByText := true, laidKinds := [.data], laidTests := true, laidLooks := .later }
def FnExactAgreeOfUptoCardSaid : Prop := Claim7.holds Tryd.pinned (.plain (OpenSpec.upto fnExactAgreeOfSpec)) fnExactAgreeOfUptoCard

/-- THE SECOND FORM's CARD OF 'laws.FnExactWeakDepth'. -/
def fnExactWeakDepthUptoCard : Claim7 := { stood := { row := fnExactWeakDepthUptoRow, standIns := [], harness := (true, "d5f865bb43f6ff8e582b6254ed667a0313f7ff175eb685696da1a5b6a71d0a60"), looks := false }, kinds := [], alts := [], laidByText := true, laidKinds := [.data], laidTests := true, laidLooks := .later }
def FnExactWeakDepthUptoCardSaid : Prop := Claim7.holds Tryd.pinned (.plain (OpenSpec.upto fnExactWeakDepthSpec)) fnExactWeakDepthUptoCard

/-- THE SECOND FORM's CARD OF 'laws.FnExactKindsUsed'. -/
def fnExactKindsUsedUptoCard : Claim7 := { stood := { row := fnExactKindsUsedUptoRow, standIns := [], harness := (true, "d5f865bb43f6ff8e582b6254ed667a0313f7ff175eb685696da1a5b6a71d0a60"), looks := false }, kinds := [], alts := [], laidByText := true, laidKinds := [.data], laidTests := true, laidLooks := .later }
def FnExactKindsUsedUptoCardSaid : Prop := Claim7.holds Tryd.pinned (.plain (OpenSpec.upto fnExactKindsUsedSpec)) fnExactKindsUsedUptoCard

/-- THE SECOND FORM's CARD OF 'laws.FnExactContradictTests'. -/
def fnExactContradictTestsUptoCard : Claim7 := { stood := { row := fnExactContradictTestsUptoRow, standIns := [], harness := (true, "d5f865bb43f6ff8e582b6254ed667a0313f7ff175eb685696da1a5b6a71d0a60"), looks := false }, kinds := [], alts := [], laidByText := true, laidKinds := [.data], laidTests := true, laidLooks := .later }
def FnExactContradictTestsUptoCardSaid : Prop := Claim7.holds Tryd.pinned (.plain (OpenSpec.upto fnExactContradictTestsSpec)) fnExactContradictTestsUptoCard
end Rows
end Go.Proofs.YteileaeeiejonaaDoor
