/-
  DERIVED. GIVEN WITH THE SEED: THE CARDS: each row of YthcmpalbhaefbaaDoorRows.lean that lists a variable, with what it lists TIED to the program's text (the seventh form; the later family's looks); each row that meets fmt, with fmt's text TOLD by the authors' own Lean function (tested against real Go, not proved from fmt's source: count such statements apart). THE CARD IS WHAT COUNTS. Prove the row's statement (the work); the ties are given (YthcmpalbhaefbaaDoorTie.lean); close each card by the builder's one call (the guide's Derived/Test/ToyasCard.lean, 'card_holds'). Laid BY PROGRAM, IN A SANDBOX (cutbox-door.mjs). By AI agents, Wed Nov 11 2026. No macro, syntax, notation, axiom, sorry.
-/
import Derived.Test.YthcmpalbhaefbaaDoorRows
import GoSem.ClaimSeven
namespace Go.Proofs.YthcmpalbhaefbaaDoor
namespace Rows

/-- THE TIED CARD OF 'laws.FnExactRouteStep'. -/
def fnExactRouteStepCard : Claim7 := { stood := { row := fnExactRouteStepRow, standIns := [], harness := (true, "21ae9531deb1d5e2377c3b44b060e3f411d24ca9e79162216dc09ee05531cfc7"), looks := false }, kinds := [], alts := [], laidByText := true, laidKinds := [.data], laidTests := true, laidLooks := .later }
def FnExactRouteStepCardSaid : Prop := Claim7.holds Tryd.pinned (.plain (OpenSpec.ofChange fnExactRouteStepSpec)) fnExactRouteStepCard

/-- THE TIED CARD OF 'laws.FnExactNeighboursOf'. -/
def fnExactNeighboursOfCard : Claim7 := { stood := { row := fnExactNeighboursOfRow, standIns := [], harness := (true, "21ae9531deb1d5e2377c3b44b060e3f411d24ca9e79162216dc09ee05531cfc7"), looks := false }, kinds := [], alts := [], laidByText := true, laidKinds := [.data], laidTests := true, laidLooks := .later }
def FnExactNeighboursOfCardSaid : Prop := Claim7.holds Tryd.pinned (.plain (OpenSpec.ofChange fnExactNeighboursOfSpec)) fnExactNeighboursOfCard

/-- THE TIED CARD OF 'laws.FnExactCurvatureAt'. -/
def fnExactCurvatureAtCard : Claim7 := { stood := { row := fnExactCurvatureAtRow, standIns := [], harness := (true, "21ae9531deb1d5e2377c3b44b060e3f411d24ca9e79162216dc09ee05531cfc7"), looks := false }, kinds := [], alts := [], laidByText := true, laidKinds := [.data], laidTests := true, laidLooks := .later }
def FnExactCurvatureAtCardSaid : Prop := Claim7.holds Tryd.pinned (.plain (OpenSpec.ofChange fnExactCurvatureAtSpec)) fnExactCurvatureAtCard

/-- THE TIED CARD OF 'laws.FnExactDescentOf'. -/
def fnExactDescentOfCard : Claim7 := { stood := { row := fnExactDescentOfRow, standIns := [], harness := (true, "21ae9531deb1d5e2377c3b44b060e3f411d24ca9e79162216dc09ee05531cfc7"), looks := false }, kinds := [], alts := [], laidByText := true, laidKinds := [.data], laidTests := true, laidLooks := .later }
def FnExactDescentOfCardSaid : Prop := Claim7.holds Tryd.pinned (.plain (OpenSpec.ofChange fnExactDescentOfSpec)) fnExactDescentOfCard

/-- THE TIED CARD OF 'laws.FnExactPeaksOf'. -/
def fnExactPeaksOfCard : Claim7 := { stood := { row := fnExactPeaksOfRow, standIns := [], harness := (true, "21ae9531deb1d5e2377c3b44b060e3f411d24ca9e79162216dc09ee05531cfc7"), looks := false }, kinds := [], alts := [], laidByText := true, laidKinds := [.data], laidTests := true, laidLooks := .later }
def FnExactPeaksOfCardSaid : Prop := Claim7.holds Tryd.pinned (.plain (OpenSpec.ofChange fnExactPeaksOfSpec)) fnExactPeaksOfCard

/-- THE TIED CARD OF 'laws.FnExactPitsOf'. -/
def fnExactPitsOfCard : Claim7 := { stood := { row := fnExactPitsOfRow, standIns := [], harness := (true, "21ae9531deb1d5e2377c3b44b060e3f411d24ca9e79162216dc09ee05531cfc7"), looks := false }, kinds := [], alts := [], laidByText := true, laidKinds := [.data], laidTests := true, laidLooks := .later }
def FnExactPitsOfCardSaid : Prop := Claim7.holds Tryd.pinned (.plain (OpenSpec.ofChange fnExactPitsOfSpec)) fnExactPitsOfCard

/-- THE TIED CARD OF 'laws.FnExactBorderOf'. -/
def fnExactBorderOfCard : Claim7 := { stood := { row := fnExactBorderOfRow, standIns := [], harness := (true, "21ae9531deb1d5e2377c3b44b060e3f411d24ca9e79162216dc09ee05531cfc7"), looks := false }, kinds := [], alts := [], laidByText := true, laidKinds := [.data], laidTests := true, laidLooks := .later }
def FnExactBorderOfCardSaid : Prop := Claim7.holds Tryd.pinned (.plain (OpenSpec.ofChange fnExactBorderOfSpec)) fnExactBorderOfCard

/-- THE TIED CARD OF 'laws.FnExactGrowCells'. -/
def fnExactGrowCellsCard : Claim7 := { stood := { row := fnExactGrowCellsRow, standIns := [], harness := (true, "21ae9531deb1d5e2377c3b44b060e3f411d24ca9e79162216dc09ee05531cfc7"), looks := false }, kinds := [], alts := [], laidByText := true, laidKinds := [.data, .data], laidTests := true, laidLooks := .later }
def FnExactGrowCellsCardSaid : Prop := Claim7.holds Tryd.pinned (.plain (OpenSpec.ofChange fnExactGrowCellsSpec)) fnExactGrowCellsCard

/-- THE TIED CARD OF 'laws.FnExactAboveCells'. -/
def fnExactAboveCellsCard : Claim7 := { stood := { row := fnExactAboveCellsRow, standIns := [], harness := (true, "21ae9531deb1d5e2377c3b44b060e3f411d24ca9e79162216dc09ee05531cfc7"), looks := false }, kinds := [], alts := [], laidByText := true, laidKinds := [.data], laidTests := true, laidLooks := .later }
def FnExactAboveCellsCardSaid : Prop := Claim7.holds Tryd.pinned (.plain (OpenSpec.ofChange fnExactAboveCellsSpec)) fnExactAboveCellsCard

/-- THE SECOND FORM's CARD OF 'laws.FnExactRouteStep'. -/
def fnExactRouteStepUptoCard : Claim7 := { stood := { row := fnExactRouteStepUptoRow, standIns := [], harness := (true, "21ae9531deb1d5e2377c3b44b060e3f411d24ca9e79162216dc09ee05531cfc7"), looks := false }, kinds := [], alts := [], laidByText := true, laidKinds := [.data], laidTests := true, laidLooks := .later }
def FnExactRouteStepUptoCardSaid : Prop := Claim7.holds Tryd.pinned (.plain (OpenSpec.upto fnExactRouteStepSpec)) fnExactRouteStepUptoCard

/-- THE SECOND FORM's CARD OF 'laws.FnExactNeighboursOf'. -/
def fnExactNeighboursOfUptoCard : Claim7 := { stood := { row := fnExactNeighboursOfUptoRow, standIns := [], harness := (true, "21ae9531deb1d5e2377c3b44b060e3f411d24ca9e79162216dc09ee05531cfc7"), looks := false }, kinds := [], alts := [], laidByText := true, laidKinds := [.data], laidTests := true, laidLooks := .later }
def FnExactNeighboursOfUptoCardSaid : Prop := Claim7.holds Tryd.pinned (.plain (OpenSpec.upto fnExactNeighboursOfSpec)) fnExactNeighboursOfUptoCard

/-- THE SECOND FORM's CARD OF 'laws.FnExactCurvatureAt'. -/
def fnExactCurvatureAtUptoCard : Claim7 := { stood := { row := fnExactCurvatureAtUptoRow, standIns := [], harness := (true, "21ae9531deb1d5e2377c3b44b060e3f411d24ca9e79162216dc09ee05531cfc7"), looks := false }, kinds := [], alts := [], laidByText := true, laidKinds := [.data], laidTests := true, laidLooks := .later }
def FnExactCurvatureAtUptoCardSaid : Prop := Claim7.holds Tryd.pinned (.plain (OpenSpec.upto fnExactCurvatureAtSpec)) fnExactCurvatureAtUptoCard

/-- THE SECOND FORM's CARD OF 'laws.FnExactDescentOf'. -/
def fnExactDescentOfUptoCard : Claim7 := { stood := { row := fnExactDescentOfUptoRow, standIns := [], harness := (true, "21ae9531deb1d5e2377c3b44b060e3f411d24ca9e79162216dc09ee05531cfc7"), looks := false }, kinds := [], alts := [], laidByText := true, laidKinds := [.data], laidTests := true, laidLooks := .later }
def FnExactDescentOfUptoCardSaid : Prop := Claim7.holds Tryd.pinned (.plain (OpenSpec.upto fnExactDescentOfSpec)) fnExactDescentOfUptoCard

/-- THE SECOND FORM's CARD OF 'laws.FnExactPeaksOf'. -/
def fnExactPeaksOfUptoCard : Claim7 := { stood := { row := fnExactPeaksOfUptoRow, standIns := [], harness := (true, "21ae9531deb1d5e2377c3b44b060e3f411d24ca9e79162216dc09ee05531cfc7"), looks := false }, kinds := [], alts := [], laidByText := true, laidKinds := [.data], laidTests := true, laidLooks := .later }
def FnExactPeaksOfUptoCardSaid : Prop := Claim7.holds Tryd.pinned (.plain (OpenSpec.upto fnExactPeaksOfSpec)) fnExactPeaksOfUptoCard

/-- THE SECOND FORM's CARD OF 'laws.FnExactPitsOf'. -/
def fnExactPitsOfUptoCard : Claim7 := { stood := { row := fnExactPitsOfUptoRow, standIns := [], harness := (true, "21ae9531deb1d5e2377c3b44b060e3f411d24ca9e79162216dc09ee05531cfc7"), looks := false }, kinds := [], alts := [], laidByText := true, laidKinds := [.data], laidTests := true, laidLooks := .later }
def FnExactPitsOfUptoCardSaid : Prop := Claim7.holds Tryd.pinned (.plain (OpenSpec.upto fnExactPitsOfSpec)) fnExactPitsOfUptoCard

/-- THE SECOND FORM's CARD OF 'laws.FnExactBorderOf'. -/
def fnExactBorderOfUptoCard : Claim7 := { stood := { row := fnExactBorderOfUptoRow, standIns := [], harness := (true, "21ae9531deb1d5e2377c3b44b060e3f411d24ca9e79162216dc09ee05531cfc7"), looks := false }, kinds := [], alts := [], laidByText := true, laidKinds := [.data], laidTests := true, laidLooks := .later }
def FnExactBorderOfUptoCardSaid : Prop := Claim7.holds Tryd.pinned (.plain (OpenSpec.upto fnExactBorderOfSpec)) fnExactBorderOfUptoCard

/-- THE SECOND FORM's CARD OF 'laws.FnExactGrowCells'. -/
def fnExactGrowCellsUptoCard : Claim7 := { stood := { row := fnExactGrowCellsUptoRow, standIns := [], harness := (true, "21ae9531deb1d5e2377c3b44b060e3f411d24ca9e79162216dc09ee05531cfc7"), looks := false }, kinds := [], alts := [], laidByText := true, laidKinds := [.data, .data], laidTests := true, laidLooks := .later }
def FnExactGrowCellsUptoCardSaid : Prop := Claim7.holds Tryd.pinned (.plain (OpenSpec.upto fnExactGrowCellsSpec)) fnExactGrowCellsUptoCard

/-- THE SECOND FORM's CARD OF 'laws.FnExactAboveCells'. -/
def fnExactAboveCellsUptoCard : Claim7 := { stood := { row := fnExactAboveCellsUptoRow, standIns := [], harness := (true, "21ae9531deb1d5e2377c3b44b060e3f411d24ca9e79162216dc09ee05531cfc7"), looks := false }, kinds := [], alts := [], laidByText := true, laidKinds := [.data], laidTests := true, laidLooks := .later }
def FnExactAboveCellsUptoCardSaid : Prop := Claim7.holds Tryd.pinned (.plain (OpenSpec.upto fnExactAboveCellsSpec)) fnExactAboveCellsUptoCard
end Rows
end Go.Proofs.YthcmpalbhaefbaaDoor
