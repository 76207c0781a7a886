/-
  DERIVED. GIVEN WITH THE SEED: THE CARDS: each row of YteikghppebiibaaDoorRows.lean that lists a variable, with what it lists TIED to the program's text (the seventh form; the later family's looks); each row that meets fmt, with fmt's text TOLD by the authors' own Lean function (tested against real Go, not proved from fmt's source: count such statements apart). THE CARD IS WHAT COUNTS. Prove the row's statement (the work); the ties are given (YteikghppebiibaaDoorTie.lean); close each card by the builder's one call (the guide's Derived/Test/ToyasCard.lean, 'card_holds'). Laid BY PROGRAM, IN A SANDBOX (cutbox-door.mjs). By AI agents, Wed Nov 11 2026. No macro, syntax, notation, axiom, sorry.
-/
import Derived.Test.YteikghppebiibaaDoorRows
import GoSem.ClaimSeven
namespace Go.Proofs.YteikghppebiibaaDoor
namespace Rows

/-- THE TIED CARD OF 'laws.FnExactStrengthBounds'. -/
def fnExactStrengthBoundsCard : Claim7 := { stood := { row := fnExactStrengthBoundsRow, standIns := [], harness := (true, "2938155da7bb501984f67ff3c8c29a33e7211bcaeb03490bb01d5c7477c12d09"), looks := false }, kinds := [], alts := [], laidByText := true, laidKinds := [.data], laidTests := true, laidLooks := .later }
def FnExactStrengthBoundsCardSaid : Prop := Claim7.holds Tryd.pinned (.plain (OpenSpec.ofChange fnExactStrengthBoundsSpec)) fnExactStrengthBoundsCard

/-- THE TIED CARD OF 'laws.FnExactIndexBounds'. -/
def fnExactIndexBoundsCard : Claim7 := { stood := { row := fnExactIndexBoundsRow, standIns := [], harness := (true, "2938155da7bb501984f67ff3c8c29a33e7211bcaeb03490bb01d5c7477c12d09"), looks := false }, kinds := [], alts := [], laidByText := true, laidKinds := [.data], laidTests := true, laidLooks := .later }
def FnExactIndexBoundsCardSaid : Prop := Claim7.holds Tryd.pinned (.plain (OpenSpec.ofChange fnExactIndexBoundsSpec)) fnExactIndexBoundsCard

/-- THE TIED CARD OF 'laws.FnExactWeakestLayer'. -/
def fnExactWeakestLayerCard : Claim7 := { stood := { row := fnExactWeakestLayerRow, standIns := [], harness := (true, "2938155da7bb501984f67ff3c8c29a33e7211bcaeb03490bb01d5c7477c12d09"), looks := false }, kinds := [], alts := [], laidByText := true, laidKinds := [.data], laidTests := true, laidLooks := .later }
def FnExactWeakestLayerCardSaid : Prop := Claim7.holds Tryd.pinned (.plain (OpenSpec.ofChange fnExactWeakestLayerSpec)) fnExactWeakestLayerCard

/-- THE TIED CARD OF 'laws.FnExactIsStable'. -/
def fnExactIsStableCard : Claim7 := { stood := { row := fnExactIsStableRow, standIns := [], harness := (true, "2938155da7bb501984f67ff3c8c29a33e7211bcaeb03490bb01d5c7477c12d09"), looks := false }, kinds := [], alts := [], laidByText := true, laidKinds := [.data], laidTests := true, laidLooks := .later }
def FnExactIsStableCardSaid : Prop := Claim7.holds Tryd.pinned (.plain (OpenSpec.ofChange fnExactIsStableSpec)) fnExactIsStableCard

/-- THE TIED CARD OF 'laws.FnExactMoreLoad'. -/
def fnExactMoreLoadCard : Claim7 := { stood := { row := fnExactMoreLoadRow, standIns := [], harness := (true, "2938155da7bb501984f67ff3c8c29a33e7211bcaeb03490bb01d5c7477c12d09"), looks := false }, kinds := [], alts := [], laidByText := true, laidKinds := [.data], laidTests := true, laidLooks := .later }
def FnExactMoreLoadCardSaid : Prop := Claim7.holds Tryd.pinned (.plain (OpenSpec.ofChange fnExactMoreLoadSpec)) fnExactMoreLoadCard

/-- THE TIED CARD OF 'laws.FnExactSteepestFor'. -/
def fnExactSteepestForCard : Claim7 := { stood := { row := fnExactSteepestForRow, standIns := [], harness := (true, "2938155da7bb501984f67ff3c8c29a33e7211bcaeb03490bb01d5c7477c12d09"), looks := false }, kinds := [], alts := [], laidByText := true, laidKinds := [.data], laidTests := true, laidLooks := .later }
def FnExactSteepestForCardSaid : Prop := Claim7.holds Tryd.pinned (.plain (OpenSpec.ofChange fnExactSteepestForSpec)) fnExactSteepestForCard

/-- THE TIED CARD OF 'laws.FnExactSlabOf'. -/
def fnExactSlabOfCard : Claim7 := { stood := { row := fnExactSlabOfRow, standIns := [], harness := (true, "2938155da7bb501984f67ff3c8c29a33e7211bcaeb03490bb01d5c7477c12d09"), looks := false }, kinds := [], alts := [], laidByText := true, laidKinds := [.data], laidTests := true, laidLooks := .later }
def FnExactSlabOfCardSaid : Prop := Claim7.holds Tryd.pinned (.plain (OpenSpec.ofChange fnExactSlabOfSpec)) fnExactSlabOfCard

/-- THE TIED CARD OF 'laws.FnStability'. -/
def fnStabilityCard : Claim7 := { stood := { row := fnStabilityRow, standIns := [], harness := (true, "2938155da7bb501984f67ff3c8c29a33e7211bcaeb03490bb01d5c7477c12d09"), looks := false }, kinds := [], alts := [], laidByText := true, laidKinds := [.data], laidTests := true, laidLooks := .later }
def FnStabilityCardSaid : Prop := Claim7.holds Tryd.pinned (.plain (OpenSpec.ofChange fnStabilitySpec)) fnStabilityCard

/-- THE SECOND FORM's CARD OF 'laws.FnExactStrengthBounds'. -/
def fnExactStrengthBoundsUptoCard : Claim7 := { stood := { row := fnExactStrengthBoundsUptoRow, standIns := [], harness := (true, "2938155da7bb501984f67ff3c8c29a33e7211bcaeb03490bb01d5c7477c12d09"), looks := false }, kinds := [], alts := [], laidByText := true, laidKinds := [.data], laidTests := true, laidLooks := .later }
def FnExactStrengthBoundsUptoCardSaid : Prop := Claim7.holds Tryd.pinned (.plain (OpenSpec.upto fnExactStrengthBoundsSpec)) fnExactStrengthBoundsUptoCard

/-- THE SECOND FORM's CARD OF 'laws.FnExactIndexBounds'. -/
def fnExactIndexBoundsUptoCard : Claim7 := { stood := { row := fnExactIndexBoundsUptoRow, standIns := [], harness := (true, "2938155da7bb501984f67ff3c8c29a33e7211bcaeb03490bb01d5c7477c12d09"), looks := false }, kinds := [], alts := [], laidByText := true, laidKinds := [.data], laidTests := true, laidLooks := .later }
def FnExactIndexBoundsUptoCardSaid : Prop := Claim7.holds Tryd.pinned (.plain (OpenSpec.upto fnExactIndexBoundsSpec)) fnExactIndexBoundsUptoCard

/-- THE SECOND FORM's CARD OF 'laws.FnExactWeakestLayer'. -/
def fnExactWeakestLayerUptoCard : Claim7 := { stood := { row := fnExactWeakestLayerUptoRow, standIns := [], harness := (true, "2938155da7bb501984f67ff3c8c29a33e7211bcaeb03490bb01d5c7477c12d09"), looks := false }, kinds := [], alts := [], laidByText := true, laidKinds := [.data], laidTests := true, laidLooks := .later }
def FnExactWeakestLayerUptoCardSaid : Prop := Claim7.holds Tryd.pinned (.plain (OpenSpec.upto fnExactWeakestLayerSpec)) fnExactWeakestLayerUptoCard

/-- THE SECOND FORM's CARD OF 'laws.FnExactIsStable'. -/
def fnExactIsStableUptoCard : Claim7 := { stood := { row := fnExactIsStableUptoRow, standIns := [], harness := (true, "2938155da7bb501984f67ff3c8c29a33e7211bcaeb03490bb01d5c7477c12d09"), looks := false }, kinds := [], alts := [], laidByText := true, laidKinds := [.data], laidTests := true, laidLooks := .later }
def FnExactIsStableUptoCardSaid : Prop := Claim7.holds Tryd.pinned (.plain (OpenSpec.upto fnExactIsStableSpec)) fnExactIsStableUptoCard

/-- THE SECOND FORM's CARD OF 'laws.FnExactMoreLoad'. -/
def fnExactMoreLoadUptoCard : Claim7 := { stood := { row := fnExactMoreLoadUptoRow, standIns := [], harness := (true, "2938155da7bb501984f67ff3c8c29a33e7211bcaeb03490bb01d5c7477c12d09"), looks := false }, kinds := [], alts := [], laidByText := true, laidKinds := [.data], laidTests := true, laidLooks := .later }
def FnExactMoreLoadUptoCardSaid : Prop := Claim7.holds Tryd.pinned (.plain (OpenSpec.upto fnExactMoreLoadSpec)) fnExactMoreLoadUptoCard

/-- THE SECOND FORM's CARD OF 'laws.FnExactSteepestFor'. -/
def fnExactSteepestForUptoCard : Claim7 := { stood := { row := fnExactSteepestForUptoRow, standIns := [], harness := (true, "2938155da7bb501984f67ff3c8c29a33e7211bcaeb03490bb01d5c7477c12d09"), looks := false }, kinds := [], alts := [], laidByText := true, laidKinds := [.data], laidTests := true, laidLooks := .later }
def FnExactSteepestForUptoCardSaid : Prop := Claim7.holds Tryd.pinned (.plain (OpenSpec.upto fnExactSteepestForSpec)) fnExactSteepestForUptoCard

/-- THE SECOND FORM's CARD OF 'laws.FnExactSlabOf'. -/
def fnExactSlabOfUptoCard : Claim7 := { stood := { row := fnExactSlabOfUptoRow, standIns := [], harness := (true, "2938155da7bb501984f67ff3c8c29a33e7211bcaeb03490bb01d5c7477c12d09"), looks := false }, kinds := [], alts := [], laidByText := true, laidKinds := [.data], laidTests := true, laidLooks := .later }
def FnExactSlabOfUptoCardSaid : Prop := Claim7.holds Tryd.pinned (.plain (OpenSpec.upto fnExactSlabOfSpec)) fnExactSlabOfUptoCard

/-- THE SECOND FORM's CARD OF 'laws.FnStability'. -/
def fnStabilityUptoCard : Claim7 := { stood := { row := fnStabilityUptoRow, standIns := [], harness := (true, "2938155da7bb501984f67ff3c8c29a33e7211bcaeb03490bb01d5c7477c12d09"), looks := false }, kinds := [], alts := [], laidByText := true, laidKinds := [.data], laidTests := true, laidLooks := .later }
def FnStabilityUptoCardSaid : Prop := Claim7.holds Tryd.pinned (.plain (OpenSpec.upto fnStabilitySpec)) fnStabilityUptoCard
end Rows
end Go.Proofs.YteikghppebiibaaDoor
