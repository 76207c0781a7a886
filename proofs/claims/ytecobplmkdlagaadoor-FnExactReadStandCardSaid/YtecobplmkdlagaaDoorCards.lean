/-
  DERIVED. GIVEN WITH THE SEED: THE CARDS: each row of YtecobplmkdlagaaDoorRows.lean that lists a variable, with what it lists TIED to the program's text (the seventh form; the later family's looks); each row that meets fmt, with fmt's text TOLD by the authors' own Lean function (tested against real Go, not proved from fmt's source: count such statements apart). THE CARD IS WHAT COUNTS. Prove the row's statement (the work); the ties are given (YtecobplmkdlagaaDoorTie.lean); close each card by the builder's one call (the guide's Derived/Test/ToyasCard.lean, 'card_holds'). Laid BY PROGRAM, IN A SANDBOX (cutbox-door.mjs). By AI agents, Wed Nov 11 2026. No macro, syntax, notation, axiom, sorry.
-/
import Derived.Test.YtecobplmkdlagaaDoorRows
import GoSem.ClaimSeven
namespace Go.Proofs.YtecobplmkdlagaaDoor
namespace Rows

/-- THE TIED CARD OF 'laws.FnExactPlantBest'. -/
def fnExactPlantBestCard : Claim7 := { stood := { row := fnExactPlantBestRow, standIns := [], harness := (true, "8ed03698df133f47bb798bd5b8c9400271769aca647de48a7f1458be6a30e2cd"), looks := true }, kinds := [], alts := [], laidByText := true, laidKinds := [.data], laidTests := true, laidLooks := .later }
def FnExactPlantBestCardSaid : Prop := Claim7.holds Tryd.pinned (.plain (OpenSpec.ofChange fnExactPlantBestSpec)) fnExactPlantBestCard

/-- THE TIED CARD OF 'laws.FnExactStandText'. -/
def fnExactStandTextCard : Claim7 := { stood := { row := fnExactStandTextRow, standIns := [], harness := (true, "8ed03698df133f47bb798bd5b8c9400271769aca647de48a7f1458be6a30e2cd"), looks := true }, kinds := [], alts := [], laidByText := true, laidKinds := [.data, .data, .data], laidTests := true, laidLooks := .later }
def FnExactStandTextCardSaid : Prop := Claim7.holds Tryd.pinned (.plain (OpenSpec.ofChange fnExactStandTextSpec)) fnExactStandTextCard

/-- THE TIED CARD OF 'laws.FnExactReadStand'. -/
def fnExactReadStandCard : Claim7 := { stood := { row := fnExactReadStandRow, standIns := [], harness := (true, "8ed03698df133f47bb798bd5b8c9400271769aca647de48a7f1458be6a30e2cd"), looks := true }, kinds := [], alts := [], laidByText := true, laidKinds := [.data, .data, .data, .data, .sentinel, .sentinel, .pinned], laidTests := true, laidLooks := .later }
def FnExactReadStandCardSaid : Prop := Claim7.holds Tryd.pinned (.plain (OpenSpec.ofChange fnExactReadStandSpec)) fnExactReadStandCard

/-- THE SECOND FORM's CARD OF 'laws.FnExactPlantBest'. -/
def fnExactPlantBestUptoCard : Claim7 := { stood := { row := fnExactPlantBestUptoRow, standIns := [], harness := (true, "8ed03698df133f47bb798bd5b8c9400271769aca647de48a7f1458be6a30e2cd"), looks := true }, kinds := [], alts := [], laidByText := true, laidKinds := [.data], laidTests := true, laidLooks := .later }
def FnExactPlantBestUptoCardSaid : Prop := Claim7.holds Tryd.pinned (.plain (OpenSpec.upto fnExactPlantBestSpec)) fnExactPlantBestUptoCard

/-- THE SECOND FORM's CARD OF 'laws.FnExactStandText'. -/
def fnExactStandTextUptoCard : Claim7 := { stood := { row := fnExactStandTextUptoRow, standIns := [], harness := (true, "8ed03698df133f47bb798bd5b8c9400271769aca647de48a7f1458be6a30e2cd"), looks := true }, kinds := [], alts := [], laidByText := true, laidKinds := [.data, .data, .data], laidTests := true, laidLooks := .later }
def FnExactStandTextUptoCardSaid : Prop := Claim7.holds Tryd.pinned (.plain (OpenSpec.upto fnExactStandTextSpec)) fnExactStandTextUptoCard

/-- THE SECOND FORM's CARD OF 'laws.FnExactReadStand'. -/
def fnExactReadStandUptoCard : Claim7 := { stood := { row := fnExactReadStandUptoRow, standIns := [], harness := (true, "8ed03698df133f47bb798bd5b8c9400271769aca647de48a7f1458be6a30e2cd"), looks := true }, kinds := [], alts := [], laidByText := true, laidKinds := [.data, .data, .data, .data, .sentinel, .sentinel, .pinned], laidTests := true, laidLooks := .later }
def FnExactReadStandUptoCardSaid : Prop := Claim7.holds Tryd.pinned (.plain (OpenSpec.upto fnExactReadStandSpec)) fnExactReadStandUptoCard
end Rows
end Go.Proofs.YtecobplmkdlagaaDoor
