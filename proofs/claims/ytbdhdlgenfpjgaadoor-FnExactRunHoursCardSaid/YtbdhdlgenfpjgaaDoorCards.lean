/-
  DERIVED. GIVEN WITH THE SEED: THE CARDS: each row of YtbdhdlgenfpjgaaDoorRows.lean that lists a variable, with what it lists TIED to the program's text (the seventh form; the later family's looks); each row that meets fmt, with fmt's text TOLD by the authors' own Lean function (tested against real Go, not proved from fmt's source: count such statements apart). THE CARD IS WHAT COUNTS. Prove the row's statement (the work); the ties are given (YtbdhdlgenfpjgaaDoorTie.lean); close each card by the builder's one call (the guide's Derived/Test/ToyasCard.lean, 'card_holds'). Laid BY PROGRAM, IN A SANDBOX (cutbox-door.mjs). By AI agents, Wed Nov 11 2026. No macro, syntax, notation, axiom, sorry.
-/
import Derived.Test.YtbdhdlgenfpjgaaDoorRows
import GoSem.ClaimSeven
namespace Go.Proofs.YtbdhdlgenfpjgaaDoor
namespace Rows

/-- THE TIED CARD OF 'laws.FnExactRunHours'. -/
def fnExactRunHoursCard : Claim7 := { stood := { row := fnExactRunHoursRow, standIns := [], harness := (true, "2005f321966caba2b187009ff84e47dc24b170efa233af436f4eb55668ace4c2"), looks := false }, kinds := [], alts := [], laidByText := true, laidKinds := [.data], laidTests := true, laidLooks := .later }
def FnExactRunHoursCardSaid : Prop := Claim7.holds Tryd.pinned (.plain (OpenSpec.ofChange fnExactRunHoursSpec)) fnExactRunHoursCard

/-- THE SECOND FORM's CARD OF 'laws.FnExactRunHours'. -/
def fnExactRunHoursUptoCard : Claim7 := { stood := { row := fnExactRunHoursUptoRow, standIns := [], harness := (true, "2005f321966caba2b187009ff84e47dc24b170efa233af436f4eb55668ace4c2"), looks := false }, kinds := [], alts := [], laidByText := true, laidKinds := [.data], laidTests := true, laidLooks := .later }
def FnExactRunHoursUptoCardSaid : Prop := Claim7.holds Tryd.pinned (.plain (OpenSpec.upto fnExactRunHoursSpec)) fnExactRunHoursUptoCard
end Rows
end Go.Proofs.YtbdhdlgenfpjgaaDoor
