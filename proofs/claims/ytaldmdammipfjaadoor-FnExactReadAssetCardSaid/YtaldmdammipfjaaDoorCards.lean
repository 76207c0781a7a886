/-
  DERIVED. GIVEN WITH THE SEED: THE CARDS: each row of YtaldmdammipfjaaDoorRows.lean that lists a variable, with what it lists TIED to the program's text (the seventh form; the later family's looks); each row that meets fmt, with fmt's text TOLD by the authors' own Lean function (tested against real Go, not proved from fmt's source: count such statements apart). THE CARD IS WHAT COUNTS. Prove the row's statement (the work); the ties are given (YtaldmdammipfjaaDoorTie.lean); close each card by the builder's one call (the guide's Derived/Test/ToyasCard.lean, 'card_holds'). Laid BY PROGRAM, IN A SANDBOX (cutbox-door.mjs). By AI agents, Wed Nov 11 2026. No macro, syntax, notation, axiom, sorry.
-/
import Derived.Test.YtaldmdammipfjaaDoorRows
import GoSem.ClaimSeven
namespace Go.Proofs.YtaldmdammipfjaaDoor
namespace Rows

/-- THE TIED CARD OF 'laws.FnExactExposedAssets'. -/
def fnExactExposedAssetsCard : Claim7 := { stood := { row := fnExactExposedAssetsRow, standIns := [], harness := (true, "86a45a0c4b3108a986f3f049fb746e274755567b8071ecb8b1826f7b85d5de8d"), looks := true }, kinds := [], alts := [], laidByText := true, laidKinds := [.data], laidTests := true, laidLooks := .later }
def FnExactExposedAssetsCardSaid : Prop := Claim7.holds Tryd.pinned (.plain (OpenSpec.ofChange fnExactExposedAssetsSpec)) fnExactExposedAssetsCard

/-- THE TIED CARD OF 'laws.FnExactExposedWorth'. -/
def fnExactExposedWorthCard : Claim7 := { stood := { row := fnExactExposedWorthRow, standIns := [], harness := (true, "86a45a0c4b3108a986f3f049fb746e274755567b8071ecb8b1826f7b85d5de8d"), looks := true }, kinds := [], alts := [], laidByText := true, laidKinds := [.data], laidTests := true, laidLooks := .later }
def FnExactExposedWorthCardSaid : Prop := Claim7.holds Tryd.pinned (.plain (OpenSpec.ofChange fnExactExposedWorthSpec)) fnExactExposedWorthCard

/-- THE TIED CARD OF 'laws.FnExactAssetText'. -/
def fnExactAssetTextCard : Claim7 := { stood := { row := fnExactAssetTextRow, standIns := [], harness := (true, "86a45a0c4b3108a986f3f049fb746e274755567b8071ecb8b1826f7b85d5de8d"), looks := true }, kinds := [], alts := [], laidByText := true, laidKinds := [.data, .data, .data], laidTests := true, laidLooks := .later }
def FnExactAssetTextCardSaid : Prop := Claim7.holds Tryd.pinned (.plain (OpenSpec.ofChange fnExactAssetTextSpec)) fnExactAssetTextCard

/-- THE TIED CARD OF 'laws.FnExactReadAsset'. -/
def fnExactReadAssetCard : Claim7 := { stood := { row := fnExactReadAssetRow, standIns := [], harness := (true, "86a45a0c4b3108a986f3f049fb746e274755567b8071ecb8b1826f7b85d5de8d"), looks := true }, kinds := [], alts := [], laidByText := true, laidKinds := [.data, .data, .data, .data, .sentinel, .sentinel, .pinned], laidTests := true, laidLooks := .later }
def FnExactReadAssetCardSaid : Prop := Claim7.holds Tryd.pinned (.plain (OpenSpec.ofChange fnExactReadAssetSpec)) fnExactReadAssetCard

/-- THE TIED CARD OF 'laws.FnExactWeakestLayer'. -/
def fnExactWeakestLayerCard : Claim7 := { stood := { row := fnExactWeakestLayerRow, standIns := [], harness := (true, "86a45a0c4b3108a986f3f049fb746e274755567b8071ecb8b1826f7b85d5de8d"), looks := true }, kinds := [], alts := [], laidByText := true, laidKinds := [.data], laidTests := true, laidLooks := .later }
def FnExactWeakestLayerCardSaid : Prop := Claim7.holds Tryd.pinned (.plain (OpenSpec.ofChange fnExactWeakestLayerSpec)) fnExactWeakestLayerCard

/-- THE SECOND FORM's CARD OF 'laws.FnExactExposedAssets'. -/
def fnExactExposedAssetsUptoCard : Claim7 := { stood := { row := fnExactExposedAssetsUptoRow, standIns := [], harness := (true, "86a45a0c4b3108a986f3f049fb746e274755567b8071ecb8b1826f7b85d5de8d"), looks := true }, kinds := [], alts := [], laidByText := true, laidKinds := [.data], laidTests := true, laidLooks := .later }
def FnExactExposedAssetsUptoCardSaid : Prop := Claim7.holds Tryd.pinned (.plain (OpenSpec.upto fnExactExposedAssetsSpec)) fnExactExposedAssetsUptoCard

/-- THE SECOND FORM's CARD OF 'laws.FnExactExposedWorth'. -/
def fnExactExposedWorthUptoCard : Claim7 := { stood := { row := fnExactExposedWorthUptoRow, standIns := [], harness := (true, "86a45a0c4b3108a986f3f049fb746e274755567b8071ecb8b1826f7b85d5de8d"), looks := true }, kinds := [], alts := [], laidByText := true, laidKinds := [.data], laidTests := true, laidLooks := .later }
def FnExactExposedWorthUptoCardSaid : Prop := Claim7.holds Tryd.pinned (.plain (OpenSpec.upto fnExactExposedWorthSpec)) fnExactExposedWorthUptoCard

/-- THE SECOND FORM's CARD OF 'laws.FnExactAssetText'. -/
def fnExactAssetTextUptoCard : Claim7 := { stood := { row := fnExactAssetTextUptoRow, standIns := [], harness := (true, "86a45a0c4b3108a986f3f049fb746e274755567b8071ecb8b1826f7b85d5de8d"), looks := true }, kinds := [], alts := [], laidByText := true, laidKinds := [.data, .data, .data], laidTests := true, laidLooks := .later }
def FnExactAssetTextUptoCardSaid : Prop := Claim7.holds Tryd.pinned (.plain (OpenSpec.upto fnExactAssetTextSpec)) fnExactAssetTextUptoCard

/-- THE SECOND FORM's CARD OF 'laws.FnExactReadAsset'. -/
def fnExactReadAssetUptoCard : Claim7 := { stood := { row := fnExactReadAssetUptoRow, standIns := [], harness := (true, "86a45a0c4b3108a986f3f049fb746e274755567b8071ecb8b1826f7b85d5de8d"), looks := true }, kinds := [], alts := [], laidByText := true, laidKinds := [.data, .data, .data, .data, .sentinel, .sentinel, .pinned], laidTests := true, laidLooks := .later }
def FnExactReadAssetUptoCardSaid : Prop := Claim7.holds Tryd.pinned (.plain (OpenSpec.upto fnExactReadAssetSpec)) fnExactReadAssetUptoCard

/-- THE SECOND FORM's CARD OF 'laws.FnExactWeakestLayer'. -/
def fnExactWeakestLayerUptoCard : Claim7 := { stood := { row := fnExactWeakestLayerUptoRow, standIns := [], harness := (true, "86a45a0c4b3108a986f3f049fb746e274755567b8071ecb8b1826f7b85d5de8d"), looks := true }, kinds := [], alts := [], laidByText := true, laidKinds := [.data], laidTests := true, laidLooks := .later }
def FnExactWeakestLayerUptoCardSaid : Prop := Claim7.holds Tryd.pinned (.plain (OpenSpec.upto fnExactWeakestLayerSpec)) fnExactWeakestLayerUptoCard
end Rows
end Go.Proofs.YtaldmdammipfjaaDoor
