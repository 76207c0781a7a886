/-
  No cell of these rows narrows 'for every input' (looked for: loops, veiled, ifaces, maps, wideKeys, modest, calm, conditions, laid).
  DERIVED. THE GIVEN ROWS OF THIS SEAT. 5 by the template 'for every input the law returns true; each argument reads behind the call as it read before'; 0 by the template 'total and deterministic' (their statements: YtaldmdammipfjaaTotals.lean).
  GIVEN WITH THE SEED: the statements are not yours to turn. If you find one false, say at which input.
  Laid BY PROGRAM, IN A SANDBOX (cutbox-rows.mjs): the forced cells as the released guide's own fill.sh prints them over the translation 1873045d1d6a6737… (all of the seat's roots in one cut). By AI agents, Wed Nov 11 2026. No macro, syntax, notation, axiom, sorry.
-/
import Derived.Test.YtaldmdammipfjaaChecked
import GoSem.Claim
import GoSem.ClaimJoined
import GoSem.ClaimMapViews
import Derived.JoinedTies
import Derived.KernelRfl
namespace Go.Proofs.Ytaldmdammipfjaa
/- THE CELL 'sum', in the pinned program and in every row, IS THE sha256 OF THE DUMP (.gsa) THAT YtaldmdammipfjaaProg.lean LOADS. Nothing in Lean hashes anything: it is a label: what it is worth is what the hold of that sum in a sandbox is worth. -/
noncomputable def Try.pinned : Pinned := { name := "ytaldmdammipfjaa", sum := "1873045d1d6a67376b7cb3a60d2f02e5d85853b45c419fe2452cd8554570c5fc", checked := Try.checked }
namespace Rows
def none {H : Type} : Left H := { results := [], args := [] }

/-- 'laws.FnExactValidAssets': WHATEVER THE INPUT: true; the input reads as it did. -/
def fnExactValidAssetsSpec : ChangeSpec := { name := "fnExactValidAssets", fn := fun _ => fun
  | [d1, d2] => { results := [.lit (.bool true)], args := [d1, d2] }
  | _ => none }
def fnExactValidAssetsRow : OpenClaim := { program := "ytaldmdammipfjaa", sum := "1873045d1d6a67376b7cb3a60d2f02e5d85853b45c419fe2452cd8554570c5fc", func := "loop.example/g01013/laws.FnExactValidAssets", spec := "fnExactValidAssets", unfollowed := true, recurses := true, apart := false }
def FnExactValidAssetsSaid : Prop := fnExactValidAssetsRow.holds Try.pinned (OpenSpec.ofChange fnExactValidAssetsSpec)

/-- ITS FALSE NEIGHBOUR: 'it returns false'. Refute it at one input. -/
def fnExactValidAssetsWrong : ChangeSpec := { name := "fnExactValidAssets", fn := fun _ => fun
  | [d1, d2] => { results := [.lit (.bool false)], args := [d1, d2] }
  | _ => none }
def FnExactValidAssetsWrongFalsely : Prop := fnExactValidAssetsRow.holds Try.pinned (OpenSpec.ofChange fnExactValidAssetsWrong)

/-- 'laws.FnExactBuriedBy': WHATEVER THE INPUT: true; the input reads as it did. -/
def fnExactBuriedBySpec : ChangeSpec := { name := "fnExactBuriedBy", fn := fun _ => fun
  | [d1, d2, d3] => { results := [.lit (.bool true)], args := [d1, d2, d3] }
  | _ => none }
def fnExactBuriedByRow : OpenClaim := { program := "ytaldmdammipfjaa", sum := "1873045d1d6a67376b7cb3a60d2f02e5d85853b45c419fe2452cd8554570c5fc", func := "loop.example/g01013/laws.FnExactBuriedBy", spec := "fnExactBuriedBy", unfollowed := true, recurses := true, apart := false }
def FnExactBuriedBySaid : Prop := fnExactBuriedByRow.holds Try.pinned (OpenSpec.ofChange fnExactBuriedBySpec)

/-- ITS FALSE NEIGHBOUR: 'it returns false'. Refute it at one input. -/
def fnExactBuriedByWrong : ChangeSpec := { name := "fnExactBuriedBy", fn := fun _ => fun
  | [d1, d2, d3] => { results := [.lit (.bool false)], args := [d1, d2, d3] }
  | _ => none }
def FnExactBuriedByWrongFalsely : Prop := fnExactBuriedByRow.holds Try.pinned (OpenSpec.ofChange fnExactBuriedByWrong)

/-- 'laws.FnExactRaiseCell': WHATEVER THE INPUT: true; the input reads as it did. -/
def fnExactRaiseCellSpec : ChangeSpec := { name := "fnExactRaiseCell", fn := fun _ => fun
  | [d1, d2, d3] => { results := [.lit (.bool true)], args := [d1, d2, d3] }
  | _ => none }
def fnExactRaiseCellRow : OpenClaim := { program := "ytaldmdammipfjaa", sum := "1873045d1d6a67376b7cb3a60d2f02e5d85853b45c419fe2452cd8554570c5fc", func := "loop.example/g01013/laws.FnExactRaiseCell", spec := "fnExactRaiseCell", unfollowed := true, recurses := true, apart := false }
def FnExactRaiseCellSaid : Prop := fnExactRaiseCellRow.holds Try.pinned (OpenSpec.ofChange fnExactRaiseCellSpec)

/-- ITS FALSE NEIGHBOUR: 'it returns false'. Refute it at one input. -/
def fnExactRaiseCellWrong : ChangeSpec := { name := "fnExactRaiseCell", fn := fun _ => fun
  | [d1, d2, d3] => { results := [.lit (.bool false)], args := [d1, d2, d3] }
  | _ => none }
def FnExactRaiseCellWrongFalsely : Prop := fnExactRaiseCellRow.holds Try.pinned (OpenSpec.ofChange fnExactRaiseCellWrong)

/-- 'laws.FnExactSafeCells': WHATEVER THE INPUT: true; the input reads as it did. -/
def fnExactSafeCellsSpec : ChangeSpec := { name := "fnExactSafeCells", fn := fun _ => fun
  | [d1, d2] => { results := [.lit (.bool true)], args := [d1, d2] }
  | _ => none }
def fnExactSafeCellsRow : OpenClaim := { program := "ytaldmdammipfjaa", sum := "1873045d1d6a67376b7cb3a60d2f02e5d85853b45c419fe2452cd8554570c5fc", func := "loop.example/g01013/laws.FnExactSafeCells", spec := "fnExactSafeCells", unfollowed := true, recurses := true, apart := false }
def FnExactSafeCellsSaid : Prop := fnExactSafeCellsRow.holds Try.pinned (OpenSpec.ofChange fnExactSafeCellsSpec)

/-- ITS FALSE NEIGHBOUR: 'it returns false'. Refute it at one input. -/
def fnExactSafeCellsWrong : ChangeSpec := { name := "fnExactSafeCells", fn := fun _ => fun
  | [d1, d2] => { results := [.lit (.bool false)], args := [d1, d2] }
  | _ => none }
def FnExactSafeCellsWrongFalsely : Prop := fnExactSafeCellsRow.holds Try.pinned (OpenSpec.ofChange fnExactSafeCellsWrong)

/-- 'laws.FnExactWeakestStand': WHATEVER THE INPUT: true; the input reads as it did. -/
def fnExactWeakestStandSpec : ChangeSpec := { name := "fnExactWeakestStand", fn := fun _ => fun
  | [d1, d2] => { results := [.lit (.bool true)], args := [d1, d2] }
  | _ => none }
def fnExactWeakestStandRow : OpenClaim := { program := "ytaldmdammipfjaa", sum := "1873045d1d6a67376b7cb3a60d2f02e5d85853b45c419fe2452cd8554570c5fc", func := "loop.example/g01013/laws.FnExactWeakestStand", spec := "fnExactWeakestStand", unfollowed := true, recurses := true, apart := false }
def FnExactWeakestStandSaid : Prop := fnExactWeakestStandRow.holds Try.pinned (OpenSpec.ofChange fnExactWeakestStandSpec)

/-- ITS FALSE NEIGHBOUR: 'it returns false'. Refute it at one input. -/
def fnExactWeakestStandWrong : ChangeSpec := { name := "fnExactWeakestStand", fn := fun _ => fun
  | [d1, d2] => { results := [.lit (.bool false)], args := [d1, d2] }
  | _ => none }
def FnExactWeakestStandWrongFalsely : Prop := fnExactWeakestStandRow.holds Try.pinned (OpenSpec.ofChange fnExactWeakestStandWrong)

/- THE SECOND FORM. 'bulk': how many values and letters a reading holds, each counted each time it is reached (what is shared counts as often as it is met; a slice's spare places count too). A statement '..UptoSaid' is the law's where the arguments, and the package variables that the reading takes, are together of bulk at most 1048576: NARROWER than '..Said'. Prove '..Said' where nothing that the law and all that it calls make is longer than what came in: it says more and counts as full. Else prove '..UptoSaid'. A law counts once. -/
mutual
def uptoBulk {H : Type} : DataW H → Nat
  | .lit (.string bytes) => bytes.length + 1
  | .lit _ => 1
  | .nil => 1
  | .ptr d => uptoBulk d + 1
  | .slice elems spare => uptoBulkAll elems + uptoBulkAll spare + 1
  | .agg parts => uptoBulkAll parts + 1
  | .iface _ d => uptoBulk d + 1
  | .map entries => uptoBulkEntries entries + 1
  | .held _ => 1
def uptoBulkAll {H : Type} : List (DataW H) → Nat
  | [] => 0
  | d :: r => uptoBulk d + uptoBulkAll r
def uptoBulkEntries {H : Type} : List (Lit × DataW H) → Nat
  | [] => 0
  | x :: r => uptoBulkEntry x + uptoBulkEntries r
def uptoBulkEntry {H : Type} : Lit × DataW H → Nat
  | (.string bytes, d) => bytes.length + uptoBulk d + 1
  | (_, d) => uptoBulk d + 1
 end
def uptoSmall : (H : Type) → List (DataW H) → Bool := fun _ ds => decide (uptoBulkAll ds ≤ 1048576)
def OpenSpec.upto (s : _root_.Go.ChangeSpec) : _root_.Go.OpenSpec := { _root_.Go.OpenSpec.ofChange s with cond := some uptoSmall }

/-- 'laws.FnExactValidAssets', WHERE WHAT IT READS IS OF BULK AT MOST 1048576: true; the input reads as it did. -/
def fnExactValidAssetsUptoRow : OpenClaim := { program := "ytaldmdammipfjaa", sum := "1873045d1d6a67376b7cb3a60d2f02e5d85853b45c419fe2452cd8554570c5fc", func := "loop.example/g01013/laws.FnExactValidAssets", spec := "fnExactValidAssets", unfollowed := true, recurses := true, apart := false, narrowed := true }
def FnExactValidAssetsUptoSaid : Prop := fnExactValidAssetsUptoRow.holds Try.pinned (OpenSpec.upto fnExactValidAssetsSpec)

/-- 'laws.FnExactBuriedBy', WHERE WHAT IT READS IS OF BULK AT MOST 1048576: true; the input reads as it did. -/
def fnExactBuriedByUptoRow : OpenClaim := { program := "ytaldmdammipfjaa", sum := "1873045d1d6a67376b7cb3a60d2f02e5d85853b45c419fe2452cd8554570c5fc", func := "loop.example/g01013/laws.FnExactBuriedBy", spec := "fnExactBuriedBy", unfollowed := true, recurses := true, apart := false, narrowed := true }
def FnExactBuriedByUptoSaid : Prop := fnExactBuriedByUptoRow.holds Try.pinned (OpenSpec.upto fnExactBuriedBySpec)

/-- 'laws.FnExactRaiseCell', WHERE WHAT IT READS IS OF BULK AT MOST 1048576: true; the input reads as it did. -/
def fnExactRaiseCellUptoRow : OpenClaim := { program := "ytaldmdammipfjaa", sum := "1873045d1d6a67376b7cb3a60d2f02e5d85853b45c419fe2452cd8554570c5fc", func := "loop.example/g01013/laws.FnExactRaiseCell", spec := "fnExactRaiseCell", unfollowed := true, recurses := true, apart := false, narrowed := true }
def FnExactRaiseCellUptoSaid : Prop := fnExactRaiseCellUptoRow.holds Try.pinned (OpenSpec.upto fnExactRaiseCellSpec)

/-- 'laws.FnExactSafeCells', WHERE WHAT IT READS IS OF BULK AT MOST 1048576: true; the input reads as it did. -/
def fnExactSafeCellsUptoRow : OpenClaim := { program := "ytaldmdammipfjaa", sum := "1873045d1d6a67376b7cb3a60d2f02e5d85853b45c419fe2452cd8554570c5fc", func := "loop.example/g01013/laws.FnExactSafeCells", spec := "fnExactSafeCells", unfollowed := true, recurses := true, apart := false, narrowed := true }
def FnExactSafeCellsUptoSaid : Prop := fnExactSafeCellsUptoRow.holds Try.pinned (OpenSpec.upto fnExactSafeCellsSpec)

/-- 'laws.FnExactWeakestStand', WHERE WHAT IT READS IS OF BULK AT MOST 1048576: true; the input reads as it did. -/
def fnExactWeakestStandUptoRow : OpenClaim := { program := "ytaldmdammipfjaa", sum := "1873045d1d6a67376b7cb3a60d2f02e5d85853b45c419fe2452cd8554570c5fc", func := "loop.example/g01013/laws.FnExactWeakestStand", spec := "fnExactWeakestStand", unfollowed := true, recurses := true, apart := false, narrowed := true }
def FnExactWeakestStandUptoSaid : Prop := fnExactWeakestStandUptoRow.holds Try.pinned (OpenSpec.upto fnExactWeakestStandSpec)

end Rows
end Go.Proofs.Ytaldmdammipfjaa
