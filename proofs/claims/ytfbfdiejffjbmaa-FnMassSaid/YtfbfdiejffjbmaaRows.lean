/-
  No cell of these rows narrows 'for every input' (looked for: loops, veiled, ifaces, maps, wideKeys, modest, calm, conditions, laid).
  DERIVED. THE GIVEN ROWS OF THIS SEAT. 11 by the template 'for every input the law returns true; each argument reads behind the call as it read before'; 0 by the template 'total and deterministic' (their statements: YtfbfdiejffjbmaaTotals.lean).
  GIVEN WITH THE SEED: the statements are not yours to turn. If you find one false, say at which input.
  Laid BY PROGRAM, IN A SANDBOX (cutbox-rows.mjs): the forced cells as the released guide's own fill.sh prints them over the translation 12f8266e76fc8f1a… (all of the seat's roots in one cut). By AI agents, Wed Nov 11 2026. No macro, syntax, notation, axiom, sorry.
-/
import Derived.Test.YtfbfdiejffjbmaaChecked
import GoSem.Claim
import GoSem.ClaimJoined
import GoSem.ClaimMapViews
import Derived.JoinedTies
import Derived.KernelRfl
namespace Go.Proofs.Ytfbfdiejffjbmaa
/- THE CELL 'sum', in the pinned program and in every row, IS THE sha256 OF THE DUMP (.gsa) THAT YtfbfdiejffjbmaaProg.lean LOADS. Nothing in Lean hashes anything: it is a label: what it is worth is what the hold of that sum in a sandbox is worth. -/
noncomputable def Try.pinned : Pinned := { name := "ytfbfdiejffjbmaa", sum := "12f8266e76fc8f1a4d944c93bb3c2ed2df4bf17743e3da96dc16d5d223a828cd", checked := Try.checked }
namespace Rows
def none {H : Type} : Left H := { results := [], args := [] }

/-- 'laws.FnExactAddObserved': WHATEVER THE INPUT: true; the input reads as it did. -/
def fnExactAddObservedSpec : ChangeSpec := { name := "fnExactAddObserved", fn := fun _ => fun
  | [d1, d2] => { results := [.lit (.bool true)], args := [d1, d2] }
  | _ => none }
def fnExactAddObservedRow : OpenClaim := { program := "ytfbfdiejffjbmaa", sum := "12f8266e76fc8f1a4d944c93bb3c2ed2df4bf17743e3da96dc16d5d223a828cd", func := "loop.example/g01013/laws.FnExactAddObserved", spec := "fnExactAddObserved", inPlace := ["internal/reflectlite.ValueOf", "internal/reflectlite.Swapper", "(internal/reflectlite.Value).Len"], unfollowed := true, recurses := true, apart := false }
def FnExactAddObservedSaid : Prop := fnExactAddObservedRow.holds Try.pinned (OpenSpec.ofChange fnExactAddObservedSpec)

/-- ITS FALSE NEIGHBOUR: 'it returns false'. Refute it at one input. -/
def fnExactAddObservedWrong : ChangeSpec := { name := "fnExactAddObserved", fn := fun _ => fun
  | [d1, d2] => { results := [.lit (.bool false)], args := [d1, d2] }
  | _ => none }
def FnExactAddObservedWrongFalsely : Prop := fnExactAddObservedRow.holds Try.pinned (OpenSpec.ofChange fnExactAddObservedWrong)

/-- 'laws.FnExactJoinLayers': WHATEVER THE INPUT: true; the input reads as it did. -/
def fnExactJoinLayersSpec : ChangeSpec := { name := "fnExactJoinLayers", fn := fun _ => fun
  | [d1, d2] => { results := [.lit (.bool true)], args := [d1, d2] }
  | _ => none }
def fnExactJoinLayersRow : OpenClaim := { program := "ytfbfdiejffjbmaa", sum := "12f8266e76fc8f1a4d944c93bb3c2ed2df4bf17743e3da96dc16d5d223a828cd", func := "loop.example/g01013/laws.FnExactJoinLayers", spec := "fnExactJoinLayers", inPlace := ["slices.overlaps[loop.example/g01013/impl.Layer]"], unfollowed := true, recurses := true, apart := false }
def FnExactJoinLayersSaid : Prop := fnExactJoinLayersRow.holds Try.pinned (OpenSpec.ofChange fnExactJoinLayersSpec)

/-- ITS FALSE NEIGHBOUR: 'it returns false'. Refute it at one input. -/
def fnExactJoinLayersWrong : ChangeSpec := { name := "fnExactJoinLayers", fn := fun _ => fun
  | [d1, d2] => { results := [.lit (.bool false)], args := [d1, d2] }
  | _ => none }
def FnExactJoinLayersWrongFalsely : Prop := fnExactJoinLayersRow.holds Try.pinned (OpenSpec.ofChange fnExactJoinLayersWrong)

/-- 'laws.FnExactSplitLayer': WHATEVER THE INPUT: true; the input reads as it did. -/
def fnExactSplitLayerSpec : ChangeSpec := { name := "fnExactSplitLayer", fn := fun _ => fun
  | [d1, d2, d3] => { results := [.lit (.bool true)], args := [d1, d2, d3] }
  | _ => none }
def fnExactSplitLayerRow : OpenClaim := { program := "ytfbfdiejffjbmaa", sum := "12f8266e76fc8f1a4d944c93bb3c2ed2df4bf17743e3da96dc16d5d223a828cd", func := "loop.example/g01013/laws.FnExactSplitLayer", spec := "fnExactSplitLayer", inPlace := ["slices.overlaps[loop.example/g01013/impl.Layer]"], unfollowed := true, recurses := true, apart := false }
def FnExactSplitLayerSaid : Prop := fnExactSplitLayerRow.holds Try.pinned (OpenSpec.ofChange fnExactSplitLayerSpec)

/-- ITS FALSE NEIGHBOUR: 'it returns false'. Refute it at one input. -/
def fnExactSplitLayerWrong : ChangeSpec := { name := "fnExactSplitLayer", fn := fun _ => fun
  | [d1, d2, d3] => { results := [.lit (.bool false)], args := [d1, d2, d3] }
  | _ => none }
def FnExactSplitLayerWrongFalsely : Prop := fnExactSplitLayerRow.holds Try.pinned (OpenSpec.ofChange fnExactSplitLayerWrong)

/-- 'laws.FnOdd': WHATEVER THE INPUT: true; the input reads as it did. -/
def fnOddSpec : ChangeSpec := { name := "fnOdd", fn := fun _ => fun
  | [d1, d2] => { results := [.lit (.bool true)], args := [d1, d2] }
  | _ => none }
def fnOddRow : OpenClaim := { program := "ytfbfdiejffjbmaa", sum := "12f8266e76fc8f1a4d944c93bb3c2ed2df4bf17743e3da96dc16d5d223a828cd", func := "loop.example/g01013/laws.FnOdd", spec := "fnOdd", unfollowed := true, recurses := true, apart := false }
def FnOddSaid : Prop := fnOddRow.holds Try.pinned (OpenSpec.ofChange fnOddSpec)

/-- ITS FALSE NEIGHBOUR: 'it returns false'. Refute it at one input. -/
def fnOddWrong : ChangeSpec := { name := "fnOdd", fn := fun _ => fun
  | [d1, d2] => { results := [.lit (.bool false)], args := [d1, d2] }
  | _ => none }
def FnOddWrongFalsely : Prop := fnOddRow.holds Try.pinned (OpenSpec.ofChange fnOddWrong)

/-- 'laws.FnMass': WHATEVER THE INPUT: true; the input reads as it did. -/
def fnMassSpec : ChangeSpec := { name := "fnMass", fn := fun _ => fun
  | [d1, d2] => { results := [.lit (.bool true)], args := [d1, d2] }
  | _ => none }
def fnMassRow : OpenClaim := { program := "ytfbfdiejffjbmaa", sum := "12f8266e76fc8f1a4d944c93bb3c2ed2df4bf17743e3da96dc16d5d223a828cd", func := "loop.example/g01013/laws.FnMass", spec := "fnMass", unfollowed := true, recurses := true, apart := false }
def FnMassSaid : Prop := fnMassRow.holds Try.pinned (OpenSpec.ofChange fnMassSpec)

/-- ITS FALSE NEIGHBOUR: 'it returns false'. Refute it at one input. -/
def fnMassWrong : ChangeSpec := { name := "fnMass", fn := fun _ => fun
  | [d1, d2] => { results := [.lit (.bool false)], args := [d1, d2] }
  | _ => none }
def FnMassWrongFalsely : Prop := fnMassRow.holds Try.pinned (OpenSpec.ofChange fnMassWrong)

/-- 'laws.FnExactSettleLayer': WHATEVER THE INPUT: true; the input reads as it did. -/
def fnExactSettleLayerSpec : ChangeSpec := { name := "fnExactSettleLayer", fn := fun _ => fun
  | [d1, d2] => { results := [.lit (.bool true)], args := [d1, d2] }
  | _ => none }
def fnExactSettleLayerRow : OpenClaim := { program := "ytfbfdiejffjbmaa", sum := "12f8266e76fc8f1a4d944c93bb3c2ed2df4bf17743e3da96dc16d5d223a828cd", func := "loop.example/g01013/laws.FnExactSettleLayer", spec := "fnExactSettleLayer", apart := false }
def FnExactSettleLayerSaid : Prop := fnExactSettleLayerRow.holds Try.pinned (OpenSpec.ofChange fnExactSettleLayerSpec)

/-- ITS FALSE NEIGHBOUR: 'it returns false'. Refute it at one input. -/
def fnExactSettleLayerWrong : ChangeSpec := { name := "fnExactSettleLayer", fn := fun _ => fun
  | [d1, d2] => { results := [.lit (.bool false)], args := [d1, d2] }
  | _ => none }
def FnExactSettleLayerWrongFalsely : Prop := fnExactSettleLayerRow.holds Try.pinned (OpenSpec.ofChange fnExactSettleLayerWrong)

/-- 'laws.FnExactSettleProfile': WHATEVER THE INPUT: true; the input reads as it did. -/
def fnExactSettleProfileSpec : ChangeSpec := { name := "fnExactSettleProfile", fn := fun _ => fun
  | [d] => { results := [.lit (.bool true)], args := [d] }
  | _ => none }
def fnExactSettleProfileRow : OpenClaim := { program := "ytfbfdiejffjbmaa", sum := "12f8266e76fc8f1a4d944c93bb3c2ed2df4bf17743e3da96dc16d5d223a828cd", func := "loop.example/g01013/laws.FnExactSettleProfile", spec := "fnExactSettleProfile", unfollowed := true, recurses := true, apart := false }
def FnExactSettleProfileSaid : Prop := fnExactSettleProfileRow.holds Try.pinned (OpenSpec.ofChange fnExactSettleProfileSpec)

/-- ITS FALSE NEIGHBOUR: 'it returns false'. Refute it at one input. -/
def fnExactSettleProfileWrong : ChangeSpec := { name := "fnExactSettleProfile", fn := fun _ => fun
  | [d] => { results := [.lit (.bool false)], args := [d] }
  | _ => none }
def FnExactSettleProfileWrongFalsely : Prop := fnExactSettleProfileRow.holds Try.pinned (OpenSpec.ofChange fnExactSettleProfileWrong)

/-- 'laws.FnExactWarmTop': WHATEVER THE INPUT: true; the input reads as it did. -/
def fnExactWarmTopSpec : ChangeSpec := { name := "fnExactWarmTop", fn := fun _ => fun
  | [d1, d2] => { results := [.lit (.bool true)], args := [d1, d2] }
  | _ => none }
def fnExactWarmTopRow : OpenClaim := { program := "ytfbfdiejffjbmaa", sum := "12f8266e76fc8f1a4d944c93bb3c2ed2df4bf17743e3da96dc16d5d223a828cd", func := "loop.example/g01013/laws.FnExactWarmTop", spec := "fnExactWarmTop", unfollowed := true, recurses := true, apart := false }
def FnExactWarmTopSaid : Prop := fnExactWarmTopRow.holds Try.pinned (OpenSpec.ofChange fnExactWarmTopSpec)

/-- ITS FALSE NEIGHBOUR: 'it returns false'. Refute it at one input. -/
def fnExactWarmTopWrong : ChangeSpec := { name := "fnExactWarmTop", fn := fun _ => fun
  | [d1, d2] => { results := [.lit (.bool false)], args := [d1, d2] }
  | _ => none }
def FnExactWarmTopWrongFalsely : Prop := fnExactWarmTopRow.holds Try.pinned (OpenSpec.ofChange fnExactWarmTopWrong)

/-- 'laws.FnExactCoolTop': WHATEVER THE INPUT: true; the input reads as it did. -/
def fnExactCoolTopSpec : ChangeSpec := { name := "fnExactCoolTop", fn := fun _ => fun
  | [d1, d2] => { results := [.lit (.bool true)], args := [d1, d2] }
  | _ => none }
def fnExactCoolTopRow : OpenClaim := { program := "ytfbfdiejffjbmaa", sum := "12f8266e76fc8f1a4d944c93bb3c2ed2df4bf17743e3da96dc16d5d223a828cd", func := "loop.example/g01013/laws.FnExactCoolTop", spec := "fnExactCoolTop", unfollowed := true, recurses := true, apart := false }
def FnExactCoolTopSaid : Prop := fnExactCoolTopRow.holds Try.pinned (OpenSpec.ofChange fnExactCoolTopSpec)

/-- ITS FALSE NEIGHBOUR: 'it returns false'. Refute it at one input. -/
def fnExactCoolTopWrong : ChangeSpec := { name := "fnExactCoolTop", fn := fun _ => fun
  | [d1, d2] => { results := [.lit (.bool false)], args := [d1, d2] }
  | _ => none }
def FnExactCoolTopWrongFalsely : Prop := fnExactCoolTopRow.holds Try.pinned (OpenSpec.ofChange fnExactCoolTopWrong)

/-- 'laws.FnExactDrainProfile': WHATEVER THE INPUT: true; the input reads as it did. -/
def fnExactDrainProfileSpec : ChangeSpec := { name := "fnExactDrainProfile", fn := fun _ => fun
  | [d] => { results := [.lit (.bool true)], args := [d] }
  | _ => none }
def fnExactDrainProfileRow : OpenClaim := { program := "ytfbfdiejffjbmaa", sum := "12f8266e76fc8f1a4d944c93bb3c2ed2df4bf17743e3da96dc16d5d223a828cd", func := "loop.example/g01013/laws.FnExactDrainProfile", spec := "fnExactDrainProfile", unfollowed := true, recurses := true, apart := false }
def FnExactDrainProfileSaid : Prop := fnExactDrainProfileRow.holds Try.pinned (OpenSpec.ofChange fnExactDrainProfileSpec)

/-- ITS FALSE NEIGHBOUR: 'it returns false'. Refute it at one input. -/
def fnExactDrainProfileWrong : ChangeSpec := { name := "fnExactDrainProfile", fn := fun _ => fun
  | [d] => { results := [.lit (.bool false)], args := [d] }
  | _ => none }
def FnExactDrainProfileWrongFalsely : Prop := fnExactDrainProfileRow.holds Try.pinned (OpenSpec.ofChange fnExactDrainProfileWrong)

/-- 'laws.FnExactGradientOf': WHATEVER THE INPUT: true; the input reads as it did. -/
def fnExactGradientOfSpec : ChangeSpec := { name := "fnExactGradientOf", fn := fun _ => fun
  | [d1, d2] => { results := [.lit (.bool true)], args := [d1, d2] }
  | _ => none }
def fnExactGradientOfRow : OpenClaim := { program := "ytfbfdiejffjbmaa", sum := "12f8266e76fc8f1a4d944c93bb3c2ed2df4bf17743e3da96dc16d5d223a828cd", func := "loop.example/g01013/laws.FnExactGradientOf", spec := "fnExactGradientOf", unfollowed := true, recurses := true, apart := false }
def FnExactGradientOfSaid : Prop := fnExactGradientOfRow.holds Try.pinned (OpenSpec.ofChange fnExactGradientOfSpec)

/-- ITS FALSE NEIGHBOUR: 'it returns false'. Refute it at one input. -/
def fnExactGradientOfWrong : ChangeSpec := { name := "fnExactGradientOf", fn := fun _ => fun
  | [d1, d2] => { results := [.lit (.bool false)], args := [d1, d2] }
  | _ => none }
def FnExactGradientOfWrongFalsely : Prop := fnExactGradientOfRow.holds Try.pinned (OpenSpec.ofChange fnExactGradientOfWrong)

/- THE SECOND FORM. 'bulk': how many values and letters a reading holds, each counted each time it is reached (what is shared counts as often as it is met; a slice's spare places count too). A statement '..UptoSaid' is the law's where the arguments, and the package variables that the reading takes, are together of bulk at most 1048576: NARROWER than '..Said'. Prove '..Said' where nothing that the law and all that it calls make is longer than what came in: it says more and counts as full. Else prove '..UptoSaid'. A law counts once. -/
mutual
def uptoBulk {H : Type} : DataW H → Nat
  | .lit (.string bytes) => bytes.length + 1
  | .lit _ => 1
  | .nil => 1
  | .ptr d => uptoBulk d + 1
  | .slice elems spare => uptoBulkAll elems + uptoBulkAll spare + 1
  | .agg parts => uptoBulkAll parts + 1
  | .iface _ d => uptoBulk d + 1
  | .map entries => uptoBulkEntries entries + 1
  | .held _ => 1
def uptoBulkAll {H : Type} : List (DataW H) → Nat
  | [] => 0
  | d :: r => uptoBulk d + uptoBulkAll r
def uptoBulkEntries {H : Type} : List (Lit × DataW H) → Nat
  | [] => 0
  | x :: r => uptoBulkEntry x + uptoBulkEntries r
def uptoBulkEntry {H : Type} : Lit × DataW H → Nat
  | (.string bytes, d) => bytes.length + uptoBulk d + 1
  | (_, d) => uptoBulk d + 1
 end
def uptoSmall : (H : Type) → List (DataW H) → Bool := fun _ ds => decide (uptoBulkAll ds ≤ 1048576)
def OpenSpec.upto (s : _root_.Go.ChangeSpec) : _root_.Go.OpenSpec := { _root_.Go.OpenSpec.ofChange s with cond := some uptoSmall }

/-- 'laws.FnExactAddObserved', WHERE WHAT IT READS IS OF BULK AT MOST 1048576: true; the input reads as it did. -/
def fnExactAddObservedUptoRow : OpenClaim := { program := "ytfbfdiejffjbmaa", sum := "12f8266e76fc8f1a4d944c93bb3c2ed2df4bf17743e3da96dc16d5d223a828cd", func := "loop.example/g01013/laws.FnExactAddObserved", spec := "fnExactAddObserved", inPlace := ["internal/reflectlite.ValueOf", "internal/reflectlite.Swapper", "(internal/reflectlite.Value).Len"], unfollowed := true, recurses := true, apart := false, narrowed := true }
def FnExactAddObservedUptoSaid : Prop := fnExactAddObservedUptoRow.holds Try.pinned (OpenSpec.upto fnExactAddObservedSpec)

/-- 'laws.FnExactJoinLayers', WHERE WHAT IT READS IS OF BULK AT MOST 1048576: true; the input reads as it did. -/
def fnExactJoinLayersUptoRow : OpenClaim := { program := "ytfbfdiejffjbmaa", sum := "12f8266e76fc8f1a4d944c93bb3c2ed2df4bf17743e3da96dc16d5d223a828cd", func := "loop.example/g01013/laws.FnExactJoinLayers", spec := "fnExactJoinLayers", inPlace := ["slices.overlaps[loop.example/g01013/impl.Layer]"], unfollowed := true, recurses := true, apart := false, narrowed := true }
def FnExactJoinLayersUptoSaid : Prop := fnExactJoinLayersUptoRow.holds Try.pinned (OpenSpec.upto fnExactJoinLayersSpec)

/-- 'laws.FnExactSplitLayer', WHERE WHAT IT READS IS OF BULK AT MOST 1048576: true; the input reads as it did. -/
def fnExactSplitLayerUptoRow : OpenClaim := { program := "ytfbfdiejffjbmaa", sum := "12f8266e76fc8f1a4d944c93bb3c2ed2df4bf17743e3da96dc16d5d223a828cd", func := "loop.example/g01013/laws.FnExactSplitLayer", spec := "fnExactSplitLayer", inPlace := ["slices.overlaps[loop.example/g01013/impl.Layer]"], unfollowed := true, recurses := true, apart := false, narrowed := true }
def FnExactSplitLayerUptoSaid : Prop := fnExactSplitLayerUptoRow.holds Try.pinned (OpenSpec.upto fnExactSplitLayerSpec)

/-- 'laws.FnOdd', WHERE WHAT IT READS IS OF BULK AT MOST 1048576: true; the input reads as it did. -/
def fnOddUptoRow : OpenClaim := { program := "ytfbfdiejffjbmaa", sum := "12f8266e76fc8f1a4d944c93bb3c2ed2df4bf17743e3da96dc16d5d223a828cd", func := "loop.example/g01013/laws.FnOdd", spec := "fnOdd", unfollowed := true, recurses := true, apart := false, narrowed := true }
def FnOddUptoSaid : Prop := fnOddUptoRow.holds Try.pinned (OpenSpec.upto fnOddSpec)

/-- 'laws.FnMass', WHERE WHAT IT READS IS OF BULK AT MOST 1048576: true; the input reads as it did. -/
def fnMassUptoRow : OpenClaim := { program := "ytfbfdiejffjbmaa", sum := "12f8266e76fc8f1a4d944c93bb3c2ed2df4bf17743e3da96dc16d5d223a828cd", func := "loop.example/g01013/laws.FnMass", spec := "fnMass", unfollowed := true, recurses := true, apart := false, narrowed := true }
def FnMassUptoSaid : Prop := fnMassUptoRow.holds Try.pinned (OpenSpec.upto fnMassSpec)

/-- 'laws.FnExactSettleLayer', WHERE WHAT IT READS IS OF BULK AT MOST 1048576: true; the input reads as it did. -/
def fnExactSettleLayerUptoRow : OpenClaim := { program := "ytfbfdiejffjbmaa", sum := "12f8266e76fc8f1a4d944c93bb3c2ed2df4bf17743e3da96dc16d5d223a828cd", func := "loop.example/g01013/laws.FnExactSettleLayer", spec := "fnExactSettleLayer", apart := false, narrowed := true }
def FnExactSettleLayerUptoSaid : Prop := fnExactSettleLayerUptoRow.holds Try.pinned (OpenSpec.upto fnExactSettleLayerSpec)

/-- 'laws.FnExactSettleProfile', WHERE WHAT IT READS IS OF BULK AT MOST 1048576: true; the input reads as it did. -/
def fnExactSettleProfileUptoRow : OpenClaim := { program := "ytfbfdiejffjbmaa", sum := "12f8266e76fc8f1a4d944c93bb3c2ed2df4bf17743e3da96dc16d5d223a828cd", func := "loop.example/g01013/laws.FnExactSettleProfile", spec := "fnExactSettleProfile", unfollowed := true, recurses := true, apart := false, narrowed := true }
def FnExactSettleProfileUptoSaid : Prop := fnExactSettleProfileUptoRow.holds Try.pinned (OpenSpec.upto fnExactSettleProfileSpec)

/-- 'laws.FnExactWarmTop', WHERE WHAT IT READS IS OF BULK AT MOST 1048576: true; the input reads as it did. -/
def fnExactWarmTopUptoRow : OpenClaim := { program := "ytfbfdiejffjbmaa", sum := "12f8266e76fc8f1a4d944c93bb3c2ed2df4bf17743e3da96dc16d5d223a828cd", func := "loop.example/g01013/laws.FnExactWarmTop", spec := "fnExactWarmTop", unfollowed := true, recurses := true, apart := false, narrowed := true }
def FnExactWarmTopUptoSaid : Prop := fnExactWarmTopUptoRow.holds Try.pinned (OpenSpec.upto fnExactWarmTopSpec)

/-- 'laws.FnExactCoolTop', WHERE WHAT IT READS IS OF BULK AT MOST 1048576: true; the input reads as it did. -/
def fnExactCoolTopUptoRow : OpenClaim := { program := "ytfbfdiejffjbmaa", sum := "12f8266e76fc8f1a4d944c93bb3c2ed2df4bf17743e3da96dc16d5d223a828cd", func := "loop.example/g01013/laws.FnExactCoolTop", spec := "fnExactCoolTop", unfollowed := true, recurses := true, apart := false, narrowed := true }
def FnExactCoolTopUptoSaid : Prop := fnExactCoolTopUptoRow.holds Try.pinned (OpenSpec.upto fnExactCoolTopSpec)

/-- 'laws.FnExactDrainProfile', WHERE WHAT IT READS IS OF BULK AT MOST 1048576: true; the input reads as it did. -/
def fnExactDrainProfileUptoRow : OpenClaim := { program := "ytfbfdiejffjbmaa", sum := "12f8266e76fc8f1a4d944c93bb3c2ed2df4bf17743e3da96dc16d5d223a828cd", func := "loop.example/g01013/laws.FnExactDrainProfile", spec := "fnExactDrainProfile", unfollowed := true, recurses := true, apart := false, narrowed := true }
def FnExactDrainProfileUptoSaid : Prop := fnExactDrainProfileUptoRow.holds Try.pinned (OpenSpec.upto fnExactDrainProfileSpec)

/-- 'laws.FnExactGradientOf', WHERE WHAT IT READS IS OF BULK AT MOST 1048576: true; the input reads as it did. -/
def fnExactGradientOfUptoRow : OpenClaim := { program := "ytfbfdiejffjbmaa", sum := "12f8266e76fc8f1a4d944c93bb3c2ed2df4bf17743e3da96dc16d5d223a828cd", func := "loop.example/g01013/laws.FnExactGradientOf", spec := "fnExactGradientOf", unfollowed := true, recurses := true, apart := false, narrowed := true }
def FnExactGradientOfUptoSaid : Prop := fnExactGradientOfUptoRow.holds Try.pinned (OpenSpec.upto fnExactGradientOfSpec)

end Rows
end Go.Proofs.Ytfbfdiejffjbmaa
