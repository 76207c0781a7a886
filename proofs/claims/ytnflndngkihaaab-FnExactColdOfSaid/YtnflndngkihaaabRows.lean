/-
  No cell of these rows narrows 'for every input' (looked for: loops, veiled, ifaces, maps, wideKeys, modest, calm, conditions, laid).
  DERIVED. THE GIVEN ROWS OF THIS SEAT. 10 by the template 'for every input the law returns true; each argument reads behind the call as it read before'; 0 by the template 'total and deterministic' (their statements: YtnflndngkihaaabTotals.lean).
  GIVEN WITH THE SEED: the statements are not yours to turn. If you find one false, say at which input.
  Laid BY PROGRAM, IN A SANDBOX (cutbox-rows.mjs): the forced cells as the released guide's own fill.sh prints them over the translation a36216c8f5492b51… (all of the seat's roots in one cut). By AI agents, Wed Nov 11 2026. No macro, syntax, notation, axiom, sorry.
-/
import Derived.Test.YtnflndngkihaaabChecked
import GoSem.Claim
import GoSem.ClaimJoined
import GoSem.ClaimMapViews
import Derived.JoinedTies
import Derived.KernelRfl
namespace Go.Proofs.Ytnflndngkihaaab
/- THE CELL 'sum', in the pinned program and in every row, IS THE sha256 OF THE DUMP (.gsa) THAT YtnflndngkihaaabProg.lean LOADS. Nothing in Lean hashes anything: it is a label: what it is worth is what the hold of that sum in a sandbox is worth. -/
noncomputable def Try.pinned : Pinned := { name := "ytnflndngkihaaab", sum := "a36216c8f5492b510a2e5a21c694652c0af5fae035d9cc16b49a94c78542e3a9", checked := Try.checked }
namespace Rows
def none {H : Type} : Left H := { results := [], args := [] }

/-- 'laws.FnExactSameProfile': WHATEVER THE INPUT: true; the input reads as it did. -/
def fnExactSameProfileSpec : ChangeSpec := { name := "fnExactSameProfile", fn := fun _ => fun
  | [d1, d2] => { results := [.lit (.bool true)], args := [d1, d2] }
  | _ => none }
def fnExactSameProfileRow : OpenClaim := { program := "ytnflndngkihaaab", sum := "a36216c8f5492b510a2e5a21c694652c0af5fae035d9cc16b49a94c78542e3a9", func := "loop.example/g01013/laws.FnExactSameProfile", spec := "fnExactSameProfile", apart := false }
def FnExactSameProfileSaid : Prop := fnExactSameProfileRow.holds Try.pinned (OpenSpec.ofChange fnExactSameProfileSpec)

/-- ITS FALSE NEIGHBOUR: 'it returns false'. Refute it at one input. -/
def fnExactSameProfileWrong : ChangeSpec := { name := "fnExactSameProfile", fn := fun _ => fun
  | [d1, d2] => { results := [.lit (.bool false)], args := [d1, d2] }
  | _ => none }
def FnExactSameProfileWrongFalsely : Prop := fnExactSameProfileRow.holds Try.pinned (OpenSpec.ofChange fnExactSameProfileWrong)

/-- 'laws.FnExactThicknessOf': WHATEVER THE INPUT: true; the input reads as it did. -/
def fnExactThicknessOfSpec : ChangeSpec := { name := "fnExactThicknessOf", fn := fun _ => fun
  | [d] => { results := [.lit (.bool true)], args := [d] }
  | _ => none }
def fnExactThicknessOfRow : OpenClaim := { program := "ytnflndngkihaaab", sum := "a36216c8f5492b510a2e5a21c694652c0af5fae035d9cc16b49a94c78542e3a9", func := "loop.example/g01013/laws.FnExactThicknessOf", spec := "fnExactThicknessOf", apart := false }
def FnExactThicknessOfSaid : Prop := fnExactThicknessOfRow.holds Try.pinned (OpenSpec.ofChange fnExactThicknessOfSpec)

/-- ITS FALSE NEIGHBOUR: 'it returns false'. Refute it at one input. -/
def fnExactThicknessOfWrong : ChangeSpec := { name := "fnExactThicknessOf", fn := fun _ => fun
  | [d] => { results := [.lit (.bool false)], args := [d] }
  | _ => none }
def FnExactThicknessOfWrongFalsely : Prop := fnExactThicknessOfRow.holds Try.pinned (OpenSpec.ofChange fnExactThicknessOfWrong)

/-- 'laws.FnExactHeightOf': WHATEVER THE INPUT: true; the input reads as it did. -/
def fnExactHeightOfSpec : ChangeSpec := { name := "fnExactHeightOf", fn := fun _ => fun
  | [d] => { results := [.lit (.bool true)], args := [d] }
  | _ => none }
def fnExactHeightOfRow : OpenClaim := { program := "ytnflndngkihaaab", sum := "a36216c8f5492b510a2e5a21c694652c0af5fae035d9cc16b49a94c78542e3a9", func := "loop.example/g01013/laws.FnExactHeightOf", spec := "fnExactHeightOf", unfollowed := true, recurses := true, apart := false }
def FnExactHeightOfSaid : Prop := fnExactHeightOfRow.holds Try.pinned (OpenSpec.ofChange fnExactHeightOfSpec)

/-- ITS FALSE NEIGHBOUR: 'it returns false'. Refute it at one input. -/
def fnExactHeightOfWrong : ChangeSpec := { name := "fnExactHeightOf", fn := fun _ => fun
  | [d] => { results := [.lit (.bool false)], args := [d] }
  | _ => none }
def FnExactHeightOfWrongFalsely : Prop := fnExactHeightOfRow.holds Try.pinned (OpenSpec.ofChange fnExactHeightOfWrong)

/-- 'laws.FnExactMassOf': WHATEVER THE INPUT: true; the input reads as it did. -/
def fnExactMassOfSpec : ChangeSpec := { name := "fnExactMassOf", fn := fun _ => fun
  | [d] => { results := [.lit (.bool true)], args := [d] }
  | _ => none }
def fnExactMassOfRow : OpenClaim := { program := "ytnflndngkihaaab", sum := "a36216c8f5492b510a2e5a21c694652c0af5fae035d9cc16b49a94c78542e3a9", func := "loop.example/g01013/laws.FnExactMassOf", spec := "fnExactMassOf", unfollowed := true, recurses := true, apart := false }
def FnExactMassOfSaid : Prop := fnExactMassOfRow.holds Try.pinned (OpenSpec.ofChange fnExactMassOfSpec)

/-- ITS FALSE NEIGHBOUR: 'it returns false'. Refute it at one input. -/
def fnExactMassOfWrong : ChangeSpec := { name := "fnExactMassOf", fn := fun _ => fun
  | [d] => { results := [.lit (.bool false)], args := [d] }
  | _ => none }
def FnExactMassOfWrongFalsely : Prop := fnExactMassOfRow.holds Try.pinned (OpenSpec.ofChange fnExactMassOfWrong)

/-- 'laws.FnExactLayerAt': WHATEVER THE INPUT: true; the input reads as it did. -/
def fnExactLayerAtSpec : ChangeSpec := { name := "fnExactLayerAt", fn := fun _ => fun
  | [d1, d2] => { results := [.lit (.bool true)], args := [d1, d2] }
  | _ => none }
def fnExactLayerAtRow : OpenClaim := { program := "ytnflndngkihaaab", sum := "a36216c8f5492b510a2e5a21c694652c0af5fae035d9cc16b49a94c78542e3a9", func := "loop.example/g01013/laws.FnExactLayerAt", spec := "fnExactLayerAt", unfollowed := true, recurses := true, apart := false }
def FnExactLayerAtSaid : Prop := fnExactLayerAtRow.holds Try.pinned (OpenSpec.ofChange fnExactLayerAtSpec)

/-- ITS FALSE NEIGHBOUR: 'it returns false'. Refute it at one input. -/
def fnExactLayerAtWrong : ChangeSpec := { name := "fnExactLayerAt", fn := fun _ => fun
  | [d1, d2] => { results := [.lit (.bool false)], args := [d1, d2] }
  | _ => none }
def FnExactLayerAtWrongFalsely : Prop := fnExactLayerAtRow.holds Try.pinned (OpenSpec.ofChange fnExactLayerAtWrong)

/-- 'laws.FnExactLoadAbove': WHATEVER THE INPUT: true; the input reads as it did. -/
def fnExactLoadAboveSpec : ChangeSpec := { name := "fnExactLoadAbove", fn := fun _ => fun
  | [d1, d2] => { results := [.lit (.bool true)], args := [d1, d2] }
  | _ => none }
def fnExactLoadAboveRow : OpenClaim := { program := "ytnflndngkihaaab", sum := "a36216c8f5492b510a2e5a21c694652c0af5fae035d9cc16b49a94c78542e3a9", func := "loop.example/g01013/laws.FnExactLoadAbove", spec := "fnExactLoadAbove", unfollowed := true, recurses := true, apart := false }
def FnExactLoadAboveSaid : Prop := fnExactLoadAboveRow.holds Try.pinned (OpenSpec.ofChange fnExactLoadAboveSpec)

/-- ITS FALSE NEIGHBOUR: 'it returns false'. Refute it at one input. -/
def fnExactLoadAboveWrong : ChangeSpec := { name := "fnExactLoadAbove", fn := fun _ => fun
  | [d1, d2] => { results := [.lit (.bool false)], args := [d1, d2] }
  | _ => none }
def FnExactLoadAboveWrongFalsely : Prop := fnExactLoadAboveRow.holds Try.pinned (OpenSpec.ofChange fnExactLoadAboveWrong)

/-- 'laws.FnExactAddLayer': WHATEVER THE INPUT: true; the input reads as it did. -/
def fnExactAddLayerSpec : ChangeSpec := { name := "fnExactAddLayer", fn := fun _ => fun
  | [d1, d2] => { results := [.lit (.bool true)], args := [d1, d2] }
  | _ => none }
def fnExactAddLayerRow : OpenClaim := { program := "ytnflndngkihaaab", sum := "a36216c8f5492b510a2e5a21c694652c0af5fae035d9cc16b49a94c78542e3a9", func := "loop.example/g01013/laws.FnExactAddLayer", spec := "fnExactAddLayer", unfollowed := true, recurses := true, apart := false }
def FnExactAddLayerSaid : Prop := fnExactAddLayerRow.holds Try.pinned (OpenSpec.ofChange fnExactAddLayerSpec)

/-- ITS FALSE NEIGHBOUR: 'it returns false'. Refute it at one input. -/
def fnExactAddLayerWrong : ChangeSpec := { name := "fnExactAddLayer", fn := fun _ => fun
  | [d1, d2] => { results := [.lit (.bool false)], args := [d1, d2] }
  | _ => none }
def FnExactAddLayerWrongFalsely : Prop := fnExactAddLayerRow.holds Try.pinned (OpenSpec.ofChange fnExactAddLayerWrong)

/-- 'laws.FnExactJoinLayers': WHATEVER THE INPUT: true; the input reads as it did. -/
def fnExactJoinLayersSpec : ChangeSpec := { name := "fnExactJoinLayers", fn := fun _ => fun
  | [d1, d2] => { results := [.lit (.bool true)], args := [d1, d2] }
  | _ => none }
def fnExactJoinLayersRow : OpenClaim := { program := "ytnflndngkihaaab", sum := "a36216c8f5492b510a2e5a21c694652c0af5fae035d9cc16b49a94c78542e3a9", func := "loop.example/g01013/laws.FnExactJoinLayers", spec := "fnExactJoinLayers", inPlace := ["slices.overlaps[loop.example/g01013/impl.Layer]"], unfollowed := true, recurses := true, apart := false }
def FnExactJoinLayersSaid : Prop := fnExactJoinLayersRow.holds Try.pinned (OpenSpec.ofChange fnExactJoinLayersSpec)

/-- ITS FALSE NEIGHBOUR: 'it returns false'. Refute it at one input. -/
def fnExactJoinLayersWrong : ChangeSpec := { name := "fnExactJoinLayers", fn := fun _ => fun
  | [d1, d2] => { results := [.lit (.bool false)], args := [d1, d2] }
  | _ => none }
def FnExactJoinLayersWrongFalsely : Prop := fnExactJoinLayersRow.holds Try.pinned (OpenSpec.ofChange fnExactJoinLayersWrong)

/-- 'laws.FnExactSplitLayer': WHATEVER THE INPUT: true; the input reads as it did. -/
def fnExactSplitLayerSpec : ChangeSpec := { name := "fnExactSplitLayer", fn := fun _ => fun
  | [d1, d2, d3] => { results := [.lit (.bool true)], args := [d1, d2, d3] }
  | _ => none }
def fnExactSplitLayerRow : OpenClaim := { program := "ytnflndngkihaaab", sum := "a36216c8f5492b510a2e5a21c694652c0af5fae035d9cc16b49a94c78542e3a9", func := "loop.example/g01013/laws.FnExactSplitLayer", spec := "fnExactSplitLayer", inPlace := ["slices.overlaps[loop.example/g01013/impl.Layer]"], unfollowed := true, recurses := true, apart := false }
def FnExactSplitLayerSaid : Prop := fnExactSplitLayerRow.holds Try.pinned (OpenSpec.ofChange fnExactSplitLayerSpec)

/-- ITS FALSE NEIGHBOUR: 'it returns false'. Refute it at one input. -/
def fnExactSplitLayerWrong : ChangeSpec := { name := "fnExactSplitLayer", fn := fun _ => fun
  | [d1, d2, d3] => { results := [.lit (.bool false)], args := [d1, d2, d3] }
  | _ => none }
def FnExactSplitLayerWrongFalsely : Prop := fnExactSplitLayerRow.holds Try.pinned (OpenSpec.ofChange fnExactSplitLayerWrong)

/-- 'laws.FnExactColdOf': WHATEVER THE INPUT: true; the input reads as it did. -/
def fnExactColdOfSpec : ChangeSpec := { name := "fnExactColdOf", fn := fun _ => fun
  | [d] => { results := [.lit (.bool true)], args := [d] }
  | _ => none }
def fnExactColdOfRow : OpenClaim := { program := "ytnflndngkihaaab", sum := "a36216c8f5492b510a2e5a21c694652c0af5fae035d9cc16b49a94c78542e3a9", func := "loop.example/g01013/laws.FnExactColdOf", spec := "fnExactColdOf", unfollowed := true, recurses := true, apart := false }
def FnExactColdOfSaid : Prop := fnExactColdOfRow.holds Try.pinned (OpenSpec.ofChange fnExactColdOfSpec)

/-- ITS FALSE NEIGHBOUR: 'it returns false'. Refute it at one input. -/
def fnExactColdOfWrong : ChangeSpec := { name := "fnExactColdOf", fn := fun _ => fun
  | [d] => { results := [.lit (.bool false)], args := [d] }
  | _ => none }
def FnExactColdOfWrongFalsely : Prop := fnExactColdOfRow.holds Try.pinned (OpenSpec.ofChange fnExactColdOfWrong)

/- THE SECOND FORM. 'bulk': how many values and letters a reading holds, each counted each time it is reached (what is shared counts as often as it is met; a slice's spare places count too). A statement '..UptoSaid' is the law's where the arguments, and the package variables that the reading takes, are together of bulk at most 1048576: NARROWER than '..Said'. Prove '..Said' where nothing that the law and all that it calls make is longer than what came in: it says more and counts as full. Else prove '..UptoSaid'. A law counts once. -/
mutual
def uptoBulk {H : Type} : DataW H → Nat
  | .lit (.string bytes) => bytes.length + 1
  | .lit _ => 1
  | .nil => 1
  | .ptr d => uptoBulk d + 1
  | .slice elems spare => uptoBulkAll elems + uptoBulkAll spare + 1
  | .agg parts => uptoBulkAll parts + 1
  | .iface _ d => uptoBulk d + 1
  | .map entries => uptoBulkEntries entries + 1
  | .held _ => 1
def uptoBulkAll {H : Type} : List (DataW H) → Nat
  | [] => 0
  | d :: r => uptoBulk d + uptoBulkAll r
def uptoBulkEntries {H : Type} : List (Lit × DataW H) → Nat
  | [] => 0
  | x :: r => uptoBulkEntry x + uptoBulkEntries r
def uptoBulkEntry {H : Type} : Lit × DataW H → Nat
  | (.string bytes, d) => bytes.length + uptoBulk d + 1
  | (_, d) => uptoBulk d + 1
 end
def uptoSmall : (H : Type) → List (DataW H) → Bool := fun _ ds => decide (uptoBulkAll ds ≤ 1048576)
def OpenSpec.upto (s : _root_.Go.ChangeSpec) : _root_.Go.OpenSpec := { _root_.Go.OpenSpec.ofChange s with cond := some uptoSmall }

/-- 'laws.FnExactSameProfile', WHERE WHAT IT READS IS OF BULK AT MOST 1048576: true; the input reads as it did. -/
def fnExactSameProfileUptoRow : OpenClaim := { program := "ytnflndngkihaaab", sum := "a36216c8f5492b510a2e5a21c694652c0af5fae035d9cc16b49a94c78542e3a9", func := "loop.example/g01013/laws.FnExactSameProfile", spec := "fnExactSameProfile", apart := false, narrowed := true }
def FnExactSameProfileUptoSaid : Prop := fnExactSameProfileUptoRow.holds Try.pinned (OpenSpec.upto fnExactSameProfileSpec)

/-- 'laws.FnExactThicknessOf', WHERE WHAT IT READS IS OF BULK AT MOST 1048576: true; the input reads as it did. -/
def fnExactThicknessOfUptoRow : OpenClaim := { program := "ytnflndngkihaaab", sum := "a36216c8f5492b510a2e5a21c694652c0af5fae035d9cc16b49a94c78542e3a9", func := "loop.example/g01013/laws.FnExactThicknessOf", spec := "fnExactThicknessOf", apart := false, narrowed := true }
def FnExactThicknessOfUptoSaid : Prop := fnExactThicknessOfUptoRow.holds Try.pinned (OpenSpec.upto fnExactThicknessOfSpec)

/-- 'laws.FnExactHeightOf', WHERE WHAT IT READS IS OF BULK AT MOST 1048576: true; the input reads as it did. -/
def fnExactHeightOfUptoRow : OpenClaim := { program := "ytnflndngkihaaab", sum := "a36216c8f5492b510a2e5a21c694652c0af5fae035d9cc16b49a94c78542e3a9", func := "loop.example/g01013/laws.FnExactHeightOf", spec := "fnExactHeightOf", unfollowed := true, recurses := true, apart := false, narrowed := true }
def FnExactHeightOfUptoSaid : Prop := fnExactHeightOfUptoRow.holds Try.pinned (OpenSpec.upto fnExactHeightOfSpec)

/-- 'laws.FnExactMassOf', WHERE WHAT IT READS IS OF BULK AT MOST 1048576: true; the input reads as it did. -/
def fnExactMassOfUptoRow : OpenClaim := { program := "ytnflndngkihaaab", sum := "a36216c8f5492b510a2e5a21c694652c0af5fae035d9cc16b49a94c78542e3a9", func := "loop.example/g01013/laws.FnExactMassOf", spec := "fnExactMassOf", unfollowed := true, recurses := true, apart := false, narrowed := true }
def FnExactMassOfUptoSaid : Prop := fnExactMassOfUptoRow.holds Try.pinned (OpenSpec.upto fnExactMassOfSpec)

/-- 'laws.FnExactLayerAt', WHERE WHAT IT READS IS OF BULK AT MOST 1048576: true; the input reads as it did. -/
def fnExactLayerAtUptoRow : OpenClaim := { program := "ytnflndngkihaaab", sum := "a36216c8f5492b510a2e5a21c694652c0af5fae035d9cc16b49a94c78542e3a9", func := "loop.example/g01013/laws.FnExactLayerAt", spec := "fnExactLayerAt", unfollowed := true, recurses := true, apart := false, narrowed := true }
def FnExactLayerAtUptoSaid : Prop := fnExactLayerAtUptoRow.holds Try.pinned (OpenSpec.upto fnExactLayerAtSpec)

/-- 'laws.FnExactLoadAbove', WHERE WHAT IT READS IS OF BULK AT MOST 1048576: true; the input reads as it did. -/
def fnExactLoadAboveUptoRow : OpenClaim := { program := "ytnflndngkihaaab", sum := "a36216c8f5492b510a2e5a21c694652c0af5fae035d9cc16b49a94c78542e3a9", func := "loop.example/g01013/laws.FnExactLoadAbove", spec := "fnExactLoadAbove", unfollowed := true, recurses := true, apart := false, narrowed := true }
def FnExactLoadAboveUptoSaid : Prop := fnExactLoadAboveUptoRow.holds Try.pinned (OpenSpec.upto fnExactLoadAboveSpec)

/-- 'laws.FnExactAddLayer', WHERE WHAT IT READS IS OF BULK AT MOST 1048576: true; the input reads as it did. -/
def fnExactAddLayerUptoRow : OpenClaim := { program := "ytnflndngkihaaab", sum := "a36216c8f5492b510a2e5a21c694652c0af5fae035d9cc16b49a94c78542e3a9", func := "loop.example/g01013/laws.FnExactAddLayer", spec := "fnExactAddLayer", unfollowed := true, recurses := true, apart := false, narrowed := true }
def FnExactAddLayerUptoSaid : Prop := fnExactAddLayerUptoRow.holds Try.pinned (OpenSpec.upto fnExactAddLayerSpec)

/-- 'laws.FnExactJoinLayers', WHERE WHAT IT READS IS OF BULK AT MOST 1048576: true; the input reads as it did. -/
def fnExactJoinLayersUptoRow : OpenClaim := { program := "ytnflndngkihaaab", sum := "a36216c8f5492b510a2e5a21c694652c0af5fae035d9cc16b49a94c78542e3a9", func := "loop.example/g01013/laws.FnExactJoinLayers", spec := "fnExactJoinLayers", inPlace := ["slices.overlaps[loop.example/g01013/impl.Layer]"], unfollowed := true, recurses := true, apart := false, narrowed := true }
def FnExactJoinLayersUptoSaid : Prop := fnExactJoinLayersUptoRow.holds Try.pinned (OpenSpec.upto fnExactJoinLayersSpec)

/-- 'laws.FnExactSplitLayer', WHERE WHAT IT READS IS OF BULK AT MOST 1048576: true; the input reads as it did. -/
def fnExactSplitLayerUptoRow : OpenClaim := { program := "ytnflndngkihaaab", sum := "a36216c8f5492b510a2e5a21c694652c0af5fae035d9cc16b49a94c78542e3a9", func := "loop.example/g01013/laws.FnExactSplitLayer", spec := "fnExactSplitLayer", inPlace := ["slices.overlaps[loop.example/g01013/impl.Layer]"], unfollowed := true, recurses := true, apart := false, narrowed := true }
def FnExactSplitLayerUptoSaid : Prop := fnExactSplitLayerUptoRow.holds Try.pinned (OpenSpec.upto fnExactSplitLayerSpec)

/-- 'laws.FnExactColdOf', WHERE WHAT IT READS IS OF BULK AT MOST 1048576: true; the input reads as it did. -/
def fnExactColdOfUptoRow : OpenClaim := { program := "ytnflndngkihaaab", sum := "a36216c8f5492b510a2e5a21c694652c0af5fae035d9cc16b49a94c78542e3a9", func := "loop.example/g01013/laws.FnExactColdOf", spec := "fnExactColdOf", unfollowed := true, recurses := true, apart := false, narrowed := true }
def FnExactColdOfUptoSaid : Prop := fnExactColdOfUptoRow.holds Try.pinned (OpenSpec.upto fnExactColdOfSpec)

end Rows
end Go.Proofs.Ytnflndngkihaaab
