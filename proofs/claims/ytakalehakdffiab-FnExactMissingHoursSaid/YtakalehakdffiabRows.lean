/-
  No cell of these rows narrows 'for every input' (looked for: loops, veiled, ifaces, maps, wideKeys, modest, calm, conditions, laid).
  DERIVED. THE GIVEN ROWS OF THIS SEAT. 11 by the template 'for every input the law returns true; each argument reads behind the call as it read before'; 0 by the template 'total and deterministic' (their statements: YtakalehakdffiabTotals.lean).
  GIVEN WITH THE SEED: the statements are not yours to turn. If you find one false, say at which input.
  Laid BY PROGRAM, IN A SANDBOX (cutbox-rows.mjs): the forced cells as the released guide's own fill.sh prints them over the translation 58d1c280c49fd4a0… (all of the seat's roots in one cut). By AI agents, Wed Nov 11 2026. No macro, syntax, notation, axiom, sorry.
-/
import Derived.Test.YtakalehakdffiabChecked
import GoSem.Claim
import GoSem.ClaimJoined
import GoSem.ClaimMapViews
import Derived.JoinedTies
import Derived.KernelRfl
namespace Go.Proofs.Ytakalehakdffiab
/- THE CELL 'sum', in the pinned program and in every row, IS THE sha256 OF THE DUMP (.gsa) THAT YtakalehakdffiabProg.lean LOADS. Nothing in Lean hashes anything: it is a label: what it is worth is what the hold of that sum in a sandbox is worth. -/
noncomputable def Try.pinned : Pinned := { name := "ytakalehakdffiab", sum := "58d1c280c49fd4a022b00ddffa76412d21bcb3357e7f6407764cce4fc90239ca", checked := Try.checked }
namespace Rows
def none {H : Type} : Left H := { results := [], args := [] }

/-- 'laws.FnExactAddObserved': WHATEVER THE INPUT: true; the input reads as it did. -/
def fnExactAddObservedSpec : ChangeSpec := { name := "fnExactAddObserved", fn := fun _ => fun
  | [d1, d2] => { results := [.lit (.bool true)], args := [d1, d2] }
  | _ => none }
def fnExactAddObservedRow : OpenClaim := { program := "ytakalehakdffiab", sum := "58d1c280c49fd4a022b00ddffa76412d21bcb3357e7f6407764cce4fc90239ca", func := "loop.example/g01013/laws.FnExactAddObserved", spec := "fnExactAddObserved", inPlace := ["internal/reflectlite.ValueOf", "internal/reflectlite.Swapper", "(internal/reflectlite.Value).Len"], unfollowed := true, recurses := true, apart := false }
def FnExactAddObservedSaid : Prop := fnExactAddObservedRow.holds Try.pinned (OpenSpec.ofChange fnExactAddObservedSpec)

/-- ITS FALSE NEIGHBOUR: 'it returns false'. Refute it at one input. -/
def fnExactAddObservedWrong : ChangeSpec := { name := "fnExactAddObserved", fn := fun _ => fun
  | [d1, d2] => { results := [.lit (.bool false)], args := [d1, d2] }
  | _ => none }
def FnExactAddObservedWrongFalsely : Prop := fnExactAddObservedRow.holds Try.pinned (OpenSpec.ofChange fnExactAddObservedWrong)

/-- 'laws.FnExactJoinLayers': WHATEVER THE INPUT: true; the input reads as it did. -/
def fnExactJoinLayersSpec : ChangeSpec := { name := "fnExactJoinLayers", fn := fun _ => fun
  | [d1, d2] => { results := [.lit (.bool true)], args := [d1, d2] }
  | _ => none }
def fnExactJoinLayersRow : OpenClaim := { program := "ytakalehakdffiab", sum := "58d1c280c49fd4a022b00ddffa76412d21bcb3357e7f6407764cce4fc90239ca", func := "loop.example/g01013/laws.FnExactJoinLayers", spec := "fnExactJoinLayers", inPlace := ["slices.overlaps[loop.example/g01013/impl.Layer]"], unfollowed := true, recurses := true, apart := false }
def FnExactJoinLayersSaid : Prop := fnExactJoinLayersRow.holds Try.pinned (OpenSpec.ofChange fnExactJoinLayersSpec)

/-- ITS FALSE NEIGHBOUR: 'it returns false'. Refute it at one input. -/
def fnExactJoinLayersWrong : ChangeSpec := { name := "fnExactJoinLayers", fn := fun _ => fun
  | [d1, d2] => { results := [.lit (.bool false)], args := [d1, d2] }
  | _ => none }
def FnExactJoinLayersWrongFalsely : Prop := fnExactJoinLayersRow.holds Try.pinned (OpenSpec.ofChange fnExactJoinLayersWrong)

/-- 'laws.FnExactSplitLayer': WHATEVER THE INPUT: true; the input reads as it did. -/
def fnExactSplitLayerSpec : ChangeSpec := { name := "fnExactSplitLayer", fn := fun _ => fun
  | [d1, d2, d3] => { results := [.lit (.bool true)], args := [d1, d2, d3] }
  | _ => none }
def fnExactSplitLayerRow : OpenClaim := { program := "ytakalehakdffiab", sum := "58d1c280c49fd4a022b00ddffa76412d21bcb3357e7f6407764cce4fc90239ca", func := "loop.example/g01013/laws.FnExactSplitLayer", spec := "fnExactSplitLayer", inPlace := ["slices.overlaps[loop.example/g01013/impl.Layer]"], unfollowed := true, recurses := true, apart := false }
def FnExactSplitLayerSaid : Prop := fnExactSplitLayerRow.holds Try.pinned (OpenSpec.ofChange fnExactSplitLayerSpec)

/-- ITS FALSE NEIGHBOUR: 'it returns false'. Refute it at one input. -/
def fnExactSplitLayerWrong : ChangeSpec := { name := "fnExactSplitLayer", fn := fun _ => fun
  | [d1, d2, d3] => { results := [.lit (.bool false)], args := [d1, d2, d3] }
  | _ => none }
def FnExactSplitLayerWrongFalsely : Prop := fnExactSplitLayerRow.holds Try.pinned (OpenSpec.ofChange fnExactSplitLayerWrong)

/-- 'laws.FnOdd': WHATEVER THE INPUT: true; the input reads as it did. -/
def fnOddSpec : ChangeSpec := { name := "fnOdd", fn := fun _ => fun
  | [d1, d2] => { results := [.lit (.bool true)], args := [d1, d2] }
  | _ => none }
def fnOddRow : OpenClaim := { program := "ytakalehakdffiab", sum := "58d1c280c49fd4a022b00ddffa76412d21bcb3357e7f6407764cce4fc90239ca", func := "loop.example/g01013/laws.FnOdd", spec := "fnOdd", unfollowed := true, recurses := true, apart := false }
def FnOddSaid : Prop := fnOddRow.holds Try.pinned (OpenSpec.ofChange fnOddSpec)

/-- ITS FALSE NEIGHBOUR: 'it returns false'. Refute it at one input. -/
def fnOddWrong : ChangeSpec := { name := "fnOdd", fn := fun _ => fun
  | [d1, d2] => { results := [.lit (.bool false)], args := [d1, d2] }
  | _ => none }
def FnOddWrongFalsely : Prop := fnOddRow.holds Try.pinned (OpenSpec.ofChange fnOddWrong)

/-- 'laws.FnExactColdOf': WHATEVER THE INPUT: true; the input reads as it did. -/
def fnExactColdOfSpec : ChangeSpec := { name := "fnExactColdOf", fn := fun _ => fun
  | [d] => { results := [.lit (.bool true)], args := [d] }
  | _ => none }
def fnExactColdOfRow : OpenClaim := { program := "ytakalehakdffiab", sum := "58d1c280c49fd4a022b00ddffa76412d21bcb3357e7f6407764cce4fc90239ca", func := "loop.example/g01013/laws.FnExactColdOf", spec := "fnExactColdOf", unfollowed := true, recurses := true, apart := false }
def FnExactColdOfSaid : Prop := fnExactColdOfRow.holds Try.pinned (OpenSpec.ofChange fnExactColdOfSpec)

/-- ITS FALSE NEIGHBOUR: 'it returns false'. Refute it at one input. -/
def fnExactColdOfWrong : ChangeSpec := { name := "fnExactColdOf", fn := fun _ => fun
  | [d] => { results := [.lit (.bool false)], args := [d] }
  | _ => none }
def FnExactColdOfWrongFalsely : Prop := fnExactColdOfRow.holds Try.pinned (OpenSpec.ofChange fnExactColdOfWrong)

/-- 'laws.FnExactSnowAt': WHATEVER THE INPUT: true; the input reads as it did. -/
def fnExactSnowAtSpec : ChangeSpec := { name := "fnExactSnowAt", fn := fun _ => fun
  | [d1, d2] => { results := [.lit (.bool true)], args := [d1, d2] }
  | _ => none }
def fnExactSnowAtRow : OpenClaim := { program := "ytakalehakdffiab", sum := "58d1c280c49fd4a022b00ddffa76412d21bcb3357e7f6407764cce4fc90239ca", func := "loop.example/g01013/laws.FnExactSnowAt", spec := "fnExactSnowAt", unfollowed := true, recurses := true, apart := false }
def FnExactSnowAtSaid : Prop := fnExactSnowAtRow.holds Try.pinned (OpenSpec.ofChange fnExactSnowAtSpec)

/-- ITS FALSE NEIGHBOUR: 'it returns false'. Refute it at one input. -/
def fnExactSnowAtWrong : ChangeSpec := { name := "fnExactSnowAt", fn := fun _ => fun
  | [d1, d2] => { results := [.lit (.bool false)], args := [d1, d2] }
  | _ => none }
def FnExactSnowAtWrongFalsely : Prop := fnExactSnowAtRow.holds Try.pinned (OpenSpec.ofChange fnExactSnowAtWrong)

/-- 'laws.FnExactNewSnow': WHATEVER THE INPUT: true; the input reads as it did. -/
def fnExactNewSnowSpec : ChangeSpec := { name := "fnExactNewSnow", fn := fun _ => fun
  | [d1, d2, d3] => { results := [.lit (.bool true)], args := [d1, d2, d3] }
  | _ => none }
def fnExactNewSnowRow : OpenClaim := { program := "ytakalehakdffiab", sum := "58d1c280c49fd4a022b00ddffa76412d21bcb3357e7f6407764cce4fc90239ca", func := "loop.example/g01013/laws.FnExactNewSnow", spec := "fnExactNewSnow", unfollowed := true, recurses := true, apart := false }
def FnExactNewSnowSaid : Prop := fnExactNewSnowRow.holds Try.pinned (OpenSpec.ofChange fnExactNewSnowSpec)

/-- ITS FALSE NEIGHBOUR: 'it returns false'. Refute it at one input. -/
def fnExactNewSnowWrong : ChangeSpec := { name := "fnExactNewSnow", fn := fun _ => fun
  | [d1, d2, d3] => { results := [.lit (.bool false)], args := [d1, d2, d3] }
  | _ => none }
def FnExactNewSnowWrongFalsely : Prop := fnExactNewSnowRow.holds Try.pinned (OpenSpec.ofChange fnExactNewSnowWrong)

/-- 'laws.FnExactMissingHours': WHATEVER THE INPUT: true; the input reads as it did. -/
def fnExactMissingHoursSpec : ChangeSpec := { name := "fnExactMissingHours", fn := fun _ => fun
  | [d1, d2, d3] => { results := [.lit (.bool true)], args := [d1, d2, d3] }
  | _ => none }
def fnExactMissingHoursRow : OpenClaim := { program := "ytakalehakdffiab", sum := "58d1c280c49fd4a022b00ddffa76412d21bcb3357e7f6407764cce4fc90239ca", func := "loop.example/g01013/laws.FnExactMissingHours", spec := "fnExactMissingHours", unfollowed := true, recurses := true, apart := false }
def FnExactMissingHoursSaid : Prop := fnExactMissingHoursRow.holds Try.pinned (OpenSpec.ofChange fnExactMissingHoursSpec)

/-- ITS FALSE NEIGHBOUR: 'it returns false'. Refute it at one input. -/
def fnExactMissingHoursWrong : ChangeSpec := { name := "fnExactMissingHours", fn := fun _ => fun
  | [d1, d2, d3] => { results := [.lit (.bool false)], args := [d1, d2, d3] }
  | _ => none }
def FnExactMissingHoursWrongFalsely : Prop := fnExactMissingHoursRow.holds Try.pinned (OpenSpec.ofChange fnExactMissingHoursWrong)

/-- 'laws.FnExactOddObserved': WHATEVER THE INPUT: true; the input reads as it did. -/
def fnExactOddObservedSpec : ChangeSpec := { name := "fnExactOddObserved", fn := fun _ => fun
  | [d1, d2, d3] => { results := [.lit (.bool true)], args := [d1, d2, d3] }
  | _ => none }
def fnExactOddObservedRow : OpenClaim := { program := "ytakalehakdffiab", sum := "58d1c280c49fd4a022b00ddffa76412d21bcb3357e7f6407764cce4fc90239ca", func := "loop.example/g01013/laws.FnExactOddObserved", spec := "fnExactOddObserved", unfollowed := true, recurses := true, apart := false }
def FnExactOddObservedSaid : Prop := fnExactOddObservedRow.holds Try.pinned (OpenSpec.ofChange fnExactOddObservedSpec)

/-- ITS FALSE NEIGHBOUR: 'it returns false'. Refute it at one input. -/
def fnExactOddObservedWrong : ChangeSpec := { name := "fnExactOddObserved", fn := fun _ => fun
  | [d1, d2, d3] => { results := [.lit (.bool false)], args := [d1, d2, d3] }
  | _ => none }
def FnExactOddObservedWrongFalsely : Prop := fnExactOddObservedRow.holds Try.pinned (OpenSpec.ofChange fnExactOddObservedWrong)

/-- 'laws.FnExactWithoutOdd': WHATEVER THE INPUT: true; the input reads as it did. -/
def fnExactWithoutOddSpec : ChangeSpec := { name := "fnExactWithoutOdd", fn := fun _ => fun
  | [d1, d2, d3] => { results := [.lit (.bool true)], args := [d1, d2, d3] }
  | _ => none }
def fnExactWithoutOddRow : OpenClaim := { program := "ytakalehakdffiab", sum := "58d1c280c49fd4a022b00ddffa76412d21bcb3357e7f6407764cce4fc90239ca", func := "loop.example/g01013/laws.FnExactWithoutOdd", spec := "fnExactWithoutOdd", unfollowed := true, recurses := true, apart := false }
def FnExactWithoutOddSaid : Prop := fnExactWithoutOddRow.holds Try.pinned (OpenSpec.ofChange fnExactWithoutOddSpec)

/-- ITS FALSE NEIGHBOUR: 'it returns false'. Refute it at one input. -/
def fnExactWithoutOddWrong : ChangeSpec := { name := "fnExactWithoutOdd", fn := fun _ => fun
  | [d1, d2, d3] => { results := [.lit (.bool false)], args := [d1, d2, d3] }
  | _ => none }
def FnExactWithoutOddWrongFalsely : Prop := fnExactWithoutOddRow.holds Try.pinned (OpenSpec.ofChange fnExactWithoutOddWrong)

/-- 'laws.FnExactWindHours': WHATEVER THE INPUT: true; the input reads as it did. -/
def fnExactWindHoursSpec : ChangeSpec := { name := "fnExactWindHours", fn := fun _ => fun
  | [d1, d2] => { results := [.lit (.bool true)], args := [d1, d2] }
  | _ => none }
def fnExactWindHoursRow : OpenClaim := { program := "ytakalehakdffiab", sum := "58d1c280c49fd4a022b00ddffa76412d21bcb3357e7f6407764cce4fc90239ca", func := "loop.example/g01013/laws.FnExactWindHours", spec := "fnExactWindHours", unfollowed := true, recurses := true, apart := false }
def FnExactWindHoursSaid : Prop := fnExactWindHoursRow.holds Try.pinned (OpenSpec.ofChange fnExactWindHoursSpec)

/-- ITS FALSE NEIGHBOUR: 'it returns false'. Refute it at one input. -/
def fnExactWindHoursWrong : ChangeSpec := { name := "fnExactWindHours", fn := fun _ => fun
  | [d1, d2] => { results := [.lit (.bool false)], args := [d1, d2] }
  | _ => none }
def FnExactWindHoursWrongFalsely : Prop := fnExactWindHoursRow.holds Try.pinned (OpenSpec.ofChange fnExactWindHoursWrong)

/- THE SECOND FORM. 'bulk': how many values and letters a reading holds, each counted each time it is reached (what is shared counts as often as it is met; a slice's spare places count too). A statement '..UptoSaid' is the law's where the arguments, and the package variables that the reading takes, are together of bulk at most 1048576: NARROWER than '..Said'. Prove '..Said' where nothing that the law and all that it calls make is longer than what came in: it says more and counts as full. Else prove '..UptoSaid'. A law counts once. -/
mutual
def uptoBulk {H : Type} : DataW H → Nat
  | .lit (.string bytes) => bytes.length + 1
  | .lit _ => 1
  | .nil => 1
  | .ptr d => uptoBulk d + 1
  | .slice elems spare => uptoBulkAll elems + uptoBulkAll spare + 1
  | .agg parts => uptoBulkAll parts + 1
  | .iface _ d => uptoBulk d + 1
  | .map entries => uptoBulkEntries entries + 1
  | .held _ => 1
def uptoBulkAll {H : Type} : List (DataW H) → Nat
  | [] => 0
  | d :: r => uptoBulk d + uptoBulkAll r
def uptoBulkEntries {H : Type} : List (Lit × DataW H) → Nat
  | [] => 0
  | x :: r => uptoBulkEntry x + uptoBulkEntries r
def uptoBulkEntry {H : Type} : Lit × DataW H → Nat
  | (.string bytes, d) => bytes.length + uptoBulk d + 1
  | (_, d) => uptoBulk d + 1
 end
def uptoSmall : (H : Type) → List (DataW H) → Bool := fun _ ds => decide (uptoBulkAll ds ≤ 1048576)
def OpenSpec.upto (s : _root_.Go.ChangeSpec) : _root_.Go.OpenSpec := { _root_.Go.OpenSpec.ofChange s with cond := some uptoSmall }

/-- 'laws.FnExactAddObserved', WHERE WHAT IT READS IS OF BULK AT MOST 1048576: true; the input reads as it did. -/
def fnExactAddObservedUptoRow : OpenClaim := { program := "ytakalehakdffiab", sum := "58d1c280c49fd4a022b00ddffa76412d21bcb3357e7f6407764cce4fc90239ca", func := "loop.example/g01013/laws.FnExactAddObserved", spec := "fnExactAddObserved", inPlace := ["internal/reflectlite.ValueOf", "internal/reflectlite.Swapper", "(internal/reflectlite.Value).Len"], unfollowed := true, recurses := true, apart := false, narrowed := true }
def FnExactAddObservedUptoSaid : Prop := fnExactAddObservedUptoRow.holds Try.pinned (OpenSpec.upto fnExactAddObservedSpec)

/-- 'laws.FnExactJoinLayers', WHERE WHAT IT READS IS OF BULK AT MOST 1048576: true; the input reads as it did. -/
def fnExactJoinLayersUptoRow : OpenClaim := { program := "ytakalehakdffiab", sum := "58d1c280c49fd4a022b00ddffa76412d21bcb3357e7f6407764cce4fc90239ca", func := "loop.example/g01013/laws.FnExactJoinLayers", spec := "fnExactJoinLayers", inPlace := ["slices.overlaps[loop.example/g01013/impl.Layer]"], unfollowed := true, recurses := true, apart := false, narrowed := true }
def FnExactJoinLayersUptoSaid : Prop := fnExactJoinLayersUptoRow.holds Try.pinned (OpenSpec.upto fnExactJoinLayersSpec)

/-- 'laws.FnExactSplitLayer', WHERE WHAT IT READS IS OF BULK AT MOST 1048576: true; the input reads as it did. -/
def fnExactSplitLayerUptoRow : OpenClaim := { program := "ytakalehakdffiab", sum := "58d1c280c49fd4a022b00ddffa76412d21bcb3357e7f6407764cce4fc90239ca", func := "loop.example/g01013/laws.FnExactSplitLayer", spec := "fnExactSplitLayer", inPlace := ["slices.overlaps[loop.example/g01013/impl.Layer]"], unfollowed := true, recurses := true, apart := false, narrowed := true }
def FnExactSplitLayerUptoSaid : Prop := fnExactSplitLayerUptoRow.holds Try.pinned (OpenSpec.upto fnExactSplitLayerSpec)

/-- 'laws.FnOdd', WHERE WHAT IT READS IS OF BULK AT MOST 1048576: true; the input reads as it did. -/
def fnOddUptoRow : OpenClaim := { program := "ytakalehakdffiab", sum := "58d1c280c49fd4a022b00ddffa76412d21bcb3357e7f6407764cce4fc90239ca", func := "loop.example/g01013/laws.FnOdd", spec := "fnOdd", unfollowed := true, recurses := true, apart := false, narrowed := true }
def FnOddUptoSaid : Prop := fnOddUptoRow.holds Try.pinned (OpenSpec.upto fnOddSpec)

/-- 'laws.FnExactColdOf', WHERE WHAT IT READS IS OF BULK AT MOST 1048576: true; the input reads as it did. -/
def fnExactColdOfUptoRow : OpenClaim := { program := "ytakalehakdffiab", sum := "58d1c280c49fd4a022b00ddffa76412d21bcb3357e7f6407764cce4fc90239ca", func := "loop.example/g01013/laws.FnExactColdOf", spec := "fnExactColdOf", unfollowed := true, recurses := true, apart := false, narrowed := true }
def FnExactColdOfUptoSaid : Prop := fnExactColdOfUptoRow.holds Try.pinned (OpenSpec.upto fnExactColdOfSpec)

/-- 'laws.FnExactSnowAt', WHERE WHAT IT READS IS OF BULK AT MOST 1048576: true; the input reads as it did. -/
def fnExactSnowAtUptoRow : OpenClaim := { program := "ytakalehakdffiab", sum := "58d1c280c49fd4a022b00ddffa76412d21bcb3357e7f6407764cce4fc90239ca", func := "loop.example/g01013/laws.FnExactSnowAt", spec := "fnExactSnowAt", unfollowed := true, recurses := true, apart := false, narrowed := true }
def FnExactSnowAtUptoSaid : Prop := fnExactSnowAtUptoRow.holds Try.pinned (OpenSpec.upto fnExactSnowAtSpec)

/-- 'laws.FnExactNewSnow', WHERE WHAT IT READS IS OF BULK AT MOST 1048576: true; the input reads as it did. -/
def fnExactNewSnowUptoRow : OpenClaim := { program := "ytakalehakdffiab", sum := "58d1c280c49fd4a022b00ddffa76412d21bcb3357e7f6407764cce4fc90239ca", func := "loop.example/g01013/laws.FnExactNewSnow", spec := "fnExactNewSnow", unfollowed := true, recurses := true, apart := false, narrowed := true }
def FnExactNewSnowUptoSaid : Prop := fnExactNewSnowUptoRow.holds Try.pinned (OpenSpec.upto fnExactNewSnowSpec)

/-- 'laws.FnExactMissingHours', WHERE WHAT IT READS IS OF BULK AT MOST 1048576: true; the input reads as it did. -/
def fnExactMissingHoursUptoRow : OpenClaim := { program := "ytakalehakdffiab", sum := "58d1c280c49fd4a022b00ddffa76412d21bcb3357e7f6407764cce4fc90239ca", func := "loop.example/g01013/laws.FnExactMissingHours", spec := "fnExactMissingHours", unfollowed := true, recurses := true, apart := false, narrowed := true }
def FnExactMissingHoursUptoSaid : Prop := fnExactMissingHoursUptoRow.holds Try.pinned (OpenSpec.upto fnExactMissingHoursSpec)

/-- 'laws.FnExactOddObserved', WHERE WHAT IT READS IS OF BULK AT MOST 1048576: true; the input reads as it did. -/
def fnExactOddObservedUptoRow : OpenClaim := { program := "ytakalehakdffiab", sum := "58d1c280c49fd4a022b00ddffa76412d21bcb3357e7f6407764cce4fc90239ca", func := "loop.example/g01013/laws.FnExactOddObserved", spec := "fnExactOddObserved", unfollowed := true, recurses := true, apart := false, narrowed := true }
def FnExactOddObservedUptoSaid : Prop := fnExactOddObservedUptoRow.holds Try.pinned (OpenSpec.upto fnExactOddObservedSpec)

/-- 'laws.FnExactWithoutOdd', WHERE WHAT IT READS IS OF BULK AT MOST 1048576: true; the input reads as it did. -/
def fnExactWithoutOddUptoRow : OpenClaim := { program := "ytakalehakdffiab", sum := "58d1c280c49fd4a022b00ddffa76412d21bcb3357e7f6407764cce4fc90239ca", func := "loop.example/g01013/laws.FnExactWithoutOdd", spec := "fnExactWithoutOdd", unfollowed := true, recurses := true, apart := false, narrowed := true }
def FnExactWithoutOddUptoSaid : Prop := fnExactWithoutOddUptoRow.holds Try.pinned (OpenSpec.upto fnExactWithoutOddSpec)

/-- 'laws.FnExactWindHours', WHERE WHAT IT READS IS OF BULK AT MOST 1048576: true; the input reads as it did. -/
def fnExactWindHoursUptoRow : OpenClaim := { program := "ytakalehakdffiab", sum := "58d1c280c49fd4a022b00ddffa76412d21bcb3357e7f6407764cce4fc90239ca", func := "loop.example/g01013/laws.FnExactWindHours", spec := "fnExactWindHours", unfollowed := true, recurses := true, apart := false, narrowed := true }
def FnExactWindHoursUptoSaid : Prop := fnExactWindHoursUptoRow.holds Try.pinned (OpenSpec.upto fnExactWindHoursSpec)

end Rows
end Go.Proofs.Ytakalehakdffiab
