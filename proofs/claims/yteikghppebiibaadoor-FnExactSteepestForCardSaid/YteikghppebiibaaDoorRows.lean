/-
  NARROWER THAN 'FOR EVERY INPUT', by the rows' own cells (each row's printed sentence says how): FnExactStrengthBounds: laid · FnExactIndexBounds: laid · FnExactWeakestLayer: laid · FnExactIsStable: laid · FnExactMoreLoad: laid · FnExactSteepestFor: laid · FnExactSlabOf: laid · FnStability: laid.
  DERIVED. THE GIVEN ROWS OF THIS SEAT. 8 by the template 'for every input the law returns true; each argument reads behind the call as it read before'; 0 by the template 'total and deterministic' (their statements: YteikghppebiibaaDoorTotals.lean).
  GIVEN WITH THE SEED: the statements are not yours to turn. If you find one false, say at which input.
  Laid BY PROGRAM, IN A SANDBOX (cutbox-rows.mjs): the forced cells as the released guide's own fill.sh prints them over the translation afb41d72b30d1f0c… (all of the seat's roots in one cut). By AI agents, Wed Nov 11 2026. No macro, syntax, notation, axiom, sorry.
-/
import Derived.Test.YteikghppebiibaaDoorChecked
import GoSem.Claim
import GoSem.ClaimJoined
import GoSem.ClaimMapViews
import Derived.JoinedTies
import Derived.KernelRfl
namespace Go.Proofs.YteikghppebiibaaDoor
/- THE CELL 'sum', in the pinned program and in every row, IS THE sha256 OF THE DUMP (.gsa) THAT YteikghppebiibaaDoorProg.lean LOADS. Nothing in Lean hashes anything: it is a label: what it is worth is what the hold of that sum in a sandbox is worth. -/
noncomputable def Tryd.pinned : Pinned := { name := "yteikghppebiibaadoor", sum := "afb41d72b30d1f0c51c589786b5ff3256284b0fd1cb37356d36e4f28e0fd7812", checked := Tryd.checked }
namespace Rows
def none {H : Type} : Left H := { results := [], args := [] }

/- WHAT THE LISTED PACKAGE-LEVEL VARIABLES READ AS WHEN THE CALL BEGINS. Each datum BY PROGRAM (the guide's laid-datum.mjs) off the statement by which the dump's own 'gosem.cut.vars' lays the variable. In a bare row this is a premise. The card (YteikghppebiibaaDoorCards.lean) ties it to the program's text. -/
def laid_loop_example_g01013_impl_strengthFactors {H : Type} : DataW H := .agg [.lit (.int .i64 20), .lit (.int .i64 22), .lit (.int .i64 30), .lit (.int .i64 12), .lit (.int .i64 8), .lit (.int .i64 35)]

/-- 'laws.FnExactStrengthBounds': WHATEVER THE INPUT: true; the input reads as it did. -/
def fnExactStrengthBoundsSpec : ChangeSpec := { name := "fnExactStrengthBounds", vars := ["loop.example/g01013/impl.strengthFactors"], fn := fun _ => fun
  | [d1, d2, g1] => { results := [.lit (.bool true)], args := [d1, d2], vars := [g1] }
  | _ => none }
def fnExactStrengthBoundsRow : OpenClaim := { program := "yteikghppebiibaadoor", sum := "afb41d72b30d1f0c51c589786b5ff3256284b0fd1cb37356d36e4f28e0fd7812", func := "loop.example/g01013/laws.FnExactStrengthBounds", spec := "fnExactStrengthBounds", named := ["loop.example/g01013/impl.strengthFactors"], apart := false, laid := [("loop.example/g01013/impl.strengthFactors", laid_loop_example_g01013_impl_strengthFactors)] }
def FnExactStrengthBoundsSaid : Prop := fnExactStrengthBoundsRow.holds Tryd.pinned (OpenSpec.ofChange fnExactStrengthBoundsSpec)

/-- ITS FALSE NEIGHBOUR: 'it returns false'. Refute it at one input. -/
def fnExactStrengthBoundsWrong : ChangeSpec := { name := "fnExactStrengthBounds", vars := ["loop.example/g01013/impl.strengthFactors"], fn := fun _ => fun
  | [d1, d2, g1] => { results := [.lit (.bool false)], args := [d1, d2], vars := [g1] }
  | _ => none }
def FnExactStrengthBoundsWrongFalsely : Prop := fnExactStrengthBoundsRow.holds Tryd.pinned (OpenSpec.ofChange fnExactStrengthBoundsWrong)

/-- 'laws.FnExactIndexBounds': WHATEVER THE INPUT: true; the input reads as it did. -/
def fnExactIndexBoundsSpec : ChangeSpec := { name := "fnExactIndexBounds", vars := ["loop.example/g01013/impl.strengthFactors"], fn := fun _ => fun
  | [d1, d2, d3, d4, d5, g1] => { results := [.lit (.bool true)], args := [d1, d2, d3, d4, d5], vars := [g1] }
  | _ => none }
def fnExactIndexBoundsRow : OpenClaim := { program := "yteikghppebiibaadoor", sum := "afb41d72b30d1f0c51c589786b5ff3256284b0fd1cb37356d36e4f28e0fd7812", func := "loop.example/g01013/laws.FnExactIndexBounds", spec := "fnExactIndexBounds", unfollowed := true, recurses := true, named := ["loop.example/g01013/impl.strengthFactors"], apart := false, laid := [("loop.example/g01013/impl.strengthFactors", laid_loop_example_g01013_impl_strengthFactors)] }
def FnExactIndexBoundsSaid : Prop := fnExactIndexBoundsRow.holds Tryd.pinned (OpenSpec.ofChange fnExactIndexBoundsSpec)

/-- ITS FALSE NEIGHBOUR: 'it returns false'. Refute it at one input. -/
def fnExactIndexBoundsWrong : ChangeSpec := { name := "fnExactIndexBounds", vars := ["loop.example/g01013/impl.strengthFactors"], fn := fun _ => fun
  | [d1, d2, d3, d4, d5, g1] => { results := [.lit (.bool false)], args := [d1, d2, d3, d4, d5], vars := [g1] }
  | _ => none }
def FnExactIndexBoundsWrongFalsely : Prop := fnExactIndexBoundsRow.holds Tryd.pinned (OpenSpec.ofChange fnExactIndexBoundsWrong)

/-- 'laws.FnExactWeakestLayer': WHATEVER THE INPUT: true; the input reads as it did. -/
def fnExactWeakestLayerSpec : ChangeSpec := { name := "fnExactWeakestLayer", vars := ["loop.example/g01013/impl.strengthFactors"], fn := fun _ => fun
  | [d1, d2, d3, d4, g1] => { results := [.lit (.bool true)], args := [d1, d2, d3, d4], vars := [g1] }
  | _ => none }
def fnExactWeakestLayerRow : OpenClaim := { program := "yteikghppebiibaadoor", sum := "afb41d72b30d1f0c51c589786b5ff3256284b0fd1cb37356d36e4f28e0fd7812", func := "loop.example/g01013/laws.FnExactWeakestLayer", spec := "fnExactWeakestLayer", unfollowed := true, recurses := true, named := ["loop.example/g01013/impl.strengthFactors"], apart := false, laid := [("loop.example/g01013/impl.strengthFactors", laid_loop_example_g01013_impl_strengthFactors)] }
def FnExactWeakestLayerSaid : Prop := fnExactWeakestLayerRow.holds Tryd.pinned (OpenSpec.ofChange fnExactWeakestLayerSpec)

/-- ITS FALSE NEIGHBOUR: 'it returns false'. Refute it at one input. -/
def fnExactWeakestLayerWrong : ChangeSpec := { name := "fnExactWeakestLayer", vars := ["loop.example/g01013/impl.strengthFactors"], fn := fun _ => fun
  | [d1, d2, d3, d4, g1] => { results := [.lit (.bool false)], args := [d1, d2, d3, d4], vars := [g1] }
  | _ => none }
def FnExactWeakestLayerWrongFalsely : Prop := fnExactWeakestLayerRow.holds Tryd.pinned (OpenSpec.ofChange fnExactWeakestLayerWrong)

/-- 'laws.FnExactIsStable': WHATEVER THE INPUT: true; the input reads as it did. -/
def fnExactIsStableSpec : ChangeSpec := { name := "fnExactIsStable", vars := ["loop.example/g01013/impl.strengthFactors"], fn := fun _ => fun
  | [d1, d2, d3, d4, d5, g1] => { results := [.lit (.bool true)], args := [d1, d2, d3, d4, d5], vars := [g1] }
  | _ => none }
def fnExactIsStableRow : OpenClaim := { program := "yteikghppebiibaadoor", sum := "afb41d72b30d1f0c51c589786b5ff3256284b0fd1cb37356d36e4f28e0fd7812", func := "loop.example/g01013/laws.FnExactIsStable", spec := "fnExactIsStable", unfollowed := true, recurses := true, named := ["loop.example/g01013/impl.strengthFactors"], apart := false, laid := [("loop.example/g01013/impl.strengthFactors", laid_loop_example_g01013_impl_strengthFactors)] }
def FnExactIsStableSaid : Prop := fnExactIsStableRow.holds Tryd.pinned (OpenSpec.ofChange fnExactIsStableSpec)

/-- ITS FALSE NEIGHBOUR: 'it returns false'. Refute it at one input. -/
def fnExactIsStableWrong : ChangeSpec := { name := "fnExactIsStable", vars := ["loop.example/g01013/impl.strengthFactors"], fn := fun _ => fun
  | [d1, d2, d3, d4, d5, g1] => { results := [.lit (.bool false)], args := [d1, d2, d3, d4, d5], vars := [g1] }
  | _ => none }
def FnExactIsStableWrongFalsely : Prop := fnExactIsStableRow.holds Tryd.pinned (OpenSpec.ofChange fnExactIsStableWrong)

/-- 'laws.FnExactMoreLoad': WHATEVER THE INPUT: true; the input reads as it did. -/
def fnExactMoreLoadSpec : ChangeSpec := { name := "fnExactMoreLoad", vars := ["loop.example/g01013/impl.strengthFactors"], fn := fun _ => fun
  | [d1, d2, d3, d4, d5, g1] => { results := [.lit (.bool true)], args := [d1, d2, d3, d4, d5], vars := [g1] }
  | _ => none }
def fnExactMoreLoadRow : OpenClaim := { program := "yteikghppebiibaadoor", sum := "afb41d72b30d1f0c51c589786b5ff3256284b0fd1cb37356d36e4f28e0fd7812", func := "loop.example/g01013/laws.FnExactMoreLoad", spec := "fnExactMoreLoad", unfollowed := true, recurses := true, named := ["loop.example/g01013/impl.strengthFactors"], apart := false, laid := [("loop.example/g01013/impl.strengthFactors", laid_loop_example_g01013_impl_strengthFactors)] }
def FnExactMoreLoadSaid : Prop := fnExactMoreLoadRow.holds Tryd.pinned (OpenSpec.ofChange fnExactMoreLoadSpec)

/-- ITS FALSE NEIGHBOUR: 'it returns false'. Refute it at one input. -/
def fnExactMoreLoadWrong : ChangeSpec := { name := "fnExactMoreLoad", vars := ["loop.example/g01013/impl.strengthFactors"], fn := fun _ => fun
  | [d1, d2, d3, d4, d5, g1] => { results := [.lit (.bool false)], args := [d1, d2, d3, d4, d5], vars := [g1] }
  | _ => none }
def FnExactMoreLoadWrongFalsely : Prop := fnExactMoreLoadRow.holds Tryd.pinned (OpenSpec.ofChange fnExactMoreLoadWrong)

/-- 'laws.FnExactSteepestFor': WHATEVER THE INPUT: true; the input reads as it did. -/
def fnExactSteepestForSpec : ChangeSpec := { name := "fnExactSteepestFor", vars := ["loop.example/g01013/impl.strengthFactors"], fn := fun _ => fun
  | [d1, d2, d3, d4, g1] => { results := [.lit (.bool true)], args := [d1, d2, d3, d4], vars := [g1] }
  | _ => none }
def fnExactSteepestForRow : OpenClaim := { program := "yteikghppebiibaadoor", sum := "afb41d72b30d1f0c51c589786b5ff3256284b0fd1cb37356d36e4f28e0fd7812", func := "loop.example/g01013/laws.FnExactSteepestFor", spec := "fnExactSteepestFor", unfollowed := true, recurses := true, named := ["loop.example/g01013/impl.strengthFactors"], apart := false, laid := [("loop.example/g01013/impl.strengthFactors", laid_loop_example_g01013_impl_strengthFactors)] }
def FnExactSteepestForSaid : Prop := fnExactSteepestForRow.holds Tryd.pinned (OpenSpec.ofChange fnExactSteepestForSpec)

/-- ITS FALSE NEIGHBOUR: 'it returns false'. Refute it at one input. -/
def fnExactSteepestForWrong : ChangeSpec := { name := "fnExactSteepestFor", vars := ["loop.example/g01013/impl.strengthFactors"], fn := fun _ => fun
  | [d1, d2, d3, d4, g1] => { results := [.lit (.bool false)], args := [d1, d2, d3, d4], vars := [g1] }
  | _ => none }
def FnExactSteepestForWrongFalsely : Prop := fnExactSteepestForRow.holds Tryd.pinned (OpenSpec.ofChange fnExactSteepestForWrong)

/-- 'laws.FnExactSlabOf': WHATEVER THE INPUT: true; the input reads as it did. -/
def fnExactSlabOfSpec : ChangeSpec := { name := "fnExactSlabOf", vars := ["loop.example/g01013/impl.strengthFactors"], fn := fun _ => fun
  | [d1, d2, d3, d4, g1] => { results := [.lit (.bool true)], args := [d1, d2, d3, d4], vars := [g1] }
  | _ => none }
def fnExactSlabOfRow : OpenClaim := { program := "yteikghppebiibaadoor", sum := "afb41d72b30d1f0c51c589786b5ff3256284b0fd1cb37356d36e4f28e0fd7812", func := "loop.example/g01013/laws.FnExactSlabOf", spec := "fnExactSlabOf", unfollowed := true, recurses := true, named := ["loop.example/g01013/impl.strengthFactors"], apart := false, laid := [("loop.example/g01013/impl.strengthFactors", laid_loop_example_g01013_impl_strengthFactors)] }
def FnExactSlabOfSaid : Prop := fnExactSlabOfRow.holds Tryd.pinned (OpenSpec.ofChange fnExactSlabOfSpec)

/-- ITS FALSE NEIGHBOUR: 'it returns false'. Refute it at one input. -/
def fnExactSlabOfWrong : ChangeSpec := { name := "fnExactSlabOf", vars := ["loop.example/g01013/impl.strengthFactors"], fn := fun _ => fun
  | [d1, d2, d3, d4, g1] => { results := [.lit (.bool false)], args := [d1, d2, d3, d4], vars := [g1] }
  | _ => none }
def FnExactSlabOfWrongFalsely : Prop := fnExactSlabOfRow.holds Tryd.pinned (OpenSpec.ofChange fnExactSlabOfWrong)

/-- 'laws.FnStability': WHATEVER THE INPUT: true; the input reads as it did. -/
def fnStabilitySpec : ChangeSpec := { name := "fnStability", vars := ["loop.example/g01013/impl.strengthFactors"], fn := fun _ => fun
  | [d1, d2, g1] => { results := [.lit (.bool true)], args := [d1, d2], vars := [g1] }
  | _ => none }
def fnStabilityRow : OpenClaim := { program := "yteikghppebiibaadoor", sum := "afb41d72b30d1f0c51c589786b5ff3256284b0fd1cb37356d36e4f28e0fd7812", func := "loop.example/g01013/laws.FnStability", spec := "fnStability", unfollowed := true, recurses := true, named := ["loop.example/g01013/impl.strengthFactors"], apart := false, laid := [("loop.example/g01013/impl.strengthFactors", laid_loop_example_g01013_impl_strengthFactors)] }
def FnStabilitySaid : Prop := fnStabilityRow.holds Tryd.pinned (OpenSpec.ofChange fnStabilitySpec)

/-- ITS FALSE NEIGHBOUR: 'it returns false'. Refute it at one input. -/
def fnStabilityWrong : ChangeSpec := { name := "fnStability", vars := ["loop.example/g01013/impl.strengthFactors"], fn := fun _ => fun
  | [d1, d2, g1] => { results := [.lit (.bool false)], args := [d1, d2], vars := [g1] }
  | _ => none }
def FnStabilityWrongFalsely : Prop := fnStabilityRow.holds Tryd.pinned (OpenSpec.ofChange fnStabilityWrong)

/- THE SECOND FORM. 'bulk': how many values and letters a reading holds, each counted each time it is reached (what is shared counts as often as it is met; a slice's spare places count too). A statement '..UptoSaid' is the law's where the arguments, and the package variables that the reading takes, are together of bulk at most 1048576: NARROWER than '..Said'. Prove '..Said' where nothing that the law and all that it calls make is longer than what came in: it says more and counts as full. Else prove '..UptoSaid'. A law counts once. -/
mutual
def uptoBulk {H : Type} : DataW H → Nat
  | .lit (.string bytes) => bytes.length + 1
  | .lit _ => 1
  | .nil => 1
  | .ptr d => uptoBulk d + 1
  | .slice elems spare => uptoBulkAll elems + uptoBulkAll spare + 1
  | .agg parts => uptoBulkAll parts + 1
  | .iface _ d => uptoBulk d + 1
  | .map entries => uptoBulkEntries entries + 1
  | .held _ => 1
def uptoBulkAll {H : Type} : List (DataW H) → Nat
  | [] => 0
  | d :: r => uptoBulk d + uptoBulkAll r
def uptoBulkEntries {H : Type} : List (Lit × DataW H) → Nat
  | [] => 0
  | x :: r => uptoBulkEntry x + uptoBulkEntries r
def uptoBulkEntry {H : Type} : Lit × DataW H → Nat
  | (.string bytes, d) => bytes.length + uptoBulk d + 1
  | (_, d) => uptoBulk d + 1
 end
def uptoSmall : (H : Type) → List (DataW H) → Bool := fun _ ds => decide (uptoBulkAll ds ≤ 1048576)
def OpenSpec.upto (s : _root_.Go.ChangeSpec) : _root_.Go.OpenSpec := { _root_.Go.OpenSpec.ofChange s with cond := some uptoSmall }

/-- 'laws.FnExactStrengthBounds', WHERE WHAT IT READS IS OF BULK AT MOST 1048576: true; the input reads as it did. -/
def fnExactStrengthBoundsUptoRow : OpenClaim := { program := "yteikghppebiibaadoor", sum := "afb41d72b30d1f0c51c589786b5ff3256284b0fd1cb37356d36e4f28e0fd7812", func := "loop.example/g01013/laws.FnExactStrengthBounds", spec := "fnExactStrengthBounds", named := ["loop.example/g01013/impl.strengthFactors"], apart := false, laid := [("loop.example/g01013/impl.strengthFactors", laid_loop_example_g01013_impl_strengthFactors)], narrowed := true }
def FnExactStrengthBoundsUptoSaid : Prop := fnExactStrengthBoundsUptoRow.holds Tryd.pinned (OpenSpec.upto fnExactStrengthBoundsSpec)

/-- 'laws.FnExactIndexBounds', WHERE WHAT IT READS IS OF BULK AT MOST 1048576: true; the input reads as it did. -/
def fnExactIndexBoundsUptoRow : OpenClaim := { program := "yteikghppebiibaadoor", sum := "afb41d72b30d1f0c51c589786b5ff3256284b0fd1cb37356d36e4f28e0fd7812", func := "loop.example/g01013/laws.FnExactIndexBounds", spec := "fnExactIndexBounds", unfollowed := true, recurses := true, named := ["loop.example/g01013/impl.strengthFactors"], apart := false, laid := [("loop.example/g01013/impl.strengthFactors", laid_loop_example_g01013_impl_strengthFactors)], narrowed := true }
def FnExactIndexBoundsUptoSaid : Prop := fnExactIndexBoundsUptoRow.holds Tryd.pinned (OpenSpec.upto fnExactIndexBoundsSpec)

/-- 'laws.FnExactWeakestLayer', WHERE WHAT IT READS IS OF BULK AT MOST 1048576: true; the input reads as it did. -/
def fnExactWeakestLayerUptoRow : OpenClaim := { program := "yteikghppebiibaadoor", sum := "afb41d72b30d1f0c51c589786b5ff3256284b0fd1cb37356d36e4f28e0fd7812", func := "loop.example/g01013/laws.FnExactWeakestLayer", spec := "fnExactWeakestLayer", unfollowed := true, recurses := true, named := ["loop.example/g01013/impl.strengthFactors"], apart := false, laid := [("loop.example/g01013/impl.strengthFactors", laid_loop_example_g01013_impl_strengthFactors)], narrowed := true }
def FnExactWeakestLayerUptoSaid : Prop := fnExactWeakestLayerUptoRow.holds Tryd.pinned (OpenSpec.upto fnExactWeakestLayerSpec)

/-- 'laws.FnExactIsStable', WHERE WHAT IT READS IS OF BULK AT MOST 1048576: true; the input reads as it did. -/
def fnExactIsStableUptoRow : OpenClaim := { program := "yteikghppebiibaadoor", sum := "afb41d72b30d1f0c51c589786b5ff3256284b0fd1cb37356d36e4f28e0fd7812", func := "loop.example/g01013/laws.FnExactIsStable", spec := "fnExactIsStable", unfollowed := true, recurses := true, named := ["loop.example/g01013/impl.strengthFactors"], apart := false, laid := [("loop.example/g01013/impl.strengthFactors", laid_loop_example_g01013_impl_strengthFactors)], narrowed := true }
def FnExactIsStableUptoSaid : Prop := fnExactIsStableUptoRow.holds Tryd.pinned (OpenSpec.upto fnExactIsStableSpec)

/-- 'laws.FnExactMoreLoad', WHERE WHAT IT READS IS OF BULK AT MOST 1048576: true; the input reads as it did. -/
def fnExactMoreLoadUptoRow : OpenClaim := { program := "yteikghppebiibaadoor", sum := "afb41d72b30d1f0c51c589786b5ff3256284b0fd1cb37356d36e4f28e0fd7812", func := "loop.example/g01013/laws.FnExactMoreLoad", spec := "fnExactMoreLoad", unfollowed := true, recurses := true, named := ["loop.example/g01013/impl.strengthFactors"], apart := false, laid := [("loop.example/g01013/impl.strengthFactors", laid_loop_example_g01013_impl_strengthFactors)], narrowed := true }
def FnExactMoreLoadUptoSaid : Prop := fnExactMoreLoadUptoRow.holds Tryd.pinned (OpenSpec.upto fnExactMoreLoadSpec)

/-- 'laws.FnExactSteepestFor', WHERE WHAT IT READS IS OF BULK AT MOST 1048576: true; the input reads as it did. -/
def fnExactSteepestForUptoRow : OpenClaim := { program := "yteikghppebiibaadoor", sum := "afb41d72b30d1f0c51c589786b5ff3256284b0fd1cb37356d36e4f28e0fd7812", func := "loop.example/g01013/laws.FnExactSteepestFor", spec := "fnExactSteepestFor", unfollowed := true, recurses := true, named := ["loop.example/g01013/impl.strengthFactors"], apart := false, laid := [("loop.example/g01013/impl.strengthFactors", laid_loop_example_g01013_impl_strengthFactors)], narrowed := true }
def FnExactSteepestForUptoSaid : Prop := fnExactSteepestForUptoRow.holds Tryd.pinned (OpenSpec.upto fnExactSteepestForSpec)

/-- 'laws.FnExactSlabOf', WHERE WHAT IT READS IS OF BULK AT MOST 1048576: true; the input reads as it did. -/
def fnExactSlabOfUptoRow : OpenClaim := { program := "yteikghppebiibaadoor", sum := "afb41d72b30d1f0c51c589786b5ff3256284b0fd1cb37356d36e4f28e0fd7812", func := "loop.example/g01013/laws.FnExactSlabOf", spec := "fnExactSlabOf", unfollowed := true, recurses := true, named := ["loop.example/g01013/impl.strengthFactors"], apart := false, laid := [("loop.example/g01013/impl.strengthFactors", laid_loop_example_g01013_impl_strengthFactors)], narrowed := true }
def FnExactSlabOfUptoSaid : Prop := fnExactSlabOfUptoRow.holds Tryd.pinned (OpenSpec.upto fnExactSlabOfSpec)

/-- 'laws.FnStability', WHERE WHAT IT READS IS OF BULK AT MOST 1048576: true; the input reads as it did. -/
def fnStabilityUptoRow : OpenClaim := { program := "yteikghppebiibaadoor", sum := "afb41d72b30d1f0c51c589786b5ff3256284b0fd1cb37356d36e4f28e0fd7812", func := "loop.example/g01013/laws.FnStability", spec := "fnStability", unfollowed := true, recurses := true, named := ["loop.example/g01013/impl.strengthFactors"], apart := false, laid := [("loop.example/g01013/impl.strengthFactors", laid_loop_example_g01013_impl_strengthFactors)], narrowed := true }
def FnStabilityUptoSaid : Prop := fnStabilityUptoRow.holds Tryd.pinned (OpenSpec.upto fnStabilitySpec)

end Rows
end Go.Proofs.YteikghppebiibaaDoor
