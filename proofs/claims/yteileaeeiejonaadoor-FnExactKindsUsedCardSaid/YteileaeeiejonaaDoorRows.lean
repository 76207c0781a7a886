/-
  NARROWER THAN 'FOR EVERY INPUT', by the rows' own cells (each row's printed sentence says how): FnExactTestName: laid · FnExactValidTests: laid · FnExactClassOf: laid · FnExactWorstClass: laid · FnExactMeanClass: laid · FnExactRecentTests: laid · FnExactAgreeOf: laid · FnExactWeakDepth: laid · FnExactKindsUsed: laid · FnExactContradictTests: laid.
  DERIVED. THE GIVEN ROWS OF THIS SEAT. 10 by the template 'for every input the law returns true; each argument reads behind the call as it read before'; 0 by the template 'total and deterministic' (their statements: YteileaeeiejonaaDoorTotals.lean).
  GIVEN WITH THE SEED: the statements are not yours to turn. If you find one false, say at which input.
  Laid BY PROGRAM, IN A SANDBOX (cutbox-rows.mjs): the forced cells as the released guide's own fill.sh prints them over the translation e0fc289c4a99119e… (all of the seat's roots in one cut). By AI agents, Wed Nov 11 2026. No macro, syntax, notation, axiom, sorry.
-/
import Derived.Test.YteileaeeiejonaaDoorChecked
import GoSem.Claim
import GoSem.ClaimJoined
import GoSem.ClaimMapViews
import Derived.JoinedTies
import Derived.KernelRfl
namespace Go.Proofs.YteileaeeiejonaaDoor
/- THE CELL 'sum', in the pinned program and in every row, IS THE sha256 OF THE DUMP (.gsa) THAT YteileaeeiejonaaDoorProg.lean LOADS. Nothing in Lean hashes anything: it is a label: what it is worth is what the hold of that sum in a sandbox is worth. -/
noncomputable def Tryd.pinned : Pinned := { name := "yteileaeeiejonaadoor", sum := "e0fc289c4a99119eddb85e8fbff90694d695d82aabeaf053bb9ab4d1eb5fe383", checked := Tryd.checked }
namespace Rows
def none {H : Type} : Left H := { results := [], args := [] }

/- WHAT THE LISTED PACKAGE-LEVEL VARIABLES READ AS WHEN THE CALL BEGINS. Each datum BY PROGRAM (the guide's laid-datum.mjs) off the statement by which the dump's own 'gosem.cut.vars' lays the variable. In a bare row this is a premise. The card (YteileaeeiejonaaDoorCards.lean) ties it to the program's text. -/
def laid_loop_example_g01013_impl_testRules {H : Type} : DataW H := .agg [.agg [.lit (.string [99, 111, 108, 117, 109, 110]), .lit (.int .i64 0), .agg [.lit (.int .i64 10), .lit (.int .i64 20), .lit (.int .i64 30), .lit (.int .i64 31)]], .agg [.lit (.string [101, 120, 116, 101, 110, 100, 101, 100]), .lit (.int .i64 0), .agg [.lit (.int .i64 13), .lit (.int .i64 22), .lit (.int .i64 30), .lit (.int .i64 31)]], .agg [.lit (.string [98, 108, 111, 99, 107]), .lit (.int .i64 1), .agg [.lit (.int .i64 2), .lit (.int .i64 4), .lit (.int .i64 6), .lit (.int .i64 7)]]]

/-- 'laws.FnExactTestName': WHATEVER THE INPUT: true; the input reads as it did. -/
def fnExactTestNameSpec : ChangeSpec := { name := "fnExactTestName", vars := ["loop.example/g01013/impl.testRules"], fn := fun _ => fun
  | [d, g1] => { results := [.lit (.bool true)], args := [d], vars := [g1] }
  | _ => none }
def fnExactTestNameRow : OpenClaim := { program := "yteileaeeiejonaadoor", sum := "e0fc289c4a99119eddb85e8fbff90694d695d82aabeaf053bb9ab4d1eb5fe383", func := "loop.example/g01013/laws.FnExactTestName", spec := "fnExactTestName", named := ["loop.example/g01013/impl.testRules"], apart := false, laid := [("loop.example/g01013/impl.testRules", laid_loop_example_g01013_impl_testRules)] }
def FnExactTestNameSaid : Prop := fnExactTestNameRow.holds Tryd.pinned (OpenSpec.ofChange fnExactTestNameSpec)

/-- ITS FALSE NEIGHBOUR: 'it returns false'. Refute it at one input. -/
def fnExactTestNameWrong : ChangeSpec := { name := "fnExactTestName", vars := ["loop.example/g01013/impl.testRules"], fn := fun _ => fun
  | [d, g1] => { results := [.lit (.bool false)], args := [d], vars := [g1] }
  | _ => none }
def FnExactTestNameWrongFalsely : Prop := fnExactTestNameRow.holds Tryd.pinned (OpenSpec.ofChange fnExactTestNameWrong)

/-- 'laws.FnExactValidTests': WHATEVER THE INPUT: true; the input reads as it did. -/
def fnExactValidTestsSpec : ChangeSpec := { name := "fnExactValidTests", vars := ["loop.example/g01013/impl.testRules"], fn := fun _ => fun
  | [d, g1] => { results := [.lit (.bool true)], args := [d], vars := [g1] }
  | _ => none }
def fnExactValidTestsRow : OpenClaim := { program := "yteileaeeiejonaadoor", sum := "e0fc289c4a99119eddb85e8fbff90694d695d82aabeaf053bb9ab4d1eb5fe383", func := "loop.example/g01013/laws.FnExactValidTests", spec := "fnExactValidTests", unfollowed := true, recurses := true, named := ["loop.example/g01013/impl.testRules"], apart := false, laid := [("loop.example/g01013/impl.testRules", laid_loop_example_g01013_impl_testRules)] }
def FnExactValidTestsSaid : Prop := fnExactValidTestsRow.holds Tryd.pinned (OpenSpec.ofChange fnExactValidTestsSpec)

/-- ITS FALSE NEIGHBOUR: 'it returns false'. Refute it at one input. -/
def fnExactValidTestsWrong : ChangeSpec := { name := "fnExactValidTests", vars := ["loop.example/g01013/impl.testRules"], fn := fun _ => fun
  | [d, g1] => { results := [.lit (.bool false)], args := [d], vars := [g1] }
  | _ => none }
def FnExactValidTestsWrongFalsely : Prop := fnExactValidTestsRow.holds Tryd.pinned (OpenSpec.ofChange fnExactValidTestsWrong)

/-- 'laws.FnExactClassOf': WHATEVER THE INPUT: true; the input reads as it did. -/
def fnExactClassOfSpec : ChangeSpec := { name := "fnExactClassOf", vars := ["loop.example/g01013/impl.testRules"], fn := fun _ => fun
  | [d, g1] => { results := [.lit (.bool true)], args := [d], vars := [g1] }
  | _ => none }
def fnExactClassOfRow : OpenClaim := { program := "yteileaeeiejonaadoor", sum := "e0fc289c4a99119eddb85e8fbff90694d695d82aabeaf053bb9ab4d1eb5fe383", func := "loop.example/g01013/laws.FnExactClassOf", spec := "fnExactClassOf", named := ["loop.example/g01013/impl.testRules"], apart := false, laid := [("loop.example/g01013/impl.testRules", laid_loop_example_g01013_impl_testRules)] }
def FnExactClassOfSaid : Prop := fnExactClassOfRow.holds Tryd.pinned (OpenSpec.ofChange fnExactClassOfSpec)

/-- ITS FALSE NEIGHBOUR: 'it returns false'. Refute it at one input. -/
def fnExactClassOfWrong : ChangeSpec := { name := "fnExactClassOf", vars := ["loop.example/g01013/impl.testRules"], fn := fun _ => fun
  | [d, g1] => { results := [.lit (.bool false)], args := [d], vars := [g1] }
  | _ => none }
def FnExactClassOfWrongFalsely : Prop := fnExactClassOfRow.holds Tryd.pinned (OpenSpec.ofChange fnExactClassOfWrong)

/-- 'laws.FnExactWorstClass': WHATEVER THE INPUT: true; the input reads as it did. -/
def fnExactWorstClassSpec : ChangeSpec := { name := "fnExactWorstClass", vars := ["loop.example/g01013/impl.testRules"], fn := fun _ => fun
  | [d, g1] => { results := [.lit (.bool true)], args := [d], vars := [g1] }
  | _ => none }
def fnExactWorstClassRow : OpenClaim := { program := "yteileaeeiejonaadoor", sum := "e0fc289c4a99119eddb85e8fbff90694d695d82aabeaf053bb9ab4d1eb5fe383", func := "loop.example/g01013/laws.FnExactWorstClass", spec := "fnExactWorstClass", unfollowed := true, recurses := true, named := ["loop.example/g01013/impl.testRules"], apart := false, laid := [("loop.example/g01013/impl.testRules", laid_loop_example_g01013_impl_testRules)] }
def FnExactWorstClassSaid : Prop := fnExactWorstClassRow.holds Tryd.pinned (OpenSpec.ofChange fnExactWorstClassSpec)

/-- ITS FALSE NEIGHBOUR: 'it returns false'. Refute it at one input. -/
def fnExactWorstClassWrong : ChangeSpec := { name := "fnExactWorstClass", vars := ["loop.example/g01013/impl.testRules"], fn := fun _ => fun
  | [d, g1] => { results := [.lit (.bool false)], args := [d], vars := [g1] }
  | _ => none }
def FnExactWorstClassWrongFalsely : Prop := fnExactWorstClassRow.holds Tryd.pinned (OpenSpec.ofChange fnExactWorstClassWrong)

/-- 'laws.FnExactMeanClass': WHATEVER THE INPUT: true; the input reads as it did. -/
def fnExactMeanClassSpec : ChangeSpec := { name := "fnExactMeanClass", vars := ["loop.example/g01013/impl.testRules"], fn := fun _ => fun
  | [d1, d2, d3, g1] => { results := [.lit (.bool true)], args := [d1, d2, d3], vars := [g1] }
  | _ => none }
def fnExactMeanClassRow : OpenClaim := { program := "yteileaeeiejonaadoor", sum := "e0fc289c4a99119eddb85e8fbff90694d695d82aabeaf053bb9ab4d1eb5fe383", func := "loop.example/g01013/laws.FnExactMeanClass", spec := "fnExactMeanClass", unfollowed := true, recurses := true, named := ["loop.example/g01013/impl.testRules"], apart := false, laid := [("loop.example/g01013/impl.testRules", laid_loop_example_g01013_impl_testRules)] }
def FnExactMeanClassSaid : Prop := fnExactMeanClassRow.holds Tryd.pinned (OpenSpec.ofChange fnExactMeanClassSpec)

/-- ITS FALSE NEIGHBOUR: 'it returns false'. Refute it at one input. -/
def fnExactMeanClassWrong : ChangeSpec := { name := "fnExactMeanClass", vars := ["loop.example/g01013/impl.testRules"], fn := fun _ => fun
  | [d1, d2, d3, g1] => { results := [.lit (.bool false)], args := [d1, d2, d3], vars := [g1] }
  | _ => none }
def FnExactMeanClassWrongFalsely : Prop := fnExactMeanClassRow.holds Tryd.pinned (OpenSpec.ofChange fnExactMeanClassWrong)

/-- 'laws.FnExactRecentTests': WHATEVER THE INPUT: true; the input reads as it did. -/
def fnExactRecentTestsSpec : ChangeSpec := { name := "fnExactRecentTests", vars := ["loop.example/g01013/impl.testRules"], fn := fun _ => fun
  | [d1, d2, d3, g1] => { results := [.lit (.bool true)], args := [d1, d2, d3], vars := [g1] }
  | _ => none }
def fnExactRecentTestsRow : OpenClaim := { program := "yteileaeeiejonaadoor", sum := "e0fc289c4a99119eddb85e8fbff90694d695d82aabeaf053bb9ab4d1eb5fe383", func := "loop.example/g01013/laws.FnExactRecentTests", spec := "fnExactRecentTests", unfollowed := true, recurses := true, named := ["loop.example/g01013/impl.testRules"], apart := false, laid := [("loop.example/g01013/impl.testRules", laid_loop_example_g01013_impl_testRules)] }
def FnExactRecentTestsSaid : Prop := fnExactRecentTestsRow.holds Tryd.pinned (OpenSpec.ofChange fnExactRecentTestsSpec)

/-- ITS FALSE NEIGHBOUR: 'it returns false'. Refute it at one input. -/
def fnExactRecentTestsWrong : ChangeSpec := { name := "fnExactRecentTests", vars := ["loop.example/g01013/impl.testRules"], fn := fun _ => fun
  | [d1, d2, d3, g1] => { results := [.lit (.bool false)], args := [d1, d2, d3], vars := [g1] }
  | _ => none }
def FnExactRecentTestsWrongFalsely : Prop := fnExactRecentTestsRow.holds Tryd.pinned (OpenSpec.ofChange fnExactRecentTestsWrong)

/-- 'laws.FnExactAgreeOf': WHATEVER THE INPUT: true; the input reads as it did. -/
def fnExactAgreeOfSpec : ChangeSpec := { name := "fnExactAgreeOf", vars := ["loop.example/g01013/impl.testRules"], fn := fun _ => fun
  | [d, g1] => { results := [.lit (.bool true)], args := [d], vars := [g1] }
  | _ => none }
def fnExactAgreeOfRow : OpenClaim := { program := "yteileaeeiejonaadoor", sum := "e0fc289c4a99119eddb85e8fbff90694d695d82aabeaf053bb9ab4d1eb5fe383", func := "loop.example/g01013/laws.FnExactAgreeOf", spec := "fnExactAgreeOf", unfollowed := true, recurses := true, named := ["loop.example/g01013/impl.testRules"], apart := false, laid := [("loop.example/g01013/impl.testRules", laid_loop_example_g01013_impl_testRules)] }
def FnExactAgreeOfSaid : Prop := fnExactAgreeOfRow.holds Tryd.pinned (OpenSpec.ofChange fnExactAgreeOfSpec)

/-- ITS FALSE NEIGHBOUR: 'it returns false'. Refute it at one input. -/
def fnExactAgreeOfWrong : ChangeSpec := { name := "fnExactAgreeOf", vars := ["loop.example/g01013/impl.testRules"], fn := fun _ => fun
  | [d, g1] => { results := [.lit (.bool false)], args := [d], vars := [g1] }
  | _ => none }
def FnExactAgreeOfWrongFalsely : Prop := fnExactAgreeOfRow.holds Tryd.pinned (OpenSpec.ofChange fnExactAgreeOfWrong)

/-- 'laws.FnExactWeakDepth': WHATEVER THE INPUT: true; the input reads as it did. -/
def fnExactWeakDepthSpec : ChangeSpec := { name := "fnExactWeakDepth", vars := ["loop.example/g01013/impl.testRules"], fn := fun _ => fun
  | [d1, d2, g1] => { results := [.lit (.bool true)], args := [d1, d2], vars := [g1] }
  | _ => none }
def fnExactWeakDepthRow : OpenClaim := { program := "yteileaeeiejonaadoor", sum := "e0fc289c4a99119eddb85e8fbff90694d695d82aabeaf053bb9ab4d1eb5fe383", func := "loop.example/g01013/laws.FnExactWeakDepth", spec := "fnExactWeakDepth", unfollowed := true, recurses := true, named := ["loop.example/g01013/impl.testRules"], apart := false, laid := [("loop.example/g01013/impl.testRules", laid_loop_example_g01013_impl_testRules)] }
def FnExactWeakDepthSaid : Prop := fnExactWeakDepthRow.holds Tryd.pinned (OpenSpec.ofChange fnExactWeakDepthSpec)

/-- ITS FALSE NEIGHBOUR: 'it returns false'. Refute it at one input. -/
def fnExactWeakDepthWrong : ChangeSpec := { name := "fnExactWeakDepth", vars := ["loop.example/g01013/impl.testRules"], fn := fun _ => fun
  | [d1, d2, g1] => { results := [.lit (.bool false)], args := [d1, d2], vars := [g1] }
  | _ => none }
def FnExactWeakDepthWrongFalsely : Prop := fnExactWeakDepthRow.holds Tryd.pinned (OpenSpec.ofChange fnExactWeakDepthWrong)

/-- 'laws.FnExactKindsUsed': WHATEVER THE INPUT: true; the input reads as it did. -/
def fnExactKindsUsedSpec : ChangeSpec := { name := "fnExactKindsUsed", vars := ["loop.example/g01013/impl.testRules"], fn := fun _ => fun
  | [d, g1] => { results := [.lit (.bool true)], args := [d], vars := [g1] }
  | _ => none }
def fnExactKindsUsedRow : OpenClaim := { program := "yteileaeeiejonaadoor", sum := "e0fc289c4a99119eddb85e8fbff90694d695d82aabeaf053bb9ab4d1eb5fe383", func := "loop.example/g01013/laws.FnExactKindsUsed", spec := "fnExactKindsUsed", unfollowed := true, recurses := true, named := ["loop.example/g01013/impl.testRules"], apart := false, laid := [("loop.example/g01013/impl.testRules", laid_loop_example_g01013_impl_testRules)] }
def FnExactKindsUsedSaid : Prop := fnExactKindsUsedRow.holds Tryd.pinned (OpenSpec.ofChange fnExactKindsUsedSpec)

/-- ITS FALSE NEIGHBOUR: 'it returns false'. Refute it at one input. -/
def fnExactKindsUsedWrong : ChangeSpec := { name := "fnExactKindsUsed", vars := ["loop.example/g01013/impl.testRules"], fn := fun _ => fun
  | [d, g1] => { results := [.lit (.bool false)], args := [d], vars := [g1] }
  | _ => none }
def FnExactKindsUsedWrongFalsely : Prop := fnExactKindsUsedRow.holds Tryd.pinned (OpenSpec.ofChange fnExactKindsUsedWrong)

/-- 'laws.FnExactContradictTests': WHATEVER THE INPUT: true; the input reads as it did. -/
def fnExactContradictTestsSpec : ChangeSpec := { name := "fnExactContradictTests", vars := ["loop.example/g01013/impl.testRules"], fn := fun _ => fun
  | [d1, d2, g1] => { results := [.lit (.bool true)], args := [d1, d2], vars := [g1] }
  | _ => none }
def fnExactContradictTestsRow : OpenClaim := { program := "yteileaeeiejonaadoor", sum := "e0fc289c4a99119eddb85e8fbff90694d695d82aabeaf053bb9ab4d1eb5fe383", func := "loop.example/g01013/laws.FnExactContradictTests", spec := "fnExactContradictTests", unfollowed := true, recurses := true, named := ["loop.example/g01013/impl.testRules"], apart := false, laid := [("loop.example/g01013/impl.testRules", laid_loop_example_g01013_impl_testRules)] }
def FnExactContradictTestsSaid : Prop := fnExactContradictTestsRow.holds Tryd.pinned (OpenSpec.ofChange fnExactContradictTestsSpec)

/-- ITS FALSE NEIGHBOUR: 'it returns false'. Refute it at one input. -/
def fnExactContradictTestsWrong : ChangeSpec := { name := "fnExactContradictTests", vars := ["loop.example/g01013/impl.testRules"], fn := fun _ => fun
  | [d1, d2, g1] => { results := [.lit (.bool false)], args := [d1, d2], vars := [g1] }
  | _ => none }
def FnExactContradictTestsWrongFalsely : Prop := fnExactContradictTestsRow.holds Tryd.pinned (OpenSpec.ofChange fnExactContradictTestsWrong)

/- THE SECOND FORM. 'bulk': how many values and letters a reading holds, each counted each time it is reached (what is shared counts as often as it is met; a slice's spare places count too). A statement '..UptoSaid' is the law's where the arguments, and the package variables that the reading takes, are together of bulk at most 1048576: NARROWER than '..Said'. Prove '..Said' where nothing that the law and all that it calls make is longer than what came in: it says more and counts as full. Else prove '..UptoSaid'. A law counts once. -/
mutual
def uptoBulk {H : Type} : DataW H → Nat
  | .lit (.string bytes) => bytes.length + 1
  | .lit _ => 1
  | .nil => 1
  | .ptr d => uptoBulk d + 1
  | .slice elems spare => uptoBulkAll elems + uptoBulkAll spare + 1
  | .agg parts => uptoBulkAll parts + 1
  | .iface _ d => uptoBulk d + 1
  | .map entries => uptoBulkEntries entries + 1
  | .held _ => 1
def uptoBulkAll {H : Type} : List (DataW H) → Nat
  | [] => 0
  | d :: r => uptoBulk d + uptoBulkAll r
def uptoBulkEntries {H : Type} : List (Lit × DataW H) → Nat
  | [] => 0
  | x :: r => uptoBulkEntry x + uptoBulkEntries r
def uptoBulkEntry {H : Type} : Lit × DataW H → Nat
  | (.string bytes, d) => bytes.length + uptoBulk d + 1
  | (_, d) => uptoBulk d + 1
 end
def uptoSmall : (H : Type) → List (DataW H) → Bool := fun _ ds => decide (uptoBulkAll ds ≤ 1048576)
def OpenSpec.upto (s : _root_.Go.ChangeSpec) : _root_.Go.OpenSpec := { _root_.Go.OpenSpec.ofChange s with cond := some uptoSmall }

/-- 'laws.FnExactTestName', WHERE WHAT IT READS IS OF BULK AT MOST 1048576: true; the input reads as it did. -/
def fnExactTestNameUptoRow : OpenClaim := { program := "yteileaeeiejonaadoor", sum := "e0fc289c4a99119eddb85e8fbff90694d695d82aabeaf053bb9ab4d1eb5fe383", func := "loop.example/g01013/laws.FnExactTestName", spec := "fnExactTestName", named := ["loop.example/g01013/impl.testRules"], apart := false, laid := [("loop.example/g01013/impl.testRules", laid_loop_example_g01013_impl_testRules)], narrowed := true }
def FnExactTestNameUptoSaid : Prop := fnExactTestNameUptoRow.holds Tryd.pinned (OpenSpec.upto fnExactTestNameSpec)

/-- 'laws.FnExactValidTests', WHERE WHAT IT READS IS OF BULK AT MOST 1048576: true; the input reads as it did. -/
def fnExactValidTestsUptoRow : OpenClaim := { program := "yteileaeeiejonaadoor", sum := "e0fc289c4a99119eddb85e8fbff90694d695d82aabeaf053bb9ab4d1eb5fe383", func := "loop.example/g01013/laws.FnExactValidTests", spec := "fnExactValidTests", unfollowed := true, recurses := true, named := ["loop.example/g01013/impl.testRules"], apart := false, laid := [("loop.example/g01013/impl.testRules", laid_loop_example_g01013_impl_testRules)], narrowed := true }
def FnExactValidTestsUptoSaid : Prop := fnExactValidTestsUptoRow.holds Tryd.pinned (OpenSpec.upto fnExactValidTestsSpec)

/-- 'laws.FnExactClassOf', WHERE WHAT IT READS IS OF BULK AT MOST 1048576: true; the input reads as it did. -/
def fnExactClassOfUptoRow : OpenClaim := { program := "yteileaeeiejonaadoor", sum := "e0fc289c4a99119eddb85e8fbff90694d695d82aabeaf053bb9ab4d1eb5fe383", func := "loop.example/g01013/laws.FnExactClassOf", spec := "fnExactClassOf", named := ["loop.example/g01013/impl.testRules"], apart := false, laid := [("loop.example/g01013/impl.testRules", laid_loop_example_g01013_impl_testRules)], narrowed := true }
def FnExactClassOfUptoSaid : Prop := fnExactClassOfUptoRow.holds Tryd.pinned (OpenSpec.upto fnExactClassOfSpec)

/-- 'laws.FnExactWorstClass', WHERE WHAT IT READS IS OF BULK AT MOST 1048576: true; the input reads as it did. -/
def fnExactWorstClassUptoRow : OpenClaim := { program := "yteileaeeiejonaadoor", sum := "e0fc289c4a99119eddb85e8fbff90694d695d82aabeaf053bb9ab4d1eb5fe383", func := "loop.example/g01013/laws.FnExactWorstClass", spec := "fnExactWorstClass", unfollowed := true, recurses := true, named := ["loop.example/g01013/impl.testRules"], apart := false, laid := [("loop.example/g01013/impl.testRules", laid_loop_example_g01013_impl_testRules)], narrowed := true }
def FnExactWorstClassUptoSaid : Prop := fnExactWorstClassUptoRow.holds Tryd.pinned (OpenSpec.upto fnExactWorstClassSpec)

/-- 'laws.FnExactMeanClass', WHERE WHAT IT READS IS OF BULK AT MOST 1048576: true; the input reads as it did. -/
def fnExactMeanClassUptoRow : OpenClaim := { program := "yteileaeeiejonaadoor", sum := "e0fc289c4a99119eddb85e8fbff90694d695d82aabeaf053bb9ab4d1eb5fe383", func := "loop.example/g01013/laws.FnExactMeanClass", spec := "fnExactMeanClass", unfollowed := true, recurses := true, named := ["loop.example/g01013/impl.testRules"], apart := false, laid := [("loop.example/g01013/impl.testRules", laid_loop_example_g01013_impl_testRules)], narrowed := true }
def FnExactMeanClassUptoSaid : Prop := fnExactMeanClassUptoRow.holds Tryd.pinned (OpenSpec.upto fnExactMeanClassSpec)

/-- 'laws.FnExactRecentTests', WHERE WHAT IT READS IS OF BULK AT MOST 1048576: true; the input reads as it did. -/
def fnExactRecentTestsUptoRow : OpenClaim := { program := "yteileaeeiejonaadoor", sum := "e0fc289c4a99119eddb85e8fbff90694d695d82aabeaf053bb9ab4d1eb5fe383", func := "loop.example/g01013/laws.FnExactRecentTests", spec := "fnExactRecentTests", unfollowed := true, recurses := true, named := ["loop.example/g01013/impl.testRules"], apart := false, laid := [("loop.example/g01013/impl.testRules", laid_loop_example_g01013_impl_testRules)], narrowed := true }
def FnExactRecentTestsUptoSaid : Prop := fnExactRecentTestsUptoRow.holds Tryd.pinned (OpenSpec.upto fnExactRecentTestsSpec)

/-- 'laws.FnExactAgreeOf', WHERE WHAT IT READS IS OF BULK AT MOST 1048576: true; the input reads as it did. -/
def fnExactAgreeOfUptoRow : OpenClaim := { program := "yteileaeeiejonaadoor", sum := "e0fc289c4a99119eddb85e8fbff90694d695d82aabeaf053bb9ab4d1eb5fe383", func := "loop.example/g01013/laws.FnExactAgreeOf", spec := "fnExactAgreeOf", unfollowed := true, recurses := true, named := ["loop.example/g01013/impl.testRules"], apart := false, laid := [("loop.example/g01013/impl.testRules", laid_loop_example_g01013_impl_testRules)], narrowed := true }
def FnExactAgreeOfUptoSaid : Prop := fnExactAgreeOfUptoRow.holds Tryd.pinned (OpenSpec.upto fnExactAgreeOfSpec)

/-- 'laws.FnExactWeakDepth', WHERE WHAT IT READS IS OF BULK AT MOST 1048576: true; the input reads as it did. -/
def fnExactWeakDepthUptoRow : OpenClaim := { program := "yteileaeeiejonaadoor", sum := "e0fc289c4a99119eddb85e8fbff90694d695d82aabeaf053bb9ab4d1eb5fe383", func := "loop.example/g01013/laws.FnExactWeakDepth", spec := "fnExactWeakDepth", unfollowed := true, recurses := true, named := ["loop.example/g01013/impl.testRules"], apart := false, laid := [("loop.example/g01013/impl.testRules", laid_loop_example_g01013_impl_testRules)], narrowed := true }
def FnExactWeakDepthUptoSaid : Prop := fnExactWeakDepthUptoRow.holds Tryd.pinned (OpenSpec.upto fnExactWeakDepthSpec)

/-- 'laws.FnExactKindsUsed', WHERE WHAT IT READS IS OF BULK AT MOST 1048576: true; the input reads as it did. -/
def fnExactKindsUsedUptoRow : OpenClaim := { program := "yteileaeeiejonaadoor", sum := "e0fc289c4a99119eddb85e8fbff90694d695d82aabeaf053bb9ab4d1eb5fe383", func := "loop.example/g01013/laws.FnExactKindsUsed", spec := "fnExactKindsUsed", unfollowed := true, recurses := true, named := ["loop.example/g01013/impl.testRules"], apart := false, laid := [("loop.example/g01013/impl.testRules", laid_loop_example_g01013_impl_testRules)], narrowed := true }
def FnExactKindsUsedUptoSaid : Prop := fnExactKindsUsedUptoRow.holds Tryd.pinned (OpenSpec.upto fnExactKindsUsedSpec)

/-- 'laws.FnExactContradictTests', WHERE WHAT IT READS IS OF BULK AT MOST 1048576: true; the input reads as it did. -/
def fnExactContradictTestsUptoRow : OpenClaim := { program := "yteileaeeiejonaadoor", sum := "e0fc289c4a99119eddb85e8fbff90694d695d82aabeaf053bb9ab4d1eb5fe383", func := "loop.example/g01013/laws.FnExactContradictTests", spec := "fnExactContradictTests", unfollowed := true, recurses := true, named := ["loop.example/g01013/impl.testRules"], apart := false, laid := [("loop.example/g01013/impl.testRules", laid_loop_example_g01013_impl_testRules)], narrowed := true }
def FnExactContradictTestsUptoSaid : Prop := fnExactContradictTestsUptoRow.holds Tryd.pinned (OpenSpec.upto fnExactContradictTestsSpec)

end Rows
end Go.Proofs.YteileaeeiejonaaDoor
