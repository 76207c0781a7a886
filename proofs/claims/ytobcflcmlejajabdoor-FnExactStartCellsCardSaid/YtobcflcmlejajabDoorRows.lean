/-
  NARROWER THAN 'FOR EVERY INPUT', by the rows' own cells (each row's printed sentence says how): FnExactSlopesOf: laid · FnExactStartCells: laid · FnExactBorderOf: laid · FnExactGrowCells: laid · FnExactSlopeTo: laid · FnExactSteepestOf: laid · FnExactAspectOf: laid.
  DERIVED. THE GIVEN ROWS OF THIS SEAT. 7 by the template 'for every input the law returns true; each argument reads behind the call as it read before'; 0 by the template 'total and deterministic' (their statements: YtobcflcmlejajabDoorTotals.lean).
  GIVEN WITH THE SEED: the statements are not yours to turn. If you find one false, say at which input.
  Laid BY PROGRAM, IN A SANDBOX (cutbox-rows.mjs): the forced cells as the released guide's own fill.sh prints them over the translation 7fb9bd0c6d5e5c97… (all of the seat's roots in one cut). By AI agents, Wed Nov 11 2026. No macro, syntax, notation, axiom, sorry.
-/
import Derived.Test.YtobcflcmlejajabDoorChecked
import GoSem.Claim
import GoSem.ClaimJoined
import GoSem.ClaimMapViews
import Derived.JoinedTies
import Derived.KernelRfl
namespace Go.Proofs.YtobcflcmlejajabDoor
/- THE CELL 'sum', in the pinned program and in every row, IS THE sha256 OF THE DUMP (.gsa) THAT YtobcflcmlejajabDoorProg.lean LOADS. Nothing in Lean hashes anything: it is a label: what it is worth is what the hold of that sum in a sandbox is worth. -/
noncomputable def Tryd.pinned : Pinned := { name := "ytobcflcmlejajabdoor", sum := "7fb9bd0c6d5e5c976ac3116e96a1de188fb6dbe1b17449af9ab7d4e2e01405e6", checked := Tryd.checked }
namespace Rows
def none {H : Type} : Left H := { results := [], args := [] }

/- WHAT THE LISTED PACKAGE-LEVEL VARIABLES READ AS WHEN THE CALL BEGINS. Each datum BY PROGRAM (the guide's laid-datum.mjs) off the statement by which the dump's own 'gosem.cut.vars' lays the variable. In a bare row this is a premise. The card (YtobcflcmlejajabDoorCards.lean) ties it to the program's text. -/
def laid_loop_example_g01013_impl_aspectWays {H : Type} : DataW H := .agg [.agg [.lit (.int .i64 (-1)), .lit (.int .i64 0)], .agg [.lit (.int .i64 (-1)), .lit (.int .i64 1)], .agg [.lit (.int .i64 0), .lit (.int .i64 1)], .agg [.lit (.int .i64 1), .lit (.int .i64 1)], .agg [.lit (.int .i64 1), .lit (.int .i64 0)], .agg [.lit (.int .i64 1), .lit (.int .i64 (-1))], .agg [.lit (.int .i64 0), .lit (.int .i64 (-1))], .agg [.lit (.int .i64 (-1)), .lit (.int .i64 (-1))]]
def laid_math_bits_deBruijn64tab {H : Type} : DataW H := .agg [.lit (.int .u8 0), .lit (.int .u8 1), .lit (.int .u8 56), .lit (.int .u8 2), .lit (.int .u8 57), .lit (.int .u8 49), .lit (.int .u8 28), .lit (.int .u8 3), .lit (.int .u8 61), .lit (.int .u8 58), .lit (.int .u8 42), .lit (.int .u8 50), .lit (.int .u8 38), .lit (.int .u8 29), .lit (.int .u8 17), .lit (.int .u8 4), .lit (.int .u8 62), .lit (.int .u8 47), .lit (.int .u8 59), .lit (.int .u8 36), .lit (.int .u8 45), .lit (.int .u8 43), .lit (.int .u8 51), .lit (.int .u8 22), .lit (.int .u8 53), .lit (.int .u8 39), .lit (.int .u8 33), .lit (.int .u8 30), .lit (.int .u8 24), .lit (.int .u8 18), .lit (.int .u8 12), .lit (.int .u8 5), .lit (.int .u8 63), .lit (.int .u8 55), .lit (.int .u8 48), .lit (.int .u8 27), .lit (.int .u8 60), .lit (.int .u8 41), .lit (.int .u8 37), .lit (.int .u8 16), .lit (.int .u8 46), .lit (.int .u8 35), .lit (.int .u8 44), .lit (.int .u8 21), .lit (.int .u8 52), .lit (.int .u8 32), .lit (.int .u8 23), .lit (.int .u8 11), .lit (.int .u8 54), .lit (.int .u8 26), .lit (.int .u8 40), .lit (.int .u8 15), .lit (.int .u8 34), .lit (.int .u8 20), .lit (.int .u8 31), .lit (.int .u8 10), .lit (.int .u8 25), .lit (.int .u8 14), .lit (.int .u8 19), .lit (.int .u8 9), .lit (.int .u8 13), .lit (.int .u8 8), .lit (.int .u8 7), .lit (.int .u8 6)]

/-- 'laws.FnExactSlopesOf': WHATEVER THE INPUT: true; the input reads as it did. -/
def fnExactSlopesOfSpec : ChangeSpec := { name := "fnExactSlopesOf", vars := ["loop.example/g01013/impl.aspectWays"], fn := fun _ => fun
  | [d, g1] => { results := [.lit (.bool true)], args := [d], vars := [g1] }
  | _ => none }
def fnExactSlopesOfRow : OpenClaim := { program := "ytobcflcmlejajabdoor", sum := "7fb9bd0c6d5e5c976ac3116e96a1de188fb6dbe1b17449af9ab7d4e2e01405e6", func := "loop.example/g01013/laws.FnExactSlopesOf", spec := "fnExactSlopesOf", unfollowed := true, recurses := true, named := ["loop.example/g01013/impl.aspectWays"], apart := false, laid := [("loop.example/g01013/impl.aspectWays", laid_loop_example_g01013_impl_aspectWays)] }
def FnExactSlopesOfSaid : Prop := fnExactSlopesOfRow.holds Tryd.pinned (OpenSpec.ofChange fnExactSlopesOfSpec)

/-- ITS FALSE NEIGHBOUR: 'it returns false'. Refute it at one input. -/
def fnExactSlopesOfWrong : ChangeSpec := { name := "fnExactSlopesOf", vars := ["loop.example/g01013/impl.aspectWays"], fn := fun _ => fun
  | [d, g1] => { results := [.lit (.bool false)], args := [d], vars := [g1] }
  | _ => none }
def FnExactSlopesOfWrongFalsely : Prop := fnExactSlopesOfRow.holds Tryd.pinned (OpenSpec.ofChange fnExactSlopesOfWrong)

/-- 'laws.FnExactStartCells': WHATEVER THE INPUT: true; the input reads as it did. -/
def fnExactStartCellsSpec : ChangeSpec := { name := "fnExactStartCells", vars := ["loop.example/g01013/impl.aspectWays"], fn := fun _ => fun
  | [d1, d2, d3, d4, g1] => { results := [.lit (.bool true)], args := [d1, d2, d3, d4], vars := [g1] }
  | _ => none }
def fnExactStartCellsRow : OpenClaim := { program := "ytobcflcmlejajabdoor", sum := "7fb9bd0c6d5e5c976ac3116e96a1de188fb6dbe1b17449af9ab7d4e2e01405e6", func := "loop.example/g01013/laws.FnExactStartCells", spec := "fnExactStartCells", unfollowed := true, recurses := true, named := ["loop.example/g01013/impl.aspectWays"], apart := false, laid := [("loop.example/g01013/impl.aspectWays", laid_loop_example_g01013_impl_aspectWays)] }
def FnExactStartCellsSaid : Prop := fnExactStartCellsRow.holds Tryd.pinned (OpenSpec.ofChange fnExactStartCellsSpec)

/-- ITS FALSE NEIGHBOUR: 'it returns false'. Refute it at one input. -/
def fnExactStartCellsWrong : ChangeSpec := { name := "fnExactStartCells", vars := ["loop.example/g01013/impl.aspectWays"], fn := fun _ => fun
  | [d1, d2, d3, d4, g1] => { results := [.lit (.bool false)], args := [d1, d2, d3, d4], vars := [g1] }
  | _ => none }
def FnExactStartCellsWrongFalsely : Prop := fnExactStartCellsRow.holds Tryd.pinned (OpenSpec.ofChange fnExactStartCellsWrong)

/-- 'laws.FnExactBorderOf': WHATEVER THE INPUT: true; the input reads as it did. -/
def fnExactBorderOfSpec : ChangeSpec := { name := "fnExactBorderOf", vars := ["loop.example/g01013/impl.aspectWays"], fn := fun _ => fun
  | [d1, d2, g1] => { results := [.lit (.bool true)], args := [d1, d2], vars := [g1] }
  | _ => none }
def fnExactBorderOfRow : OpenClaim := { program := "ytobcflcmlejajabdoor", sum := "7fb9bd0c6d5e5c976ac3116e96a1de188fb6dbe1b17449af9ab7d4e2e01405e6", func := "loop.example/g01013/laws.FnExactBorderOf", spec := "fnExactBorderOf", unfollowed := true, recurses := true, named := ["loop.example/g01013/impl.aspectWays"], apart := false, laid := [("loop.example/g01013/impl.aspectWays", laid_loop_example_g01013_impl_aspectWays)] }
def FnExactBorderOfSaid : Prop := fnExactBorderOfRow.holds Tryd.pinned (OpenSpec.ofChange fnExactBorderOfSpec)

/-- ITS FALSE NEIGHBOUR: 'it returns false'. Refute it at one input. -/
def fnExactBorderOfWrong : ChangeSpec := { name := "fnExactBorderOf", vars := ["loop.example/g01013/impl.aspectWays"], fn := fun _ => fun
  | [d1, d2, g1] => { results := [.lit (.bool false)], args := [d1, d2], vars := [g1] }
  | _ => none }
def FnExactBorderOfWrongFalsely : Prop := fnExactBorderOfRow.holds Tryd.pinned (OpenSpec.ofChange fnExactBorderOfWrong)

/-- 'laws.FnExactGrowCells': WHATEVER THE INPUT: true; the input reads as it did. -/
def fnExactGrowCellsSpec : ChangeSpec := { name := "fnExactGrowCells", vars := ["loop.example/g01013/impl.aspectWays"], fn := fun _ => fun
  | [d1, d2, d3, g1] => { results := [.lit (.bool true)], args := [d1, d2, d3], vars := [g1] }
  | _ => none }
def fnExactGrowCellsRow : OpenClaim := { program := "ytobcflcmlejajabdoor", sum := "7fb9bd0c6d5e5c976ac3116e96a1de188fb6dbe1b17449af9ab7d4e2e01405e6", func := "loop.example/g01013/laws.FnExactGrowCells", spec := "fnExactGrowCells", unfollowed := true, recurses := true, named := ["loop.example/g01013/impl.aspectWays", "math/bits.deBruijn64tab"], apart := false, laid := [("math/bits.deBruijn64tab", laid_math_bits_deBruijn64tab), ("loop.example/g01013/impl.aspectWays", laid_loop_example_g01013_impl_aspectWays)] }
def FnExactGrowCellsSaid : Prop := fnExactGrowCellsRow.holds Tryd.pinned (OpenSpec.ofChange fnExactGrowCellsSpec)

/-- ITS FALSE NEIGHBOUR: 'it returns false'. Refute it at one input. -/
def fnExactGrowCellsWrong : ChangeSpec := { name := "fnExactGrowCells", vars := ["loop.example/g01013/impl.aspectWays"], fn := fun _ => fun
  | [d1, d2, d3, g1] => { results := [.lit (.bool false)], args := [d1, d2, d3], vars := [g1] }
  | _ => none }
def FnExactGrowCellsWrongFalsely : Prop := fnExactGrowCellsRow.holds Tryd.pinned (OpenSpec.ofChange fnExactGrowCellsWrong)

/-- 'laws.FnExactSlopeTo': WHATEVER THE INPUT: true; the input reads as it did. -/
def fnExactSlopeToSpec : ChangeSpec := { name := "fnExactSlopeTo", vars := ["loop.example/g01013/impl.aspectWays"], fn := fun _ => fun
  | [d1, d2, d3, g1] => { results := [.lit (.bool true)], args := [d1, d2, d3], vars := [g1] }
  | _ => none }
def fnExactSlopeToRow : OpenClaim := { program := "ytobcflcmlejajabdoor", sum := "7fb9bd0c6d5e5c976ac3116e96a1de188fb6dbe1b17449af9ab7d4e2e01405e6", func := "loop.example/g01013/laws.FnExactSlopeTo", spec := "fnExactSlopeTo", unfollowed := true, recurses := true, named := ["loop.example/g01013/impl.aspectWays"], apart := false, laid := [("loop.example/g01013/impl.aspectWays", laid_loop_example_g01013_impl_aspectWays)] }
def FnExactSlopeToSaid : Prop := fnExactSlopeToRow.holds Tryd.pinned (OpenSpec.ofChange fnExactSlopeToSpec)

/-- ITS FALSE NEIGHBOUR: 'it returns false'. Refute it at one input. -/
def fnExactSlopeToWrong : ChangeSpec := { name := "fnExactSlopeTo", vars := ["loop.example/g01013/impl.aspectWays"], fn := fun _ => fun
  | [d1, d2, d3, g1] => { results := [.lit (.bool false)], args := [d1, d2, d3], vars := [g1] }
  | _ => none }
def FnExactSlopeToWrongFalsely : Prop := fnExactSlopeToRow.holds Tryd.pinned (OpenSpec.ofChange fnExactSlopeToWrong)

/-- 'laws.FnExactSteepestOf': WHATEVER THE INPUT: true; the input reads as it did. -/
def fnExactSteepestOfSpec : ChangeSpec := { name := "fnExactSteepestOf", vars := ["loop.example/g01013/impl.aspectWays"], fn := fun _ => fun
  | [d1, d2, g1] => { results := [.lit (.bool true)], args := [d1, d2], vars := [g1] }
  | _ => none }
def fnExactSteepestOfRow : OpenClaim := { program := "ytobcflcmlejajabdoor", sum := "7fb9bd0c6d5e5c976ac3116e96a1de188fb6dbe1b17449af9ab7d4e2e01405e6", func := "loop.example/g01013/laws.FnExactSteepestOf", spec := "fnExactSteepestOf", unfollowed := true, recurses := true, named := ["loop.example/g01013/impl.aspectWays"], apart := false, laid := [("loop.example/g01013/impl.aspectWays", laid_loop_example_g01013_impl_aspectWays)] }
def FnExactSteepestOfSaid : Prop := fnExactSteepestOfRow.holds Tryd.pinned (OpenSpec.ofChange fnExactSteepestOfSpec)

/-- ITS FALSE NEIGHBOUR: 'it returns false'. Refute it at one input. -/
def fnExactSteepestOfWrong : ChangeSpec := { name := "fnExactSteepestOf", vars := ["loop.example/g01013/impl.aspectWays"], fn := fun _ => fun
  | [d1, d2, g1] => { results := [.lit (.bool false)], args := [d1, d2], vars := [g1] }
  | _ => none }
def FnExactSteepestOfWrongFalsely : Prop := fnExactSteepestOfRow.holds Tryd.pinned (OpenSpec.ofChange fnExactSteepestOfWrong)

/-- 'laws.FnExactAspectOf': WHATEVER THE INPUT: true; the input reads as it did. -/
def fnExactAspectOfSpec : ChangeSpec := { name := "fnExactAspectOf", vars := ["loop.example/g01013/impl.aspectWays"], fn := fun _ => fun
  | [d1, d2, g1] => { results := [.lit (.bool true)], args := [d1, d2], vars := [g1] }
  | _ => none }
def fnExactAspectOfRow : OpenClaim := { program := "ytobcflcmlejajabdoor", sum := "7fb9bd0c6d5e5c976ac3116e96a1de188fb6dbe1b17449af9ab7d4e2e01405e6", func := "loop.example/g01013/laws.FnExactAspectOf", spec := "fnExactAspectOf", unfollowed := true, recurses := true, named := ["loop.example/g01013/impl.aspectWays"], apart := false, laid := [("loop.example/g01013/impl.aspectWays", laid_loop_example_g01013_impl_aspectWays)] }
def FnExactAspectOfSaid : Prop := fnExactAspectOfRow.holds Tryd.pinned (OpenSpec.ofChange fnExactAspectOfSpec)

/-- ITS FALSE NEIGHBOUR: 'it returns false'. Refute it at one input. -/
def fnExactAspectOfWrong : ChangeSpec := { name := "fnExactAspectOf", vars := ["loop.example/g01013/impl.aspectWays"], fn := fun _ => fun
  | [d1, d2, g1] => { results := [.lit (.bool false)], args := [d1, d2], vars := [g1] }
  | _ => none }
def FnExactAspectOfWrongFalsely : Prop := fnExactAspectOfRow.holds Tryd.pinned (OpenSpec.ofChange fnExactAspectOfWrong)

/- THE SECOND FORM. 'bulk': how many values and letters a reading holds, each counted each time it is reached (what is shared counts as often as it is met; a slice's spare places count too). A statement '..UptoSaid' is the law's where the arguments, and the package variables that the reading takes, are together of bulk at most 1048576: NARROWER than '..Said'. Prove '..Said' where nothing that the law and all that it calls make is longer than what came in: it says more and counts as full. Else prove '..UptoSaid'. A law counts once. -/
mutual
def uptoBulk {H : Type} : DataW H → Nat
  | .lit (.string bytes) => bytes.length + 1
  | .lit _ => 1
  | .nil => 1
  | .ptr d => uptoBulk d + 1
  | .slice elems spare => uptoBulkAll elems + uptoBulkAll spare + 1
  | .agg parts => uptoBulkAll parts + 1
  | .iface _ d => uptoBulk d + 1
  | .map entries => uptoBulkEntries entries + 1
  | .held _ => 1
def uptoBulkAll {H : Type} : List (DataW H) → Nat
  | [] => 0
  | d :: r => uptoBulk d + uptoBulkAll r
def uptoBulkEntries {H : Type} : List (Lit × DataW H) → Nat
  | [] => 0
  | x :: r => uptoBulkEntry x + uptoBulkEntries r
def uptoBulkEntry {H : Type} : Lit × DataW H → Nat
  | (.string bytes, d) => bytes.length + uptoBulk d + 1
  | (_, d) => uptoBulk d + 1
 end
def uptoSmall : (H : Type) → List (DataW H) → Bool := fun _ ds => decide (uptoBulkAll ds ≤ 1048576)
def OpenSpec.upto (s : _root_.Go.ChangeSpec) : _root_.Go.OpenSpec := { _root_.Go.OpenSpec.ofChange s with cond := some uptoSmall }

/-- 'laws.FnExactSlopesOf', WHERE WHAT IT READS IS OF BULK AT MOST 1048576: true; the input reads as it did. -/
def fnExactSlopesOfUptoRow : OpenClaim := { program := "ytobcflcmlejajabdoor", sum := "7fb9bd0c6d5e5c976ac3116e96a1de188fb6dbe1b17449af9ab7d4e2e01405e6", func := "loop.example/g01013/laws.FnExactSlopesOf", spec := "fnExactSlopesOf", unfollowed := true, recurses := true, named := ["loop.example/g01013/impl.aspectWays"], apart := false, laid := [("loop.example/g01013/impl.aspectWays", laid_loop_example_g01013_impl_aspectWays)], narrowed := true }
def FnExactSlopesOfUptoSaid : Prop := fnExactSlopesOfUptoRow.holds Tryd.pinned (OpenSpec.upto fnExactSlopesOfSpec)

/-- 'laws.FnExactStartCells', WHERE WHAT IT READS IS OF BULK AT MOST 1048576: true; the input reads as it did. -/
def fnExactStartCellsUptoRow : OpenClaim := { program := "ytobcflcmlejajabdoor", sum := "7fb9bd0c6d5e5c976ac3116e96a1de188fb6dbe1b17449af9ab7d4e2e01405e6", func := "loop.example/g01013/laws.FnExactStartCells", spec := "fnExactStartCells", unfollowed := true, recurses := true, named := ["loop.example/g01013/impl.aspectWays"], apart := false, laid := [("loop.example/g01013/impl.aspectWays", laid_loop_example_g01013_impl_aspectWays)], narrowed := true }
def FnExactStartCellsUptoSaid : Prop := fnExactStartCellsUptoRow.holds Tryd.pinned (OpenSpec.upto fnExactStartCellsSpec)

/-- 'laws.FnExactBorderOf', WHERE WHAT IT READS IS OF BULK AT MOST 1048576: true; the input reads as it did. -/
def fnExactBorderOfUptoRow : OpenClaim := { program := "ytobcflcmlejajabdoor", sum := "7fb9bd0c6d5e5c976ac3116e96a1de188fb6dbe1b17449af9ab7d4e2e01405e6", func := "loop.example/g01013/laws.FnExactBorderOf", spec := "fnExactBorderOf", unfollowed := true, recurses := true, named := ["loop.example/g01013/impl.aspectWays"], apart := false, laid := [("loop.example/g01013/impl.aspectWays", laid_loop_example_g01013_impl_aspectWays)], narrowed := true }
def FnExactBorderOfUptoSaid : Prop := fnExactBorderOfUptoRow.holds Tryd.pinned (OpenSpec.upto fnExactBorderOfSpec)

/-- 'laws.FnExactGrowCells', WHERE WHAT IT READS IS OF BULK AT MOST 1048576: true; the input reads as it did. -/
def fnExactGrowCellsUptoRow : OpenClaim := { program := "ytobcflcmlejajabdoor", sum := "7fb9bd0c6d5e5c976ac3116e96a1de188fb6dbe1b17449af9ab7d4e2e01405e6", func := "loop.example/g01013/laws.FnExactGrowCells", spec := "fnExactGrowCells", unfollowed := true, recurses := true, named := ["loop.example/g01013/impl.aspectWays", "math/bits.deBruijn64tab"], apart := false, laid := [("math/bits.deBruijn64tab", laid_math_bits_deBruijn64tab), ("loop.example/g01013/impl.aspectWays", laid_loop_example_g01013_impl_aspectWays)], narrowed := true }
def FnExactGrowCellsUptoSaid : Prop := fnExactGrowCellsUptoRow.holds Tryd.pinned (OpenSpec.upto fnExactGrowCellsSpec)

/-- 'laws.FnExactSlopeTo', WHERE WHAT IT READS IS OF BULK AT MOST 1048576: true; the input reads as it did. -/
def fnExactSlopeToUptoRow : OpenClaim := { program := "ytobcflcmlejajabdoor", sum := "7fb9bd0c6d5e5c976ac3116e96a1de188fb6dbe1b17449af9ab7d4e2e01405e6", func := "loop.example/g01013/laws.FnExactSlopeTo", spec := "fnExactSlopeTo", unfollowed := true, recurses := true, named := ["loop.example/g01013/impl.aspectWays"], apart := false, laid := [("loop.example/g01013/impl.aspectWays", laid_loop_example_g01013_impl_aspectWays)], narrowed := true }
def FnExactSlopeToUptoSaid : Prop := fnExactSlopeToUptoRow.holds Tryd.pinned (OpenSpec.upto fnExactSlopeToSpec)

/-- 'laws.FnExactSteepestOf', WHERE WHAT IT READS IS OF BULK AT MOST 1048576: true; the input reads as it did. -/
def fnExactSteepestOfUptoRow : OpenClaim := { program := "ytobcflcmlejajabdoor", sum := "7fb9bd0c6d5e5c976ac3116e96a1de188fb6dbe1b17449af9ab7d4e2e01405e6", func := "loop.example/g01013/laws.FnExactSteepestOf", spec := "fnExactSteepestOf", unfollowed := true, recurses := true, named := ["loop.example/g01013/impl.aspectWays"], apart := false, laid := [("loop.example/g01013/impl.aspectWays", laid_loop_example_g01013_impl_aspectWays)], narrowed := true }
def FnExactSteepestOfUptoSaid : Prop := fnExactSteepestOfUptoRow.holds Tryd.pinned (OpenSpec.upto fnExactSteepestOfSpec)

/-- 'laws.FnExactAspectOf', WHERE WHAT IT READS IS OF BULK AT MOST 1048576: true; the input reads as it did. -/
def fnExactAspectOfUptoRow : OpenClaim := { program := "ytobcflcmlejajabdoor", sum := "7fb9bd0c6d5e5c976ac3116e96a1de188fb6dbe1b17449af9ab7d4e2e01405e6", func := "loop.example/g01013/laws.FnExactAspectOf", spec := "fnExactAspectOf", unfollowed := true, recurses := true, named := ["loop.example/g01013/impl.aspectWays"], apart := false, laid := [("loop.example/g01013/impl.aspectWays", laid_loop_example_g01013_impl_aspectWays)], narrowed := true }
def FnExactAspectOfUptoSaid : Prop := fnExactAspectOfUptoRow.holds Tryd.pinned (OpenSpec.upto fnExactAspectOfSpec)

end Rows
end Go.Proofs.YtobcflcmlejajabDoor
