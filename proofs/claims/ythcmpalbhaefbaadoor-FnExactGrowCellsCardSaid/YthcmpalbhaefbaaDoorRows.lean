/-
  NARROWER THAN 'FOR EVERY INPUT', by the rows' own cells (each row's printed sentence says how): FnExactRouteStep: laid · FnExactNeighboursOf: laid · FnExactCurvatureAt: laid · FnExactDescentOf: laid · FnExactPeaksOf: laid · FnExactPitsOf: laid · FnExactBorderOf: laid · FnExactGrowCells: laid · FnExactAboveCells: laid.
  DERIVED. THE GIVEN ROWS OF THIS SEAT. 9 by the template 'for every input the law returns true; each argument reads behind the call as it read before'; 0 by the template 'total and deterministic' (their statements: YthcmpalbhaefbaaDoorTotals.lean).
  GIVEN WITH THE SEED: the statements are not yours to turn. If you find one false, say at which input.
  Laid BY PROGRAM, IN A SANDBOX (cutbox-rows.mjs): the forced cells as the released guide's own fill.sh prints them over the translation 51fce48be87fd453… (all of the seat's roots in one cut). By AI agents, Wed Nov 11 2026. No macro, syntax, notation, axiom, sorry.
-/
import Derived.Test.YthcmpalbhaefbaaDoorChecked
import GoSem.Claim
import GoSem.ClaimJoined
import GoSem.ClaimMapViews
import Derived.JoinedTies
import Derived.KernelRfl
namespace Go.Proofs.YthcmpalbhaefbaaDoor
/- THE CELL 'sum', in the pinned program and in every row, IS THE sha256 OF THE DUMP (.gsa) THAT YthcmpalbhaefbaaDoorProg.lean LOADS. Nothing in Lean hashes anything: it is a label: what it is worth is what the hold of that sum in a sandbox is worth. -/
noncomputable def Tryd.pinned : Pinned := { name := "ythcmpalbhaefbaadoor", sum := "51fce48be87fd453fde45747046b4a4f2c8f30c88a00d0d4795c2369fcccff75", checked := Tryd.checked }
namespace Rows
def none {H : Type} : Left H := { results := [], args := [] }

/- WHAT THE LISTED PACKAGE-LEVEL VARIABLES READ AS WHEN THE CALL BEGINS. Each datum BY PROGRAM (the guide's laid-datum.mjs) off the statement by which the dump's own 'gosem.cut.vars' lays the variable. In a bare row this is a premise. The card (YthcmpalbhaefbaaDoorCards.lean) ties it to the program's text. -/
def laid_loop_example_g01013_impl_aspectWays {H : Type} : DataW H := .agg [.agg [.lit (.int .i64 (-1)), .lit (.int .i64 0)], .agg [.lit (.int .i64 (-1)), .lit (.int .i64 1)], .agg [.lit (.int .i64 0), .lit (.int .i64 1)], .agg [.lit (.int .i64 1), .lit (.int .i64 1)], .agg [.lit (.int .i64 1), .lit (.int .i64 0)], .agg [.lit (.int .i64 1), .lit (.int .i64 (-1))], .agg [.lit (.int .i64 0), .lit (.int .i64 (-1))], .agg [.lit (.int .i64 (-1)), .lit (.int .i64 (-1))]]
def laid_math_bits_deBruijn64tab {H : Type} : DataW H := .agg [.lit (.int .u8 0), .lit (.int .u8 1), .lit (.int .u8 56), .lit (.int .u8 2), .lit (.int .u8 57), .lit (.int .u8 49), .lit (.int .u8 28), .lit (.int .u8 3), .lit (.int .u8 61), .lit (.int .u8 58), .lit (.int .u8 42), .lit (.int .u8 50), .lit (.int .u8 38), .lit (.int .u8 29), .lit (.int .u8 17), .lit (.int .u8 4), .lit (.int .u8 62), .lit (.int .u8 47), .lit (.int .u8 59), .lit (.int .u8 36), .lit (.int .u8 45), .lit (.int .u8 43), .lit (.int .u8 51), .lit (.int .u8 22), .lit (.int .u8 53), .lit (.int .u8 39), .lit (.int .u8 33), .lit (.int .u8 30), .lit (.int .u8 24), .lit (.int .u8 18), .lit (.int .u8 12), .lit (.int .u8 5), .lit (.int .u8 63), .lit (.int .u8 55), .lit (.int .u8 48), .lit (.int .u8 27), .lit (.int .u8 60), .lit (.int .u8 41), .lit (.int .u8 37), .lit (.int .u8 16), .lit (.int .u8 46), .lit (.int .u8 35), .lit (.int .u8 44), .lit (.int .u8 21), .lit (.int .u8 52), .lit (.int .u8 32), .lit (.int .u8 23), .lit (.int .u8 11), .lit (.int .u8 54), .lit (.int .u8 26), .lit (.int .u8 40), .lit (.int .u8 15), .lit (.int .u8 34), .lit (.int .u8 20), .lit (.int .u8 31), .lit (.int .u8 10), .lit (.int .u8 25), .lit (.int .u8 14), .lit (.int .u8 19), .lit (.int .u8 9), .lit (.int .u8 13), .lit (.int .u8 8), .lit (.int .u8 7), .lit (.int .u8 6)]

/-- 'laws.FnExactRouteStep': WHATEVER THE INPUT: true; the input reads as it did. -/
def fnExactRouteStepSpec : ChangeSpec := { name := "fnExactRouteStep", vars := ["loop.example/g01013/impl.aspectWays"], fn := fun _ => fun
  | [d1, d2, d3, g1] => { results := [.lit (.bool true)], args := [d1, d2, d3], vars := [g1] }
  | _ => none }
def fnExactRouteStepRow : OpenClaim := { program := "ythcmpalbhaefbaadoor", sum := "51fce48be87fd453fde45747046b4a4f2c8f30c88a00d0d4795c2369fcccff75", func := "loop.example/g01013/laws.FnExactRouteStep", spec := "fnExactRouteStep", unfollowed := true, recurses := true, named := ["loop.example/g01013/impl.aspectWays"], apart := false, laid := [("loop.example/g01013/impl.aspectWays", laid_loop_example_g01013_impl_aspectWays)] }
def FnExactRouteStepSaid : Prop := fnExactRouteStepRow.holds Tryd.pinned (OpenSpec.ofChange fnExactRouteStepSpec)

/-- ITS FALSE NEIGHBOUR: 'it returns false'. Refute it at one input. -/
def fnExactRouteStepWrong : ChangeSpec := { name := "fnExactRouteStep", vars := ["loop.example/g01013/impl.aspectWays"], fn := fun _ => fun
  | [d1, d2, d3, g1] => { results := [.lit (.bool false)], args := [d1, d2, d3], vars := [g1] }
  | _ => none }
def FnExactRouteStepWrongFalsely : Prop := fnExactRouteStepRow.holds Tryd.pinned (OpenSpec.ofChange fnExactRouteStepWrong)

/-- 'laws.FnExactNeighboursOf': WHATEVER THE INPUT: true; the input reads as it did. -/
def fnExactNeighboursOfSpec : ChangeSpec := { name := "fnExactNeighboursOf", vars := ["loop.example/g01013/impl.aspectWays"], fn := fun _ => fun
  | [d1, d2, g1] => { results := [.lit (.bool true)], args := [d1, d2], vars := [g1] }
  | _ => none }
def fnExactNeighboursOfRow : OpenClaim := { program := "ythcmpalbhaefbaadoor", sum := "51fce48be87fd453fde45747046b4a4f2c8f30c88a00d0d4795c2369fcccff75", func := "loop.example/g01013/laws.FnExactNeighboursOf", spec := "fnExactNeighboursOf", unfollowed := true, recurses := true, named := ["loop.example/g01013/impl.aspectWays"], apart := false, laid := [("loop.example/g01013/impl.aspectWays", laid_loop_example_g01013_impl_aspectWays)] }
def FnExactNeighboursOfSaid : Prop := fnExactNeighboursOfRow.holds Tryd.pinned (OpenSpec.ofChange fnExactNeighboursOfSpec)

/-- ITS FALSE NEIGHBOUR: 'it returns false'. Refute it at one input. -/
def fnExactNeighboursOfWrong : ChangeSpec := { name := "fnExactNeighboursOf", vars := ["loop.example/g01013/impl.aspectWays"], fn := fun _ => fun
  | [d1, d2, g1] => { results := [.lit (.bool false)], args := [d1, d2], vars := [g1] }
  | _ => none }
def FnExactNeighboursOfWrongFalsely : Prop := fnExactNeighboursOfRow.holds Tryd.pinned (OpenSpec.ofChange fnExactNeighboursOfWrong)

/-- 'laws.FnExactCurvatureAt': WHATEVER THE INPUT: true; the input reads as it did. -/
def fnExactCurvatureAtSpec : ChangeSpec := { name := "fnExactCurvatureAt", vars := ["loop.example/g01013/impl.aspectWays"], fn := fun _ => fun
  | [d1, d2, g1] => { results := [.lit (.bool true)], args := [d1, d2], vars := [g1] }
  | _ => none }
def fnExactCurvatureAtRow : OpenClaim := { program := "ythcmpalbhaefbaadoor", sum := "51fce48be87fd453fde45747046b4a4f2c8f30c88a00d0d4795c2369fcccff75", func := "loop.example/g01013/laws.FnExactCurvatureAt", spec := "fnExactCurvatureAt", unfollowed := true, recurses := true, named := ["loop.example/g01013/impl.aspectWays"], apart := false, laid := [("loop.example/g01013/impl.aspectWays", laid_loop_example_g01013_impl_aspectWays)] }
def FnExactCurvatureAtSaid : Prop := fnExactCurvatureAtRow.holds Tryd.pinned (OpenSpec.ofChange fnExactCurvatureAtSpec)

/-- ITS FALSE NEIGHBOUR: 'it returns false'. Refute it at one input. -/
def fnExactCurvatureAtWrong : ChangeSpec := { name := "fnExactCurvatureAt", vars := ["loop.example/g01013/impl.aspectWays"], fn := fun _ => fun
  | [d1, d2, g1] => { results := [.lit (.bool false)], args := [d1, d2], vars := [g1] }
  | _ => none }
def FnExactCurvatureAtWrongFalsely : Prop := fnExactCurvatureAtRow.holds Tryd.pinned (OpenSpec.ofChange fnExactCurvatureAtWrong)

/-- 'laws.FnExactDescentOf': WHATEVER THE INPUT: true; the input reads as it did. -/
def fnExactDescentOfSpec : ChangeSpec := { name := "fnExactDescentOf", vars := ["loop.example/g01013/impl.aspectWays"], fn := fun _ => fun
  | [d1, d2, g1] => { results := [.lit (.bool true)], args := [d1, d2], vars := [g1] }
  | _ => none }
def fnExactDescentOfRow : OpenClaim := { program := "ythcmpalbhaefbaadoor", sum := "51fce48be87fd453fde45747046b4a4f2c8f30c88a00d0d4795c2369fcccff75", func := "loop.example/g01013/laws.FnExactDescentOf", spec := "fnExactDescentOf", unfollowed := true, recurses := true, named := ["loop.example/g01013/impl.aspectWays"], apart := false, laid := [("loop.example/g01013/impl.aspectWays", laid_loop_example_g01013_impl_aspectWays)] }
def FnExactDescentOfSaid : Prop := fnExactDescentOfRow.holds Tryd.pinned (OpenSpec.ofChange fnExactDescentOfSpec)

/-- ITS FALSE NEIGHBOUR: 'it returns false'. Refute it at one input. -/
def fnExactDescentOfWrong : ChangeSpec := { name := "fnExactDescentOf", vars := ["loop.example/g01013/impl.aspectWays"], fn := fun _ => fun
  | [d1, d2, g1] => { results := [.lit (.bool false)], args := [d1, d2], vars := [g1] }
  | _ => none }
def FnExactDescentOfWrongFalsely : Prop := fnExactDescentOfRow.holds Tryd.pinned (OpenSpec.ofChange fnExactDescentOfWrong)

/-- 'laws.FnExactPeaksOf': WHATEVER THE INPUT: true; the input reads as it did. -/
def fnExactPeaksOfSpec : ChangeSpec := { name := "fnExactPeaksOf", vars := ["loop.example/g01013/impl.aspectWays"], fn := fun _ => fun
  | [d, g1] => { results := [.lit (.bool true)], args := [d], vars := [g1] }
  | _ => none }
def fnExactPeaksOfRow : OpenClaim := { program := "ythcmpalbhaefbaadoor", sum := "51fce48be87fd453fde45747046b4a4f2c8f30c88a00d0d4795c2369fcccff75", func := "loop.example/g01013/laws.FnExactPeaksOf", spec := "fnExactPeaksOf", unfollowed := true, recurses := true, named := ["loop.example/g01013/impl.aspectWays"], apart := false, laid := [("loop.example/g01013/impl.aspectWays", laid_loop_example_g01013_impl_aspectWays)] }
def FnExactPeaksOfSaid : Prop := fnExactPeaksOfRow.holds Tryd.pinned (OpenSpec.ofChange fnExactPeaksOfSpec)

/-- ITS FALSE NEIGHBOUR: 'it returns false'. Refute it at one input. -/
def fnExactPeaksOfWrong : ChangeSpec := { name := "fnExactPeaksOf", vars := ["loop.example/g01013/impl.aspectWays"], fn := fun _ => fun
  | [d, g1] => { results := [.lit (.bool false)], args := [d], vars := [g1] }
  | _ => none }
def FnExactPeaksOfWrongFalsely : Prop := fnExactPeaksOfRow.holds Tryd.pinned (OpenSpec.ofChange fnExactPeaksOfWrong)

/-- 'laws.FnExactPitsOf': WHATEVER THE INPUT: true; the input reads as it did. -/
def fnExactPitsOfSpec : ChangeSpec := { name := "fnExactPitsOf", vars := ["loop.example/g01013/impl.aspectWays"], fn := fun _ => fun
  | [d, g1] => { results := [.lit (.bool true)], args := [d], vars := [g1] }
  | _ => none }
def fnExactPitsOfRow : OpenClaim := { program := "ythcmpalbhaefbaadoor", sum := "51fce48be87fd453fde45747046b4a4f2c8f30c88a00d0d4795c2369fcccff75", func := "loop.example/g01013/laws.FnExactPitsOf", spec := "fnExactPitsOf", unfollowed := true, recurses := true, named := ["loop.example/g01013/impl.aspectWays"], apart := false, laid := [("loop.example/g01013/impl.aspectWays", laid_loop_example_g01013_impl_aspectWays)] }
def FnExactPitsOfSaid : Prop := fnExactPitsOfRow.holds Tryd.pinned (OpenSpec.ofChange fnExactPitsOfSpec)

/-- ITS FALSE NEIGHBOUR: 'it returns false'. Refute it at one input. -/
def fnExactPitsOfWrong : ChangeSpec := { name := "fnExactPitsOf", vars := ["loop.example/g01013/impl.aspectWays"], fn := fun _ => fun
  | [d, g1] => { results := [.lit (.bool false)], args := [d], vars := [g1] }
  | _ => none }
def FnExactPitsOfWrongFalsely : Prop := fnExactPitsOfRow.holds Tryd.pinned (OpenSpec.ofChange fnExactPitsOfWrong)

/-- 'laws.FnExactBorderOf': WHATEVER THE INPUT: true; the input reads as it did. -/
def fnExactBorderOfSpec : ChangeSpec := { name := "fnExactBorderOf", vars := ["loop.example/g01013/impl.aspectWays"], fn := fun _ => fun
  | [d1, d2, g1] => { results := [.lit (.bool true)], args := [d1, d2], vars := [g1] }
  | _ => none }
def fnExactBorderOfRow : OpenClaim := { program := "ythcmpalbhaefbaadoor", sum := "51fce48be87fd453fde45747046b4a4f2c8f30c88a00d0d4795c2369fcccff75", func := "loop.example/g01013/laws.FnExactBorderOf", spec := "fnExactBorderOf", unfollowed := true, recurses := true, named := ["loop.example/g01013/impl.aspectWays"], apart := false, laid := [("loop.example/g01013/impl.aspectWays", laid_loop_example_g01013_impl_aspectWays)] }
def FnExactBorderOfSaid : Prop := fnExactBorderOfRow.holds Tryd.pinned (OpenSpec.ofChange fnExactBorderOfSpec)

/-- ITS FALSE NEIGHBOUR: 'it returns false'. Refute it at one input. -/
def fnExactBorderOfWrong : ChangeSpec := { name := "fnExactBorderOf", vars := ["loop.example/g01013/impl.aspectWays"], fn := fun _ => fun
  | [d1, d2, g1] => { results := [.lit (.bool false)], args := [d1, d2], vars := [g1] }
  | _ => none }
def FnExactBorderOfWrongFalsely : Prop := fnExactBorderOfRow.holds Tryd.pinned (OpenSpec.ofChange fnExactBorderOfWrong)

/-- 'laws.FnExactGrowCells': WHATEVER THE INPUT: true; the input reads as it did. -/
def fnExactGrowCellsSpec : ChangeSpec := { name := "fnExactGrowCells", vars := ["loop.example/g01013/impl.aspectWays"], fn := fun _ => fun
  | [d1, d2, d3, g1] => { results := [.lit (.bool true)], args := [d1, d2, d3], vars := [g1] }
  | _ => none }
def fnExactGrowCellsRow : OpenClaim := { program := "ythcmpalbhaefbaadoor", sum := "51fce48be87fd453fde45747046b4a4f2c8f30c88a00d0d4795c2369fcccff75", func := "loop.example/g01013/laws.FnExactGrowCells", spec := "fnExactGrowCells", unfollowed := true, recurses := true, named := ["loop.example/g01013/impl.aspectWays", "math/bits.deBruijn64tab"], apart := false, laid := [("math/bits.deBruijn64tab", laid_math_bits_deBruijn64tab), ("loop.example/g01013/impl.aspectWays", laid_loop_example_g01013_impl_aspectWays)] }
def FnExactGrowCellsSaid : Prop := fnExactGrowCellsRow.holds Tryd.pinned (OpenSpec.ofChange fnExactGrowCellsSpec)

/-- ITS FALSE NEIGHBOUR: 'it returns false'. Refute it at one input. -/
def fnExactGrowCellsWrong : ChangeSpec := { name := "fnExactGrowCells", vars := ["loop.example/g01013/impl.aspectWays"], fn := fun _ => fun
  | [d1, d2, d3, g1] => { results := [.lit (.bool false)], args := [d1, d2, d3], vars := [g1] }
  | _ => none }
def FnExactGrowCellsWrongFalsely : Prop := fnExactGrowCellsRow.holds Tryd.pinned (OpenSpec.ofChange fnExactGrowCellsWrong)

/-- 'laws.FnExactAboveCells': WHATEVER THE INPUT: true; the input reads as it did. -/
def fnExactAboveCellsSpec : ChangeSpec := { name := "fnExactAboveCells", vars := ["loop.example/g01013/impl.aspectWays"], fn := fun _ => fun
  | [d1, d2, g1] => { results := [.lit (.bool true)], args := [d1, d2], vars := [g1] }
  | _ => none }
def fnExactAboveCellsRow : OpenClaim := { program := "ythcmpalbhaefbaadoor", sum := "51fce48be87fd453fde45747046b4a4f2c8f30c88a00d0d4795c2369fcccff75", func := "loop.example/g01013/laws.FnExactAboveCells", spec := "fnExactAboveCells", unfollowed := true, recurses := true, named := ["loop.example/g01013/impl.aspectWays"], apart := false, laid := [("loop.example/g01013/impl.aspectWays", laid_loop_example_g01013_impl_aspectWays)] }
def FnExactAboveCellsSaid : Prop := fnExactAboveCellsRow.holds Tryd.pinned (OpenSpec.ofChange fnExactAboveCellsSpec)

/-- ITS FALSE NEIGHBOUR: 'it returns false'. Refute it at one input. -/
def fnExactAboveCellsWrong : ChangeSpec := { name := "fnExactAboveCells", vars := ["loop.example/g01013/impl.aspectWays"], fn := fun _ => fun
  | [d1, d2, g1] => { results := [.lit (.bool false)], args := [d1, d2], vars := [g1] }
  | _ => none }
def FnExactAboveCellsWrongFalsely : Prop := fnExactAboveCellsRow.holds Tryd.pinned (OpenSpec.ofChange fnExactAboveCellsWrong)

/- THE SECOND FORM. 'bulk': how many values and letters a reading holds, each counted each time it is reached (what is shared counts as often as it is met; a slice's spare places count too). A statement '..UptoSaid' is the law's where the arguments, and the package variables that the reading takes, are together of bulk at most 1048576: NARROWER than '..Said'. Prove '..Said' where nothing that the law and all that it calls make is longer than what came in: it says more and counts as full. Else prove '..UptoSaid'. A law counts once. -/
mutual
def uptoBulk {H : Type} : DataW H → Nat
  | .lit (.string bytes) => bytes.length + 1
  | .lit _ => 1
  | .nil => 1
  | .ptr d => uptoBulk d + 1
  | .slice elems spare => uptoBulkAll elems + uptoBulkAll spare + 1
  | .agg parts => uptoBulkAll parts + 1
  | .iface _ d => uptoBulk d + 1
  | .map entries => uptoBulkEntries entries + 1
  | .held _ => 1
def uptoBulkAll {H : Type} : List (DataW H) → Nat
  | [] => 0
  | d :: r => uptoBulk d + uptoBulkAll r
def uptoBulkEntries {H : Type} : List (Lit × DataW H) → Nat
  | [] => 0
  | x :: r => uptoBulkEntry x + uptoBulkEntries r
def uptoBulkEntry {H : Type} : Lit × DataW H → Nat
  | (.string bytes, d) => bytes.length + uptoBulk d + 1
  | (_, d) => uptoBulk d + 1
 end
def uptoSmall : (H : Type) → List (DataW H) → Bool := fun _ ds => decide (uptoBulkAll ds ≤ 1048576)
def OpenSpec.upto (s : _root_.Go.ChangeSpec) : _root_.Go.OpenSpec := { _root_.Go.OpenSpec.ofChange s with cond := some uptoSmall }

/-- 'laws.FnExactRouteStep', WHERE WHAT IT READS IS OF BULK AT MOST 1048576: true; the input reads as it did. -/
def fnExactRouteStepUptoRow : OpenClaim := { program := "ythcmpalbhaefbaadoor", sum := "51fce48be87fd453fde45747046b4a4f2c8f30c88a00d0d4795c2369fcccff75", func := "loop.example/g01013/laws.FnExactRouteStep", spec := "fnExactRouteStep", unfollowed := true, recurses := true, named := ["loop.example/g01013/impl.aspectWays"], apart := false, laid := [("loop.example/g01013/impl.aspectWays", laid_loop_example_g01013_impl_aspectWays)], narrowed := true }
def FnExactRouteStepUptoSaid : Prop := fnExactRouteStepUptoRow.holds Tryd.pinned (OpenSpec.upto fnExactRouteStepSpec)

/-- 'laws.FnExactNeighboursOf', WHERE WHAT IT READS IS OF BULK AT MOST 1048576: true; the input reads as it did. -/
def fnExactNeighboursOfUptoRow : OpenClaim := { program := "ythcmpalbhaefbaadoor", sum := "51fce48be87fd453fde45747046b4a4f2c8f30c88a00d0d4795c2369fcccff75", func := "loop.example/g01013/laws.FnExactNeighboursOf", spec := "fnExactNeighboursOf", unfollowed := true, recurses := true, named := ["loop.example/g01013/impl.aspectWays"], apart := false, laid := [("loop.example/g01013/impl.aspectWays", laid_loop_example_g01013_impl_aspectWays)], narrowed := true }
def FnExactNeighboursOfUptoSaid : Prop := fnExactNeighboursOfUptoRow.holds Tryd.pinned (OpenSpec.upto fnExactNeighboursOfSpec)

/-- 'laws.FnExactCurvatureAt', WHERE WHAT IT READS IS OF BULK AT MOST 1048576: true; the input reads as it did. -/
def fnExactCurvatureAtUptoRow : OpenClaim := { program := "ythcmpalbhaefbaadoor", sum := "51fce48be87fd453fde45747046b4a4f2c8f30c88a00d0d4795c2369fcccff75", func := "loop.example/g01013/laws.FnExactCurvatureAt", spec := "fnExactCurvatureAt", unfollowed := true, recurses := true, named := ["loop.example/g01013/impl.aspectWays"], apart := false, laid := [("loop.example/g01013/impl.aspectWays", laid_loop_example_g01013_impl_aspectWays)], narrowed := true }
def FnExactCurvatureAtUptoSaid : Prop := fnExactCurvatureAtUptoRow.holds Tryd.pinned (OpenSpec.upto fnExactCurvatureAtSpec)

/-- 'laws.FnExactDescentOf', WHERE WHAT IT READS IS OF BULK AT MOST 1048576: true; the input reads as it did. -/
def fnExactDescentOfUptoRow : OpenClaim := { program := "ythcmpalbhaefbaadoor", sum := "51fce48be87fd453fde45747046b4a4f2c8f30c88a00d0d4795c2369fcccff75", func := "loop.example/g01013/laws.FnExactDescentOf", spec := "fnExactDescentOf", unfollowed := true, recurses := true, named := ["loop.example/g01013/impl.aspectWays"], apart := false, laid := [("loop.example/g01013/impl.aspectWays", laid_loop_example_g01013_impl_aspectWays)], narrowed := true }
def FnExactDescentOfUptoSaid : Prop := fnExactDescentOfUptoRow.holds Tryd.pinned (OpenSpec.upto fnExactDescentOfSpec)

/-- 'laws.FnExactPeaksOf', WHERE WHAT IT READS IS OF BULK AT MOST 1048576: true; the input reads as it did. -/
def fnExactPeaksOfUptoRow : OpenClaim := { program := "ythcmpalbhaefbaadoor", sum := "51fce48be87fd453fde45747046b4a4f2c8f30c88a00d0d4795c2369fcccff75", func := "loop.example/g01013/laws.FnExactPeaksOf", spec := "fnExactPeaksOf", unfollowed := true, recurses := true, named := ["loop.example/g01013/impl.aspectWays"], apart := false, laid := [("loop.example/g01013/impl.aspectWays", laid_loop_example_g01013_impl_aspectWays)], narrowed := true }
def FnExactPeaksOfUptoSaid : Prop := fnExactPeaksOfUptoRow.holds Tryd.pinned (OpenSpec.upto fnExactPeaksOfSpec)

/-- 'laws.FnExactPitsOf', WHERE WHAT IT READS IS OF BULK AT MOST 1048576: true; the input reads as it did. -/
def fnExactPitsOfUptoRow : OpenClaim := { program := "ythcmpalbhaefbaadoor", sum := "51fce48be87fd453fde45747046b4a4f2c8f30c88a00d0d4795c2369fcccff75", func := "loop.example/g01013/laws.FnExactPitsOf", spec := "fnExactPitsOf", unfollowed := true, recurses := true, named := ["loop.example/g01013/impl.aspectWays"], apart := false, laid := [("loop.example/g01013/impl.aspectWays", laid_loop_example_g01013_impl_aspectWays)], narrowed := true }
def FnExactPitsOfUptoSaid : Prop := fnExactPitsOfUptoRow.holds Tryd.pinned (OpenSpec.upto fnExactPitsOfSpec)

/-- 'laws.FnExactBorderOf', WHERE WHAT IT READS IS OF BULK AT MOST 1048576: true; the input reads as it did. -/
def fnExactBorderOfUptoRow : OpenClaim := { program := "ythcmpalbhaefbaadoor", sum := "51fce48be87fd453fde45747046b4a4f2c8f30c88a00d0d4795c2369fcccff75", func := "loop.example/g01013/laws.FnExactBorderOf", spec := "fnExactBorderOf", unfollowed := true, recurses := true, named := ["loop.example/g01013/impl.aspectWays"], apart := false, laid := [("loop.example/g01013/impl.aspectWays", laid_loop_example_g01013_impl_aspectWays)], narrowed := true }
def FnExactBorderOfUptoSaid : Prop := fnExactBorderOfUptoRow.holds Tryd.pinned (OpenSpec.upto fnExactBorderOfSpec)

/-- 'laws.FnExactGrowCells', WHERE WHAT IT READS IS OF BULK AT MOST 1048576: true; the input reads as it did. -/
def fnExactGrowCellsUptoRow : OpenClaim := { program := "ythcmpalbhaefbaadoor", sum := "51fce48be87fd453fde45747046b4a4f2c8f30c88a00d0d4795c2369fcccff75", func := "loop.example/g01013/laws.FnExactGrowCells", spec := "fnExactGrowCells", unfollowed := true, recurses := true, named := ["loop.example/g01013/impl.aspectWays", "math/bits.deBruijn64tab"], apart := false, laid := [("math/bits.deBruijn64tab", laid_math_bits_deBruijn64tab), ("loop.example/g01013/impl.aspectWays", laid_loop_example_g01013_impl_aspectWays)], narrowed := true }
def FnExactGrowCellsUptoSaid : Prop := fnExactGrowCellsUptoRow.holds Tryd.pinned (OpenSpec.upto fnExactGrowCellsSpec)

/-- 'laws.FnExactAboveCells', WHERE WHAT IT READS IS OF BULK AT MOST 1048576: true; the input reads as it did. -/
def fnExactAboveCellsUptoRow : OpenClaim := { program := "ythcmpalbhaefbaadoor", sum := "51fce48be87fd453fde45747046b4a4f2c8f30c88a00d0d4795c2369fcccff75", func := "loop.example/g01013/laws.FnExactAboveCells", spec := "fnExactAboveCells", unfollowed := true, recurses := true, named := ["loop.example/g01013/impl.aspectWays"], apart := false, laid := [("loop.example/g01013/impl.aspectWays", laid_loop_example_g01013_impl_aspectWays)], narrowed := true }
def FnExactAboveCellsUptoSaid : Prop := fnExactAboveCellsUptoRow.holds Tryd.pinned (OpenSpec.upto fnExactAboveCellsSpec)

end Rows
end Go.Proofs.YthcmpalbhaefbaaDoor
