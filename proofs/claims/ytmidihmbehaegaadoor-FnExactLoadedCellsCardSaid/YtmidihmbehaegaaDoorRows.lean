/-
  NARROWER THAN 'FOR EVERY INPUT', by the rows' own cells (each row's printed sentence says how): FnExactDriftStep: laid · FnExactDriftRun: laid · FnExactDriftGain: laid · FnExactLoadedCells: laid · FnExactWorstWind: laid · FnExactSettledField: laid.
  DERIVED. THE GIVEN ROWS OF THIS SEAT. 6 by the template 'for every input the law returns true; each argument reads behind the call as it read before'; 0 by the template 'total and deterministic' (their statements: YtmidihmbehaegaaDoorTotals.lean).
  GIVEN WITH THE SEED: the statements are not yours to turn. If you find one false, say at which input.
  Laid BY PROGRAM, IN A SANDBOX (cutbox-rows.mjs): the forced cells as the released guide's own fill.sh prints them over the translation e3a71678ea59e41b… (all of the seat's roots in one cut). By AI agents, Wed Nov 11 2026. No macro, syntax, notation, axiom, sorry.
-/
import Derived.Test.YtmidihmbehaegaaDoorChecked
import GoSem.Claim
import GoSem.ClaimJoined
import GoSem.ClaimMapViews
import Derived.JoinedTies
import Derived.KernelRfl
namespace Go.Proofs.YtmidihmbehaegaaDoor
/- THE CELL 'sum', in the pinned program and in every row, IS THE sha256 OF THE DUMP (.gsa) THAT YtmidihmbehaegaaDoorProg.lean LOADS. Nothing in Lean hashes anything: it is a label: what it is worth is what the hold of that sum in a sandbox is worth. -/
noncomputable def Tryd.pinned : Pinned := { name := "ytmidihmbehaegaadoor", sum := "e3a71678ea59e41beca3ef4e293212013a06278d759e78b3473860ea2dadafb0", checked := Tryd.checked }
namespace Rows
def none {H : Type} : Left H := { results := [], args := [] }

/- WHAT THE LISTED PACKAGE-LEVEL VARIABLES READ AS WHEN THE CALL BEGINS. Each datum BY PROGRAM (the guide's laid-datum.mjs) off the statement by which the dump's own 'gosem.cut.vars' lays the variable. In a bare row this is a premise. The card (YtmidihmbehaegaaDoorCards.lean) ties it to the program's text. -/
def laid_loop_example_g01013_impl_leeWays {H : Type} : DataW H := .agg [.agg [.lit (.int .i64 1), .lit (.int .i64 0)], .agg [.lit (.int .i64 0), .lit (.int .i64 (-1))], .agg [.lit (.int .i64 (-1)), .lit (.int .i64 0)], .agg [.lit (.int .i64 0), .lit (.int .i64 1)]]

/-- 'laws.FnExactDriftStep': WHATEVER THE INPUT: true; the input reads as it did. -/
def fnExactDriftStepSpec : ChangeSpec := { name := "fnExactDriftStep", vars := ["loop.example/g01013/impl.leeWays"], fn := fun _ => fun
  | [d1, d2, d3, g1] => { results := [.lit (.bool true)], args := [d1, d2, d3], vars := [g1] }
  | _ => none }
def fnExactDriftStepRow : OpenClaim := { program := "ytmidihmbehaegaadoor", sum := "e3a71678ea59e41beca3ef4e293212013a06278d759e78b3473860ea2dadafb0", func := "loop.example/g01013/laws.FnExactDriftStep", spec := "fnExactDriftStep", unfollowed := true, recurses := true, named := ["loop.example/g01013/impl.leeWays"], apart := false, laid := [("loop.example/g01013/impl.leeWays", laid_loop_example_g01013_impl_leeWays)] }
def FnExactDriftStepSaid : Prop := fnExactDriftStepRow.holds Tryd.pinned (OpenSpec.ofChange fnExactDriftStepSpec)

/-- ITS FALSE NEIGHBOUR: 'it returns false'. Refute it at one input. -/
def fnExactDriftStepWrong : ChangeSpec := { name := "fnExactDriftStep", vars := ["loop.example/g01013/impl.leeWays"], fn := fun _ => fun
  | [d1, d2, d3, g1] => { results := [.lit (.bool false)], args := [d1, d2, d3], vars := [g1] }
  | _ => none }
def FnExactDriftStepWrongFalsely : Prop := fnExactDriftStepRow.holds Tryd.pinned (OpenSpec.ofChange fnExactDriftStepWrong)

/-- 'laws.FnExactDriftRun': WHATEVER THE INPUT: true; the input reads as it did. -/
def fnExactDriftRunSpec : ChangeSpec := { name := "fnExactDriftRun", vars := ["loop.example/g01013/impl.leeWays"], fn := fun _ => fun
  | [d1, d2, d3, g1] => { results := [.lit (.bool true)], args := [d1, d2, d3], vars := [g1] }
  | _ => none }
def fnExactDriftRunRow : OpenClaim := { program := "ytmidihmbehaegaadoor", sum := "e3a71678ea59e41beca3ef4e293212013a06278d759e78b3473860ea2dadafb0", func := "loop.example/g01013/laws.FnExactDriftRun", spec := "fnExactDriftRun", unfollowed := true, recurses := true, named := ["loop.example/g01013/impl.leeWays"], apart := false, laid := [("loop.example/g01013/impl.leeWays", laid_loop_example_g01013_impl_leeWays)] }
def FnExactDriftRunSaid : Prop := fnExactDriftRunRow.holds Tryd.pinned (OpenSpec.ofChange fnExactDriftRunSpec)

/-- ITS FALSE NEIGHBOUR: 'it returns false'. Refute it at one input. -/
def fnExactDriftRunWrong : ChangeSpec := { name := "fnExactDriftRun", vars := ["loop.example/g01013/impl.leeWays"], fn := fun _ => fun
  | [d1, d2, d3, g1] => { results := [.lit (.bool false)], args := [d1, d2, d3], vars := [g1] }
  | _ => none }
def FnExactDriftRunWrongFalsely : Prop := fnExactDriftRunRow.holds Tryd.pinned (OpenSpec.ofChange fnExactDriftRunWrong)

/-- 'laws.FnExactDriftGain': WHATEVER THE INPUT: true; the input reads as it did. -/
def fnExactDriftGainSpec : ChangeSpec := { name := "fnExactDriftGain", vars := ["loop.example/g01013/impl.leeWays"], fn := fun _ => fun
  | [d1, d2, d3, g1] => { results := [.lit (.bool true)], args := [d1, d2, d3], vars := [g1] }
  | _ => none }
def fnExactDriftGainRow : OpenClaim := { program := "ytmidihmbehaegaadoor", sum := "e3a71678ea59e41beca3ef4e293212013a06278d759e78b3473860ea2dadafb0", func := "loop.example/g01013/laws.FnExactDriftGain", spec := "fnExactDriftGain", unfollowed := true, recurses := true, named := ["loop.example/g01013/impl.leeWays"], apart := false, laid := [("loop.example/g01013/impl.leeWays", laid_loop_example_g01013_impl_leeWays)] }
def FnExactDriftGainSaid : Prop := fnExactDriftGainRow.holds Tryd.pinned (OpenSpec.ofChange fnExactDriftGainSpec)

/-- ITS FALSE NEIGHBOUR: 'it returns false'. Refute it at one input. -/
def fnExactDriftGainWrong : ChangeSpec := { name := "fnExactDriftGain", vars := ["loop.example/g01013/impl.leeWays"], fn := fun _ => fun
  | [d1, d2, d3, g1] => { results := [.lit (.bool false)], args := [d1, d2, d3], vars := [g1] }
  | _ => none }
def FnExactDriftGainWrongFalsely : Prop := fnExactDriftGainRow.holds Tryd.pinned (OpenSpec.ofChange fnExactDriftGainWrong)

/-- 'laws.FnExactLoadedCells': WHATEVER THE INPUT: true; the input reads as it did. -/
def fnExactLoadedCellsSpec : ChangeSpec := { name := "fnExactLoadedCells", vars := ["loop.example/g01013/impl.leeWays"], fn := fun _ => fun
  | [d1, d2, d3, d4, g1] => { results := [.lit (.bool true)], args := [d1, d2, d3, d4], vars := [g1] }
  | _ => none }
def fnExactLoadedCellsRow : OpenClaim := { program := "ytmidihmbehaegaadoor", sum := "e3a71678ea59e41beca3ef4e293212013a06278d759e78b3473860ea2dadafb0", func := "loop.example/g01013/laws.FnExactLoadedCells", spec := "fnExactLoadedCells", unfollowed := true, recurses := true, named := ["loop.example/g01013/impl.leeWays"], apart := false, laid := [("loop.example/g01013/impl.leeWays", laid_loop_example_g01013_impl_leeWays)] }
def FnExactLoadedCellsSaid : Prop := fnExactLoadedCellsRow.holds Tryd.pinned (OpenSpec.ofChange fnExactLoadedCellsSpec)

/-- ITS FALSE NEIGHBOUR: 'it returns false'. Refute it at one input. -/
def fnExactLoadedCellsWrong : ChangeSpec := { name := "fnExactLoadedCells", vars := ["loop.example/g01013/impl.leeWays"], fn := fun _ => fun
  | [d1, d2, d3, d4, g1] => { results := [.lit (.bool false)], args := [d1, d2, d3, d4], vars := [g1] }
  | _ => none }
def FnExactLoadedCellsWrongFalsely : Prop := fnExactLoadedCellsRow.holds Tryd.pinned (OpenSpec.ofChange fnExactLoadedCellsWrong)

/-- 'laws.FnExactWorstWind': WHATEVER THE INPUT: true; the input reads as it did. -/
def fnExactWorstWindSpec : ChangeSpec := { name := "fnExactWorstWind", vars := ["loop.example/g01013/impl.leeWays"], fn := fun _ => fun
  | [d1, d2, d3, g1] => { results := [.lit (.bool true)], args := [d1, d2, d3], vars := [g1] }
  | _ => none }
def fnExactWorstWindRow : OpenClaim := { program := "ytmidihmbehaegaadoor", sum := "e3a71678ea59e41beca3ef4e293212013a06278d759e78b3473860ea2dadafb0", func := "loop.example/g01013/laws.FnExactWorstWind", spec := "fnExactWorstWind", unfollowed := true, recurses := true, named := ["loop.example/g01013/impl.leeWays"], apart := false, laid := [("loop.example/g01013/impl.leeWays", laid_loop_example_g01013_impl_leeWays)] }
def FnExactWorstWindSaid : Prop := fnExactWorstWindRow.holds Tryd.pinned (OpenSpec.ofChange fnExactWorstWindSpec)

/-- ITS FALSE NEIGHBOUR: 'it returns false'. Refute it at one input. -/
def fnExactWorstWindWrong : ChangeSpec := { name := "fnExactWorstWind", vars := ["loop.example/g01013/impl.leeWays"], fn := fun _ => fun
  | [d1, d2, d3, g1] => { results := [.lit (.bool false)], args := [d1, d2, d3], vars := [g1] }
  | _ => none }
def FnExactWorstWindWrongFalsely : Prop := fnExactWorstWindRow.holds Tryd.pinned (OpenSpec.ofChange fnExactWorstWindWrong)

/-- 'laws.FnExactSettledField': WHATEVER THE INPUT: true; the input reads as it did. -/
def fnExactSettledFieldSpec : ChangeSpec := { name := "fnExactSettledField", vars := ["loop.example/g01013/impl.leeWays"], fn := fun _ => fun
  | [d1, d2, d3, g1] => { results := [.lit (.bool true)], args := [d1, d2, d3], vars := [g1] }
  | _ => none }
def fnExactSettledFieldRow : OpenClaim := { program := "ytmidihmbehaegaadoor", sum := "e3a71678ea59e41beca3ef4e293212013a06278d759e78b3473860ea2dadafb0", func := "loop.example/g01013/laws.FnExactSettledField", spec := "fnExactSettledField", unfollowed := true, recurses := true, named := ["loop.example/g01013/impl.leeWays"], apart := false, laid := [("loop.example/g01013/impl.leeWays", laid_loop_example_g01013_impl_leeWays)] }
def FnExactSettledFieldSaid : Prop := fnExactSettledFieldRow.holds Tryd.pinned (OpenSpec.ofChange fnExactSettledFieldSpec)

/-- ITS FALSE NEIGHBOUR: 'it returns false'. Refute it at one input. -/
def fnExactSettledFieldWrong : ChangeSpec := { name := "fnExactSettledField", vars := ["loop.example/g01013/impl.leeWays"], fn := fun _ => fun
  | [d1, d2, d3, g1] => { results := [.lit (.bool false)], args := [d1, d2, d3], vars := [g1] }
  | _ => none }
def FnExactSettledFieldWrongFalsely : Prop := fnExactSettledFieldRow.holds Tryd.pinned (OpenSpec.ofChange fnExactSettledFieldWrong)

/- THE SECOND FORM. 'bulk': how many values and letters a reading holds, each counted each time it is reached (what is shared counts as often as it is met; a slice's spare places count too). A statement '..UptoSaid' is the law's where the arguments, and the package variables that the reading takes, are together of bulk at most 1048576: NARROWER than '..Said'. Prove '..Said' where nothing that the law and all that it calls make is longer than what came in: it says more and counts as full. Else prove '..UptoSaid'. A law counts once. -/
mutual
def uptoBulk {H : Type} : DataW H → Nat
  | .lit (.string bytes) => bytes.length + 1
  | .lit _ => 1
  | .nil => 1
  | .ptr d => uptoBulk d + 1
  | .slice elems spare => uptoBulkAll elems + uptoBulkAll spare + 1
  | .agg parts => uptoBulkAll parts + 1
  | .iface _ d => uptoBulk d + 1
  | .map entries => uptoBulkEntries entries + 1
  | .held _ => 1
def uptoBulkAll {H : Type} : List (DataW H) → Nat
  | [] => 0
  | d :: r => uptoBulk d + uptoBulkAll r
def uptoBulkEntries {H : Type} : List (Lit × DataW H) → Nat
  | [] => 0
  | x :: r => uptoBulkEntry x + uptoBulkEntries r
def uptoBulkEntry {H : Type} : Lit × DataW H → Nat
  | (.string bytes, d) => bytes.length + uptoBulk d + 1
  | (_, d) => uptoBulk d + 1
 end
def uptoSmall : (H : Type) → List (DataW H) → Bool := fun _ ds => decide (uptoBulkAll ds ≤ 1048576)
def OpenSpec.upto (s : _root_.Go.ChangeSpec) : _root_.Go.OpenSpec := { _root_.Go.OpenSpec.ofChange s with cond := some uptoSmall }

/-- 'laws.FnExactDriftStep', WHERE WHAT IT READS IS OF BULK AT MOST 1048576: true; the input reads as it did. -/
def fnExactDriftStepUptoRow : OpenClaim := { program := "ytmidihmbehaegaadoor", sum := "e3a71678ea59e41beca3ef4e293212013a06278d759e78b3473860ea2dadafb0", func := "loop.example/g01013/laws.FnExactDriftStep", spec := "fnExactDriftStep", unfollowed := true, recurses := true, named := ["loop.example/g01013/impl.leeWays"], apart := false, laid := [("loop.example/g01013/impl.leeWays", laid_loop_example_g01013_impl_leeWays)], narrowed := true }
def FnExactDriftStepUptoSaid : Prop := fnExactDriftStepUptoRow.holds Tryd.pinned (OpenSpec.upto fnExactDriftStepSpec)

/-- 'laws.FnExactDriftRun', WHERE WHAT IT READS IS OF BULK AT MOST 1048576: true; the input reads as it did. -/
def fnExactDriftRunUptoRow : OpenClaim := { program := "ytmidihmbehaegaadoor", sum := "e3a71678ea59e41beca3ef4e293212013a06278d759e78b3473860ea2dadafb0", func := "loop.example/g01013/laws.FnExactDriftRun", spec := "fnExactDriftRun", unfollowed := true, recurses := true, named := ["loop.example/g01013/impl.leeWays"], apart := false, laid := [("loop.example/g01013/impl.leeWays", laid_loop_example_g01013_impl_leeWays)], narrowed := true }
def FnExactDriftRunUptoSaid : Prop := fnExactDriftRunUptoRow.holds Tryd.pinned (OpenSpec.upto fnExactDriftRunSpec)

/-- 'laws.FnExactDriftGain', WHERE WHAT IT READS IS OF BULK AT MOST 1048576: true; the input reads as it did. -/
def fnExactDriftGainUptoRow : OpenClaim := { program := "ytmidihmbehaegaadoor", sum := "e3a71678ea59e41beca3ef4e293212013a06278d759e78b3473860ea2dadafb0", func := "loop.example/g01013/laws.FnExactDriftGain", spec := "fnExactDriftGain", unfollowed := true, recurses := true, named := ["loop.example/g01013/impl.leeWays"], apart := false, laid := [("loop.example/g01013/impl.leeWays", laid_loop_example_g01013_impl_leeWays)], narrowed := true }
def FnExactDriftGainUptoSaid : Prop := fnExactDriftGainUptoRow.holds Tryd.pinned (OpenSpec.upto fnExactDriftGainSpec)

/-- 'laws.FnExactLoadedCells', WHERE WHAT IT READS IS OF BULK AT MOST 1048576: true; the input reads as it did. -/
def fnExactLoadedCellsUptoRow : OpenClaim := { program := "ytmidihmbehaegaadoor", sum := "e3a71678ea59e41beca3ef4e293212013a06278d759e78b3473860ea2dadafb0", func := "loop.example/g01013/laws.FnExactLoadedCells", spec := "fnExactLoadedCells", unfollowed := true, recurses := true, named := ["loop.example/g01013/impl.leeWays"], apart := false, laid := [("loop.example/g01013/impl.leeWays", laid_loop_example_g01013_impl_leeWays)], narrowed := true }
def FnExactLoadedCellsUptoSaid : Prop := fnExactLoadedCellsUptoRow.holds Tryd.pinned (OpenSpec.upto fnExactLoadedCellsSpec)

/-- 'laws.FnExactWorstWind', WHERE WHAT IT READS IS OF BULK AT MOST 1048576: true; the input reads as it did. -/
def fnExactWorstWindUptoRow : OpenClaim := { program := "ytmidihmbehaegaadoor", sum := "e3a71678ea59e41beca3ef4e293212013a06278d759e78b3473860ea2dadafb0", func := "loop.example/g01013/laws.FnExactWorstWind", spec := "fnExactWorstWind", unfollowed := true, recurses := true, named := ["loop.example/g01013/impl.leeWays"], apart := false, laid := [("loop.example/g01013/impl.leeWays", laid_loop_example_g01013_impl_leeWays)], narrowed := true }
def FnExactWorstWindUptoSaid : Prop := fnExactWorstWindUptoRow.holds Tryd.pinned (OpenSpec.upto fnExactWorstWindSpec)

/-- 'laws.FnExactSettledField', WHERE WHAT IT READS IS OF BULK AT MOST 1048576: true; the input reads as it did. -/
def fnExactSettledFieldUptoRow : OpenClaim := { program := "ytmidihmbehaegaadoor", sum := "e3a71678ea59e41beca3ef4e293212013a06278d759e78b3473860ea2dadafb0", func := "loop.example/g01013/laws.FnExactSettledField", spec := "fnExactSettledField", unfollowed := true, recurses := true, named := ["loop.example/g01013/impl.leeWays"], apart := false, laid := [("loop.example/g01013/impl.leeWays", laid_loop_example_g01013_impl_leeWays)], narrowed := true }
def FnExactSettledFieldUptoSaid : Prop := fnExactSettledFieldUptoRow.holds Tryd.pinned (OpenSpec.upto fnExactSettledFieldSpec)

end Rows
end Go.Proofs.YtmidihmbehaegaaDoor
