/-
  No cell of these rows narrows 'for every input' (looked for: loops, veiled, ifaces, maps, wideKeys, modest, calm, conditions, laid).
  DERIVED. THE GIVEN ROWS OF THIS SEAT. 10 by the template 'for every input the law returns true; each argument reads behind the call as it read before'; 0 by the template 'total and deterministic' (their statements: YtecobplmkdlagaaTotals.lean).
  GIVEN WITH THE SEED: the statements are not yours to turn. If you find one false, say at which input.
  Laid BY PROGRAM, IN A SANDBOX (cutbox-rows.mjs): the forced cells as the released guide's own fill.sh prints them over the translation e1b51be8a123d163… (all of the seat's roots in one cut). By AI agents, Wed Nov 11 2026. No macro, syntax, notation, axiom, sorry.
-/
import Derived.Test.YtecobplmkdlagaaChecked
import GoSem.Claim
import GoSem.ClaimJoined
import GoSem.ClaimMapViews
import Derived.JoinedTies
import Derived.KernelRfl
namespace Go.Proofs.Ytecobplmkdlagaa
/- THE CELL 'sum', in the pinned program and in every row, IS THE sha256 OF THE DUMP (.gsa) THAT YtecobplmkdlagaaProg.lean LOADS. Nothing in Lean hashes anything: it is a label: what it is worth is what the hold of that sum in a sandbox is worth. -/
noncomputable def Try.pinned : Pinned := { name := "ytecobplmkdlagaa", sum := "e1b51be8a123d163082ebfb9f6f5c2102d54df9d68e97099c81ed2e6d2602bbc", checked := Try.checked }
namespace Rows
def none {H : Type} : Left H := { results := [], args := [] }

/-- 'laws.FnExactValidStands': WHATEVER THE INPUT: true; the input reads as it did. -/
def fnExactValidStandsSpec : ChangeSpec := { name := "fnExactValidStands", fn := fun _ => fun
  | [d] => { results := [.lit (.bool true)], args := [d] }
  | _ => none }
def fnExactValidStandsRow : OpenClaim := { program := "ytecobplmkdlagaa", sum := "e1b51be8a123d163082ebfb9f6f5c2102d54df9d68e97099c81ed2e6d2602bbc", func := "loop.example/g01013/laws.FnExactValidStands", spec := "fnExactValidStands", unfollowed := true, recurses := true, apart := false }
def FnExactValidStandsSaid : Prop := fnExactValidStandsRow.holds Try.pinned (OpenSpec.ofChange fnExactValidStandsSpec)

/-- ITS FALSE NEIGHBOUR: 'it returns false'. Refute it at one input. -/
def fnExactValidStandsWrong : ChangeSpec := { name := "fnExactValidStands", fn := fun _ => fun
  | [d] => { results := [.lit (.bool false)], args := [d] }
  | _ => none }
def FnExactValidStandsWrongFalsely : Prop := fnExactValidStandsRow.holds Try.pinned (OpenSpec.ofChange fnExactValidStandsWrong)

/-- 'laws.FnExactProtectionOf': WHATEVER THE INPUT: true; the input reads as it did. -/
def fnExactProtectionOfSpec : ChangeSpec := { name := "fnExactProtectionOf", fn := fun _ => fun
  | [d1, d2] => { results := [.lit (.bool true)], args := [d1, d2] }
  | _ => none }
def fnExactProtectionOfRow : OpenClaim := { program := "ytecobplmkdlagaa", sum := "e1b51be8a123d163082ebfb9f6f5c2102d54df9d68e97099c81ed2e6d2602bbc", func := "loop.example/g01013/laws.FnExactProtectionOf", spec := "fnExactProtectionOf", apart := false }
def FnExactProtectionOfSaid : Prop := fnExactProtectionOfRow.holds Try.pinned (OpenSpec.ofChange fnExactProtectionOfSpec)

/-- ITS FALSE NEIGHBOUR: 'it returns false'. Refute it at one input. -/
def fnExactProtectionOfWrong : ChangeSpec := { name := "fnExactProtectionOf", fn := fun _ => fun
  | [d1, d2] => { results := [.lit (.bool false)], args := [d1, d2] }
  | _ => none }
def FnExactProtectionOfWrongFalsely : Prop := fnExactProtectionOfRow.holds Try.pinned (OpenSpec.ofChange fnExactProtectionOfWrong)

/-- 'laws.FnExactProtectedStands': WHATEVER THE INPUT: true; the input reads as it did. -/
def fnExactProtectedStandsSpec : ChangeSpec := { name := "fnExactProtectedStands", fn := fun _ => fun
  | [d1, d2, d3] => { results := [.lit (.bool true)], args := [d1, d2, d3] }
  | _ => none }
def fnExactProtectedStandsRow : OpenClaim := { program := "ytecobplmkdlagaa", sum := "e1b51be8a123d163082ebfb9f6f5c2102d54df9d68e97099c81ed2e6d2602bbc", func := "loop.example/g01013/laws.FnExactProtectedStands", spec := "fnExactProtectedStands", unfollowed := true, recurses := true, apart := false }
def FnExactProtectedStandsSaid : Prop := fnExactProtectedStandsRow.holds Try.pinned (OpenSpec.ofChange fnExactProtectedStandsSpec)

/-- ITS FALSE NEIGHBOUR: 'it returns false'. Refute it at one input. -/
def fnExactProtectedStandsWrong : ChangeSpec := { name := "fnExactProtectedStands", fn := fun _ => fun
  | [d1, d2, d3] => { results := [.lit (.bool false)], args := [d1, d2, d3] }
  | _ => none }
def FnExactProtectedStandsWrongFalsely : Prop := fnExactProtectedStandsRow.holds Try.pinned (OpenSpec.ofChange fnExactProtectedStandsWrong)

/-- 'laws.FnExactWeakestStand': WHATEVER THE INPUT: true; the input reads as it did. -/
def fnExactWeakestStandSpec : ChangeSpec := { name := "fnExactWeakestStand", fn := fun _ => fun
  | [d1, d2] => { results := [.lit (.bool true)], args := [d1, d2] }
  | _ => none }
def fnExactWeakestStandRow : OpenClaim := { program := "ytecobplmkdlagaa", sum := "e1b51be8a123d163082ebfb9f6f5c2102d54df9d68e97099c81ed2e6d2602bbc", func := "loop.example/g01013/laws.FnExactWeakestStand", spec := "fnExactWeakestStand", unfollowed := true, recurses := true, apart := false }
def FnExactWeakestStandSaid : Prop := fnExactWeakestStandRow.holds Try.pinned (OpenSpec.ofChange fnExactWeakestStandSpec)

/-- ITS FALSE NEIGHBOUR: 'it returns false'. Refute it at one input. -/
def fnExactWeakestStandWrong : ChangeSpec := { name := "fnExactWeakestStand", fn := fun _ => fun
  | [d1, d2] => { results := [.lit (.bool false)], args := [d1, d2] }
  | _ => none }
def FnExactWeakestStandWrongFalsely : Prop := fnExactWeakestStandRow.holds Try.pinned (OpenSpec.ofChange fnExactWeakestStandWrong)

/-- 'laws.FnExactMostSnow': WHATEVER THE INPUT: true; the input reads as it did. -/
def fnExactMostSnowSpec : ChangeSpec := { name := "fnExactMostSnow", fn := fun _ => fun
  | [d1, d2] => { results := [.lit (.bool true)], args := [d1, d2] }
  | _ => none }
def fnExactMostSnowRow : OpenClaim := { program := "ytecobplmkdlagaa", sum := "e1b51be8a123d163082ebfb9f6f5c2102d54df9d68e97099c81ed2e6d2602bbc", func := "loop.example/g01013/laws.FnExactMostSnow", spec := "fnExactMostSnow", unfollowed := true, recurses := true, apart := false }
def FnExactMostSnowSaid : Prop := fnExactMostSnowRow.holds Try.pinned (OpenSpec.ofChange fnExactMostSnowSpec)

/-- ITS FALSE NEIGHBOUR: 'it returns false'. Refute it at one input. -/
def fnExactMostSnowWrong : ChangeSpec := { name := "fnExactMostSnow", fn := fun _ => fun
  | [d1, d2] => { results := [.lit (.bool false)], args := [d1, d2] }
  | _ => none }
def FnExactMostSnowWrongFalsely : Prop := fnExactMostSnowRow.holds Try.pinned (OpenSpec.ofChange fnExactMostSnowWrong)

/-- 'laws.FnExactGrowStand': WHATEVER THE INPUT: true; the input reads as it did. -/
def fnExactGrowStandSpec : ChangeSpec := { name := "fnExactGrowStand", fn := fun _ => fun
  | [d1, d2] => { results := [.lit (.bool true)], args := [d1, d2] }
  | _ => none }
def fnExactGrowStandRow : OpenClaim := { program := "ytecobplmkdlagaa", sum := "e1b51be8a123d163082ebfb9f6f5c2102d54df9d68e97099c81ed2e6d2602bbc", func := "loop.example/g01013/laws.FnExactGrowStand", spec := "fnExactGrowStand", apart := false }
def FnExactGrowStandSaid : Prop := fnExactGrowStandRow.holds Try.pinned (OpenSpec.ofChange fnExactGrowStandSpec)

/-- ITS FALSE NEIGHBOUR: 'it returns false'. Refute it at one input. -/
def fnExactGrowStandWrong : ChangeSpec := { name := "fnExactGrowStand", fn := fun _ => fun
  | [d1, d2] => { results := [.lit (.bool false)], args := [d1, d2] }
  | _ => none }
def FnExactGrowStandWrongFalsely : Prop := fnExactGrowStandRow.holds Try.pinned (OpenSpec.ofChange fnExactGrowStandWrong)

/-- 'laws.FnExactYearsUntil': WHATEVER THE INPUT: true; the input reads as it did. -/
def fnExactYearsUntilSpec : ChangeSpec := { name := "fnExactYearsUntil", fn := fun _ => fun
  | [d1, d2, d3] => { results := [.lit (.bool true)], args := [d1, d2, d3] }
  | _ => none }
def fnExactYearsUntilRow : OpenClaim := { program := "ytecobplmkdlagaa", sum := "e1b51be8a123d163082ebfb9f6f5c2102d54df9d68e97099c81ed2e6d2602bbc", func := "loop.example/g01013/laws.FnExactYearsUntil", spec := "fnExactYearsUntil", apart := false }
def FnExactYearsUntilSaid : Prop := fnExactYearsUntilRow.holds Try.pinned (OpenSpec.ofChange fnExactYearsUntilSpec)

/-- ITS FALSE NEIGHBOUR: 'it returns false'. Refute it at one input. -/
def fnExactYearsUntilWrong : ChangeSpec := { name := "fnExactYearsUntil", fn := fun _ => fun
  | [d1, d2, d3] => { results := [.lit (.bool false)], args := [d1, d2, d3] }
  | _ => none }
def FnExactYearsUntilWrongFalsely : Prop := fnExactYearsUntilRow.holds Try.pinned (OpenSpec.ofChange fnExactYearsUntilWrong)

/-- 'laws.FnExactFellTrees': WHATEVER THE INPUT: true; the input reads as it did. -/
def fnExactFellTreesSpec : ChangeSpec := { name := "fnExactFellTrees", fn := fun _ => fun
  | [d1, d2] => { results := [.lit (.bool true)], args := [d1, d2] }
  | _ => none }
def fnExactFellTreesRow : OpenClaim := { program := "ytecobplmkdlagaa", sum := "e1b51be8a123d163082ebfb9f6f5c2102d54df9d68e97099c81ed2e6d2602bbc", func := "loop.example/g01013/laws.FnExactFellTrees", spec := "fnExactFellTrees", apart := false }
def FnExactFellTreesSaid : Prop := fnExactFellTreesRow.holds Try.pinned (OpenSpec.ofChange fnExactFellTreesSpec)

/-- ITS FALSE NEIGHBOUR: 'it returns false'. Refute it at one input. -/
def fnExactFellTreesWrong : ChangeSpec := { name := "fnExactFellTrees", fn := fun _ => fun
  | [d1, d2] => { results := [.lit (.bool false)], args := [d1, d2] }
  | _ => none }
def FnExactFellTreesWrongFalsely : Prop := fnExactFellTreesRow.holds Try.pinned (OpenSpec.ofChange fnExactFellTreesWrong)

/-- 'laws.FnExactMostFelled': WHATEVER THE INPUT: true; the input reads as it did. -/
def fnExactMostFelledSpec : ChangeSpec := { name := "fnExactMostFelled", fn := fun _ => fun
  | [d1, d2, d3] => { results := [.lit (.bool true)], args := [d1, d2, d3] }
  | _ => none }
def fnExactMostFelledRow : OpenClaim := { program := "ytecobplmkdlagaa", sum := "e1b51be8a123d163082ebfb9f6f5c2102d54df9d68e97099c81ed2e6d2602bbc", func := "loop.example/g01013/laws.FnExactMostFelled", spec := "fnExactMostFelled", unfollowed := true, recurses := true, apart := false }
def FnExactMostFelledSaid : Prop := fnExactMostFelledRow.holds Try.pinned (OpenSpec.ofChange fnExactMostFelledSpec)

/-- ITS FALSE NEIGHBOUR: 'it returns false'. Refute it at one input. -/
def fnExactMostFelledWrong : ChangeSpec := { name := "fnExactMostFelled", fn := fun _ => fun
  | [d1, d2, d3] => { results := [.lit (.bool false)], args := [d1, d2, d3] }
  | _ => none }
def FnExactMostFelledWrongFalsely : Prop := fnExactMostFelledRow.holds Try.pinned (OpenSpec.ofChange fnExactMostFelledWrong)

/-- 'laws.FnForest': WHATEVER THE INPUT: true; the input reads as it did. -/
def fnForestSpec : ChangeSpec := { name := "fnForest", fn := fun _ => fun
  | [d1, d2] => { results := [.lit (.bool true)], args := [d1, d2] }
  | _ => none }
def fnForestRow : OpenClaim := { program := "ytecobplmkdlagaa", sum := "e1b51be8a123d163082ebfb9f6f5c2102d54df9d68e97099c81ed2e6d2602bbc", func := "loop.example/g01013/laws.FnForest", spec := "fnForest", unfollowed := true, recurses := true, apart := false }
def FnForestSaid : Prop := fnForestRow.holds Try.pinned (OpenSpec.ofChange fnForestSpec)

/-- ITS FALSE NEIGHBOUR: 'it returns false'. Refute it at one input. -/
def fnForestWrong : ChangeSpec := { name := "fnForest", fn := fun _ => fun
  | [d1, d2] => { results := [.lit (.bool false)], args := [d1, d2] }
  | _ => none }
def FnForestWrongFalsely : Prop := fnForestRow.holds Try.pinned (OpenSpec.ofChange fnForestWrong)

/- THE SECOND FORM. 'bulk': how many values and letters a reading holds, each counted each time it is reached (what is shared counts as often as it is met; a slice's spare places count too). A statement '..UptoSaid' is the law's where the arguments, and the package variables that the reading takes, are together of bulk at most 1048576: NARROWER than '..Said'. Prove '..Said' where nothing that the law and all that it calls make is longer than what came in: it says more and counts as full. Else prove '..UptoSaid'. A law counts once. -/
mutual
def uptoBulk {H : Type} : DataW H → Nat
  | .lit (.string bytes) => bytes.length + 1
  | .lit _ => 1
  | .nil => 1
  | .ptr d => uptoBulk d + 1
  | .slice elems spare => uptoBulkAll elems + uptoBulkAll spare + 1
  | .agg parts => uptoBulkAll parts + 1
  | .iface _ d => uptoBulk d + 1
  | .map entries => uptoBulkEntries entries + 1
  | .held _ => 1
def uptoBulkAll {H : Type} : List (DataW H) → Nat
  | [] => 0
  | d :: r => uptoBulk d + uptoBulkAll r
def uptoBulkEntries {H : Type} : List (Lit × DataW H) → Nat
  | [] => 0
  | x :: r => uptoBulkEntry x + uptoBulkEntries r
def uptoBulkEntry {H : Type} : Lit × DataW H → Nat
  | (.string bytes, d) => bytes.length + uptoBulk d + 1
  | (_, d) => uptoBulk d + 1
 end
def uptoSmall : (H : Type) → List (DataW H) → Bool := fun _ ds => decide (uptoBulkAll ds ≤ 1048576)
def OpenSpec.upto (s : _root_.Go.ChangeSpec) : _root_.Go.OpenSpec := { _root_.Go.OpenSpec.ofChange s with cond := some uptoSmall }

/-- 'laws.FnExactValidStands', WHERE WHAT IT READS IS OF BULK AT MOST 1048576: true; the input reads as it did. -/
def fnExactValidStandsUptoRow : OpenClaim := { program := "ytecobplmkdlagaa", sum := "e1b51be8a123d163082ebfb9f6f5c2102d54df9d68e97099c81ed2e6d2602bbc", func := "loop.example/g01013/laws.FnExactValidStands", spec := "fnExactValidStands", unfollowed := true, recurses := true, apart := false, narrowed := true }
def FnExactValidStandsUptoSaid : Prop := fnExactValidStandsUptoRow.holds Try.pinned (OpenSpec.upto fnExactValidStandsSpec)

/-- 'laws.FnExactProtectionOf', WHERE WHAT IT READS IS OF BULK AT MOST 1048576: true; the input reads as it did. -/
def fnExactProtectionOfUptoRow : OpenClaim := { program := "ytecobplmkdlagaa", sum := "e1b51be8a123d163082ebfb9f6f5c2102d54df9d68e97099c81ed2e6d2602bbc", func := "loop.example/g01013/laws.FnExactProtectionOf", spec := "fnExactProtectionOf", apart := false, narrowed := true }
def FnExactProtectionOfUptoSaid : Prop := fnExactProtectionOfUptoRow.holds Try.pinned (OpenSpec.upto fnExactProtectionOfSpec)

/-- 'laws.FnExactProtectedStands', WHERE WHAT IT READS IS OF BULK AT MOST 1048576: true; the input reads as it did. -/
def fnExactProtectedStandsUptoRow : OpenClaim := { program := "ytecobplmkdlagaa", sum := "e1b51be8a123d163082ebfb9f6f5c2102d54df9d68e97099c81ed2e6d2602bbc", func := "loop.example/g01013/laws.FnExactProtectedStands", spec := "fnExactProtectedStands", unfollowed := true, recurses := true, apart := false, narrowed := true }
def FnExactProtectedStandsUptoSaid : Prop := fnExactProtectedStandsUptoRow.holds Try.pinned (OpenSpec.upto fnExactProtectedStandsSpec)

/-- 'laws.FnExactWeakestStand', WHERE WHAT IT READS IS OF BULK AT MOST 1048576: true; the input reads as it did. -/
def fnExactWeakestStandUptoRow : OpenClaim := { program := "ytecobplmkdlagaa", sum := "e1b51be8a123d163082ebfb9f6f5c2102d54df9d68e97099c81ed2e6d2602bbc", func := "loop.example/g01013/laws.FnExactWeakestStand", spec := "fnExactWeakestStand", unfollowed := true, recurses := true, apart := false, narrowed := true }
def FnExactWeakestStandUptoSaid : Prop := fnExactWeakestStandUptoRow.holds Try.pinned (OpenSpec.upto fnExactWeakestStandSpec)

/-- 'laws.FnExactMostSnow', WHERE WHAT IT READS IS OF BULK AT MOST 1048576: true; the input reads as it did. -/
def fnExactMostSnowUptoRow : OpenClaim := { program := "ytecobplmkdlagaa", sum := "e1b51be8a123d163082ebfb9f6f5c2102d54df9d68e97099c81ed2e6d2602bbc", func := "loop.example/g01013/laws.FnExactMostSnow", spec := "fnExactMostSnow", unfollowed := true, recurses := true, apart := false, narrowed := true }
def FnExactMostSnowUptoSaid : Prop := fnExactMostSnowUptoRow.holds Try.pinned (OpenSpec.upto fnExactMostSnowSpec)

/-- 'laws.FnExactGrowStand', WHERE WHAT IT READS IS OF BULK AT MOST 1048576: true; the input reads as it did. -/
def fnExactGrowStandUptoRow : OpenClaim := { program := "ytecobplmkdlagaa", sum := "e1b51be8a123d163082ebfb9f6f5c2102d54df9d68e97099c81ed2e6d2602bbc", func := "loop.example/g01013/laws.FnExactGrowStand", spec := "fnExactGrowStand", apart := false, narrowed := true }
def FnExactGrowStandUptoSaid : Prop := fnExactGrowStandUptoRow.holds Try.pinned (OpenSpec.upto fnExactGrowStandSpec)

/-- 'laws.FnExactYearsUntil', WHERE WHAT IT READS IS OF BULK AT MOST 1048576: true; the input reads as it did. -/
def fnExactYearsUntilUptoRow : OpenClaim := { program := "ytecobplmkdlagaa", sum := "e1b51be8a123d163082ebfb9f6f5c2102d54df9d68e97099c81ed2e6d2602bbc", func := "loop.example/g01013/laws.FnExactYearsUntil", spec := "fnExactYearsUntil", apart := false, narrowed := true }
def FnExactYearsUntilUptoSaid : Prop := fnExactYearsUntilUptoRow.holds Try.pinned (OpenSpec.upto fnExactYearsUntilSpec)

/-- 'laws.FnExactFellTrees', WHERE WHAT IT READS IS OF BULK AT MOST 1048576: true; the input reads as it did. -/
def fnExactFellTreesUptoRow : OpenClaim := { program := "ytecobplmkdlagaa", sum := "e1b51be8a123d163082ebfb9f6f5c2102d54df9d68e97099c81ed2e6d2602bbc", func := "loop.example/g01013/laws.FnExactFellTrees", spec := "fnExactFellTrees", apart := false, narrowed := true }
def FnExactFellTreesUptoSaid : Prop := fnExactFellTreesUptoRow.holds Try.pinned (OpenSpec.upto fnExactFellTreesSpec)

/-- 'laws.FnExactMostFelled', WHERE WHAT IT READS IS OF BULK AT MOST 1048576: true; the input reads as it did. -/
def fnExactMostFelledUptoRow : OpenClaim := { program := "ytecobplmkdlagaa", sum := "e1b51be8a123d163082ebfb9f6f5c2102d54df9d68e97099c81ed2e6d2602bbc", func := "loop.example/g01013/laws.FnExactMostFelled", spec := "fnExactMostFelled", unfollowed := true, recurses := true, apart := false, narrowed := true }
def FnExactMostFelledUptoSaid : Prop := fnExactMostFelledUptoRow.holds Try.pinned (OpenSpec.upto fnExactMostFelledSpec)

/-- 'laws.FnForest', WHERE WHAT IT READS IS OF BULK AT MOST 1048576: true; the input reads as it did. -/
def fnForestUptoRow : OpenClaim := { program := "ytecobplmkdlagaa", sum := "e1b51be8a123d163082ebfb9f6f5c2102d54df9d68e97099c81ed2e6d2602bbc", func := "loop.example/g01013/laws.FnForest", spec := "fnForest", unfollowed := true, recurses := true, apart := false, narrowed := true }
def FnForestUptoSaid : Prop := fnForestUptoRow.holds Try.pinned (OpenSpec.upto fnForestSpec)

end Rows
end Go.Proofs.Ytecobplmkdlagaa
