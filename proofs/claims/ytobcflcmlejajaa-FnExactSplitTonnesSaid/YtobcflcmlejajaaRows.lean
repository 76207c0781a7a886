/-
  No cell of these rows narrows 'for every input' (looked for: loops, veiled, ifaces, maps, wideKeys, modest, calm, conditions, laid).
  DERIVED. THE GIVEN ROWS OF THIS SEAT. 5 by the template 'for every input the law returns true; each argument reads behind the call as it read before'; 0 by the template 'total and deterministic' (their statements: YtobcflcmlejajaaTotals.lean).
  GIVEN WITH THE SEED: the statements are not yours to turn. If you find one false, say at which input.
  Laid BY PROGRAM, IN A SANDBOX (cutbox-rows.mjs): the forced cells as the released guide's own fill.sh prints them over the translation e53ff5f29c5e6abd… (all of the seat's roots in one cut). By AI agents, Wed Nov 11 2026. No macro, syntax, notation, axiom, sorry.
-/
import Derived.Test.YtobcflcmlejajaaChecked
import GoSem.Claim
import GoSem.ClaimJoined
import GoSem.ClaimMapViews
import Derived.JoinedTies
import Derived.KernelRfl
namespace Go.Proofs.Ytobcflcmlejajaa
/- THE CELL 'sum', in the pinned program and in every row, IS THE sha256 OF THE DUMP (.gsa) THAT YtobcflcmlejajaaProg.lean LOADS. Nothing in Lean hashes anything: it is a label: what it is worth is what the hold of that sum in a sandbox is worth. -/
noncomputable def Try.pinned : Pinned := { name := "ytobcflcmlejajaa", sum := "e53ff5f29c5e6abdd2f459f812bb755064b5ae232285866ca2ab35cf6008b35d", checked := Try.checked }
namespace Rows
def none {H : Type} : Left H := { results := [], args := [] }

/-- 'laws.FnExactValidParts': WHATEVER THE INPUT: true; the input reads as it did. -/
def fnExactValidPartsSpec : ChangeSpec := { name := "fnExactValidParts", fn := fun _ => fun
  | [d] => { results := [.lit (.bool true)], args := [d] }
  | _ => none }
def fnExactValidPartsRow : OpenClaim := { program := "ytobcflcmlejajaa", sum := "e53ff5f29c5e6abdd2f459f812bb755064b5ae232285866ca2ab35cf6008b35d", func := "loop.example/g01013/laws.FnExactValidParts", spec := "fnExactValidParts", unfollowed := true, recurses := true, apart := false }
def FnExactValidPartsSaid : Prop := fnExactValidPartsRow.holds Try.pinned (OpenSpec.ofChange fnExactValidPartsSpec)

/-- ITS FALSE NEIGHBOUR: 'it returns false'. Refute it at one input. -/
def fnExactValidPartsWrong : ChangeSpec := { name := "fnExactValidParts", fn := fun _ => fun
  | [d] => { results := [.lit (.bool false)], args := [d] }
  | _ => none }
def FnExactValidPartsWrongFalsely : Prop := fnExactValidPartsRow.holds Try.pinned (OpenSpec.ofChange fnExactValidPartsWrong)

/-- 'laws.FnExactSlabVolume': WHATEVER THE INPUT: true; the input reads as it did. -/
def fnExactSlabVolumeSpec : ChangeSpec := { name := "fnExactSlabVolume", fn := fun _ => fun
  | [d1, d2] => { results := [.lit (.bool true)], args := [d1, d2] }
  | _ => none }
def fnExactSlabVolumeRow : OpenClaim := { program := "ytobcflcmlejajaa", sum := "e53ff5f29c5e6abdd2f459f812bb755064b5ae232285866ca2ab35cf6008b35d", func := "loop.example/g01013/laws.FnExactSlabVolume", spec := "fnExactSlabVolume", apart := false }
def FnExactSlabVolumeSaid : Prop := fnExactSlabVolumeRow.holds Try.pinned (OpenSpec.ofChange fnExactSlabVolumeSpec)

/-- ITS FALSE NEIGHBOUR: 'it returns false'. Refute it at one input. -/
def fnExactSlabVolumeWrong : ChangeSpec := { name := "fnExactSlabVolume", fn := fun _ => fun
  | [d1, d2] => { results := [.lit (.bool false)], args := [d1, d2] }
  | _ => none }
def FnExactSlabVolumeWrongFalsely : Prop := fnExactSlabVolumeRow.holds Try.pinned (OpenSpec.ofChange fnExactSlabVolumeWrong)

/-- 'laws.FnExactSlabTonnes': WHATEVER THE INPUT: true; the input reads as it did. -/
def fnExactSlabTonnesSpec : ChangeSpec := { name := "fnExactSlabTonnes", fn := fun _ => fun
  | [d1, d2, d3] => { results := [.lit (.bool true)], args := [d1, d2, d3] }
  | _ => none }
def fnExactSlabTonnesRow : OpenClaim := { program := "ytobcflcmlejajaa", sum := "e53ff5f29c5e6abdd2f459f812bb755064b5ae232285866ca2ab35cf6008b35d", func := "loop.example/g01013/laws.FnExactSlabTonnes", spec := "fnExactSlabTonnes", apart := false }
def FnExactSlabTonnesSaid : Prop := fnExactSlabTonnesRow.holds Try.pinned (OpenSpec.ofChange fnExactSlabTonnesSpec)

/-- ITS FALSE NEIGHBOUR: 'it returns false'. Refute it at one input. -/
def fnExactSlabTonnesWrong : ChangeSpec := { name := "fnExactSlabTonnes", fn := fun _ => fun
  | [d1, d2, d3] => { results := [.lit (.bool false)], args := [d1, d2, d3] }
  | _ => none }
def FnExactSlabTonnesWrongFalsely : Prop := fnExactSlabTonnesRow.holds Try.pinned (OpenSpec.ofChange fnExactSlabTonnesWrong)

/-- 'laws.FnExactSplitTonnes': WHATEVER THE INPUT: true; the input reads as it did. -/
def fnExactSplitTonnesSpec : ChangeSpec := { name := "fnExactSplitTonnes", fn := fun _ => fun
  | [d1, d2] => { results := [.lit (.bool true)], args := [d1, d2] }
  | _ => none }
def fnExactSplitTonnesRow : OpenClaim := { program := "ytobcflcmlejajaa", sum := "e53ff5f29c5e6abdd2f459f812bb755064b5ae232285866ca2ab35cf6008b35d", func := "loop.example/g01013/laws.FnExactSplitTonnes", spec := "fnExactSplitTonnes", unfollowed := true, recurses := true, apart := false }
def FnExactSplitTonnesSaid : Prop := fnExactSplitTonnesRow.holds Try.pinned (OpenSpec.ofChange fnExactSplitTonnesSpec)

/-- ITS FALSE NEIGHBOUR: 'it returns false'. Refute it at one input. -/
def fnExactSplitTonnesWrong : ChangeSpec := { name := "fnExactSplitTonnes", fn := fun _ => fun
  | [d1, d2] => { results := [.lit (.bool false)], args := [d1, d2] }
  | _ => none }
def FnExactSplitTonnesWrongFalsely : Prop := fnExactSplitTonnesRow.holds Try.pinned (OpenSpec.ofChange fnExactSplitTonnesWrong)

/-- 'laws.FnExactDepositDepth': WHATEVER THE INPUT: true; the input reads as it did. -/
def fnExactDepositDepthSpec : ChangeSpec := { name := "fnExactDepositDepth", fn := fun _ => fun
  | [d1, d2, d3] => { results := [.lit (.bool true)], args := [d1, d2, d3] }
  | _ => none }
def fnExactDepositDepthRow : OpenClaim := { program := "ytobcflcmlejajaa", sum := "e53ff5f29c5e6abdd2f459f812bb755064b5ae232285866ca2ab35cf6008b35d", func := "loop.example/g01013/laws.FnExactDepositDepth", spec := "fnExactDepositDepth", apart := false }
def FnExactDepositDepthSaid : Prop := fnExactDepositDepthRow.holds Try.pinned (OpenSpec.ofChange fnExactDepositDepthSpec)

/-- ITS FALSE NEIGHBOUR: 'it returns false'. Refute it at one input. -/
def fnExactDepositDepthWrong : ChangeSpec := { name := "fnExactDepositDepth", fn := fun _ => fun
  | [d1, d2, d3] => { results := [.lit (.bool false)], args := [d1, d2, d3] }
  | _ => none }
def FnExactDepositDepthWrongFalsely : Prop := fnExactDepositDepthRow.holds Try.pinned (OpenSpec.ofChange fnExactDepositDepthWrong)

/- THE SECOND FORM. 'bulk': how many values and letters a reading holds, each counted each time it is reached (what is shared counts as often as it is met; a slice's spare places count too). A statement '..UptoSaid' is the law's where the arguments, and the package variables that the reading takes, are together of bulk at most 1048576: NARROWER than '..Said'. Prove '..Said' where nothing that the law and all that it calls make is longer than what came in: it says more and counts as full. Else prove '..UptoSaid'. A law counts once. -/
mutual
def uptoBulk {H : Type} : DataW H → Nat
  | .lit (.string bytes) => bytes.length + 1
  | .lit _ => 1
  | .nil => 1
  | .ptr d => uptoBulk d + 1
  | .slice elems spare => uptoBulkAll elems + uptoBulkAll spare + 1
  | .agg parts => uptoBulkAll parts + 1
  | .iface _ d => uptoBulk d + 1
  | .map entries => uptoBulkEntries entries + 1
  | .held _ => 1
def uptoBulkAll {H : Type} : List (DataW H) → Nat
  | [] => 0
  | d :: r => uptoBulk d + uptoBulkAll r
def uptoBulkEntries {H : Type} : List (Lit × DataW H) → Nat
  | [] => 0
  | x :: r => uptoBulkEntry x + uptoBulkEntries r
def uptoBulkEntry {H : Type} : Lit × DataW H → Nat
  | (.string bytes, d) => bytes.length + uptoBulk d + 1
  | (_, d) => uptoBulk d + 1
 end
def uptoSmall : (H : Type) → List (DataW H) → Bool := fun _ ds => decide (uptoBulkAll ds ≤ 1048576)
def OpenSpec.upto (s : _root_.Go.ChangeSpec) : _root_.Go.OpenSpec := { _root_.Go.OpenSpec.ofChange s with cond := some uptoSmall }

/-- 'laws.FnExactValidParts', WHERE WHAT IT READS IS OF BULK AT MOST 1048576: true; the input reads as it did. -/
def fnExactValidPartsUptoRow : OpenClaim := { program := "ytobcflcmlejajaa", sum := "e53ff5f29c5e6abdd2f459f812bb755064b5ae232285866ca2ab35cf6008b35d", func := "loop.example/g01013/laws.FnExactValidParts", spec := "fnExactValidParts", unfollowed := true, recurses := true, apart := false, narrowed := true }
def FnExactValidPartsUptoSaid : Prop := fnExactValidPartsUptoRow.holds Try.pinned (OpenSpec.upto fnExactValidPartsSpec)

/-- 'laws.FnExactSlabVolume', WHERE WHAT IT READS IS OF BULK AT MOST 1048576: true; the input reads as it did. -/
def fnExactSlabVolumeUptoRow : OpenClaim := { program := "ytobcflcmlejajaa", sum := "e53ff5f29c5e6abdd2f459f812bb755064b5ae232285866ca2ab35cf6008b35d", func := "loop.example/g01013/laws.FnExactSlabVolume", spec := "fnExactSlabVolume", apart := false, narrowed := true }
def FnExactSlabVolumeUptoSaid : Prop := fnExactSlabVolumeUptoRow.holds Try.pinned (OpenSpec.upto fnExactSlabVolumeSpec)

/-- 'laws.FnExactSlabTonnes', WHERE WHAT IT READS IS OF BULK AT MOST 1048576: true; the input reads as it did. -/
def fnExactSlabTonnesUptoRow : OpenClaim := { program := "ytobcflcmlejajaa", sum := "e53ff5f29c5e6abdd2f459f812bb755064b5ae232285866ca2ab35cf6008b35d", func := "loop.example/g01013/laws.FnExactSlabTonnes", spec := "fnExactSlabTonnes", apart := false, narrowed := true }
def FnExactSlabTonnesUptoSaid : Prop := fnExactSlabTonnesUptoRow.holds Try.pinned (OpenSpec.upto fnExactSlabTonnesSpec)

/-- 'laws.FnExactSplitTonnes', WHERE WHAT IT READS IS OF BULK AT MOST 1048576: true; the input reads as it did. -/
def fnExactSplitTonnesUptoRow : OpenClaim := { program := "ytobcflcmlejajaa", sum := "e53ff5f29c5e6abdd2f459f812bb755064b5ae232285866ca2ab35cf6008b35d", func := "loop.example/g01013/laws.FnExactSplitTonnes", spec := "fnExactSplitTonnes", unfollowed := true, recurses := true, apart := false, narrowed := true }
def FnExactSplitTonnesUptoSaid : Prop := fnExactSplitTonnesUptoRow.holds Try.pinned (OpenSpec.upto fnExactSplitTonnesSpec)

/-- 'laws.FnExactDepositDepth', WHERE WHAT IT READS IS OF BULK AT MOST 1048576: true; the input reads as it did. -/
def fnExactDepositDepthUptoRow : OpenClaim := { program := "ytobcflcmlejajaa", sum := "e53ff5f29c5e6abdd2f459f812bb755064b5ae232285866ca2ab35cf6008b35d", func := "loop.example/g01013/laws.FnExactDepositDepth", spec := "fnExactDepositDepth", apart := false, narrowed := true }
def FnExactDepositDepthUptoSaid : Prop := fnExactDepositDepthUptoRow.holds Try.pinned (OpenSpec.upto fnExactDepositDepthSpec)

end Rows
end Go.Proofs.Ytobcflcmlejajaa
