/-
  No cell of these rows narrows 'for every input' (looked for: loops, veiled, ifaces, maps, wideKeys, modest, calm, conditions, laid).
  DERIVED. THE GIVEN ROWS OF THIS SEAT. 12 by the template 'for every input the law returns true; each argument reads behind the call as it read before'; 0 by the template 'total and deterministic' (their statements: YtmieckchppfogaaTotals.lean).
  GIVEN WITH THE SEED: the statements are not yours to turn. If you find one false, say at which input.
  Laid BY PROGRAM, IN A SANDBOX (cutbox-rows.mjs): the forced cells as the released guide's own fill.sh prints them over the translation 9ad92216036eef53… (all of the seat's roots in one cut). By AI agents, Wed Nov 11 2026. No macro, syntax, notation, axiom, sorry.
-/
import Derived.Test.YtmieckchppfogaaChecked
import GoSem.Claim
import GoSem.ClaimJoined
import GoSem.ClaimMapViews
import Derived.JoinedTies
import Derived.KernelRfl
namespace Go.Proofs.Ytmieckchppfogaa
/- THE CELL 'sum', in the pinned program and in every row, IS THE sha256 OF THE DUMP (.gsa) THAT YtmieckchppfogaaProg.lean LOADS. Nothing in Lean hashes anything: it is a label: what it is worth is what the hold of that sum in a sandbox is worth. -/
noncomputable def Try.pinned : Pinned := { name := "ytmieckchppfogaa", sum := "9ad92216036eef539e13bf1cc7604ce962fdbca9c01700855a31fa992c2e450e", checked := Try.checked }
namespace Rows
def none {H : Type} : Left H := { results := [], args := [] }

/-- 'laws.FnExactValidPath': WHATEVER THE INPUT: true; the input reads as it did. -/
def fnExactValidPathSpec : ChangeSpec := { name := "fnExactValidPath", fn := fun _ => fun
  | [d] => { results := [.lit (.bool true)], args := [d] }
  | _ => none }
def fnExactValidPathRow : OpenClaim := { program := "ytmieckchppfogaa", sum := "9ad92216036eef539e13bf1cc7604ce962fdbca9c01700855a31fa992c2e450e", func := "loop.example/g01013/laws.FnExactValidPath", spec := "fnExactValidPath", unfollowed := true, recurses := true, apart := false }
def FnExactValidPathSaid : Prop := fnExactValidPathRow.holds Try.pinned (OpenSpec.ofChange fnExactValidPathSpec)

/-- ITS FALSE NEIGHBOUR: 'it returns false'. Refute it at one input. -/
def fnExactValidPathWrong : ChangeSpec := { name := "fnExactValidPath", fn := fun _ => fun
  | [d] => { results := [.lit (.bool false)], args := [d] }
  | _ => none }
def FnExactValidPathWrongFalsely : Prop := fnExactValidPathRow.holds Try.pinned (OpenSpec.ofChange fnExactValidPathWrong)

/-- 'laws.FnExactTangentOf': WHATEVER THE INPUT: true; the input reads as it did. -/
def fnExactTangentOfSpec : ChangeSpec := { name := "fnExactTangentOf", fn := fun _ => fun
  | [d1, d2] => { results := [.lit (.bool true)], args := [d1, d2] }
  | _ => none }
def fnExactTangentOfRow : OpenClaim := { program := "ytmieckchppfogaa", sum := "9ad92216036eef539e13bf1cc7604ce962fdbca9c01700855a31fa992c2e450e", func := "loop.example/g01013/laws.FnExactTangentOf", spec := "fnExactTangentOf", unfollowed := true, recurses := true, apart := false }
def FnExactTangentOfSaid : Prop := fnExactTangentOfRow.holds Try.pinned (OpenSpec.ofChange fnExactTangentOfSpec)

/-- ITS FALSE NEIGHBOUR: 'it returns false'. Refute it at one input. -/
def fnExactTangentOfWrong : ChangeSpec := { name := "fnExactTangentOf", fn := fun _ => fun
  | [d1, d2] => { results := [.lit (.bool false)], args := [d1, d2] }
  | _ => none }
def FnExactTangentOfWrongFalsely : Prop := fnExactTangentOfRow.holds Try.pinned (OpenSpec.ofChange fnExactTangentOfWrong)

/-- 'laws.FnExactGroundAt': WHATEVER THE INPUT: true; the input reads as it did. -/
def fnExactGroundAtSpec : ChangeSpec := { name := "fnExactGroundAt", fn := fun _ => fun
  | [d1, d2] => { results := [.lit (.bool true)], args := [d1, d2] }
  | _ => none }
def fnExactGroundAtRow : OpenClaim := { program := "ytmieckchppfogaa", sum := "9ad92216036eef539e13bf1cc7604ce962fdbca9c01700855a31fa992c2e450e", func := "loop.example/g01013/laws.FnExactGroundAt", spec := "fnExactGroundAt", unfollowed := true, recurses := true, apart := false }
def FnExactGroundAtSaid : Prop := fnExactGroundAtRow.holds Try.pinned (OpenSpec.ofChange fnExactGroundAtSpec)

/-- ITS FALSE NEIGHBOUR: 'it returns false'. Refute it at one input. -/
def fnExactGroundAtWrong : ChangeSpec := { name := "fnExactGroundAt", fn := fun _ => fun
  | [d1, d2] => { results := [.lit (.bool false)], args := [d1, d2] }
  | _ => none }
def FnExactGroundAtWrongFalsely : Prop := fnExactGroundAtRow.holds Try.pinned (OpenSpec.ofChange fnExactGroundAtWrong)

/-- 'laws.FnExactLineAt': WHATEVER THE INPUT: true; the input reads as it did. -/
def fnExactLineAtSpec : ChangeSpec := { name := "fnExactLineAt", fn := fun _ => fun
  | [d1, d2, d3] => { results := [.lit (.bool true)], args := [d1, d2, d3] }
  | _ => none }
def fnExactLineAtRow : OpenClaim := { program := "ytmieckchppfogaa", sum := "9ad92216036eef539e13bf1cc7604ce962fdbca9c01700855a31fa992c2e450e", func := "loop.example/g01013/laws.FnExactLineAt", spec := "fnExactLineAt", unfollowed := true, recurses := true, apart := false }
def FnExactLineAtSaid : Prop := fnExactLineAtRow.holds Try.pinned (OpenSpec.ofChange fnExactLineAtSpec)

/-- ITS FALSE NEIGHBOUR: 'it returns false'. Refute it at one input. -/
def fnExactLineAtWrong : ChangeSpec := { name := "fnExactLineAt", fn := fun _ => fun
  | [d1, d2, d3] => { results := [.lit (.bool false)], args := [d1, d2, d3] }
  | _ => none }
def FnExactLineAtWrongFalsely : Prop := fnExactLineAtRow.holds Try.pinned (OpenSpec.ofChange fnExactLineAtWrong)

/-- 'laws.FnExactStopOf': WHATEVER THE INPUT: true; the input reads as it did. -/
def fnExactStopOfSpec : ChangeSpec := { name := "fnExactStopOf", fn := fun _ => fun
  | [d1, d2] => { results := [.lit (.bool true)], args := [d1, d2] }
  | _ => none }
def fnExactStopOfRow : OpenClaim := { program := "ytmieckchppfogaa", sum := "9ad92216036eef539e13bf1cc7604ce962fdbca9c01700855a31fa992c2e450e", func := "loop.example/g01013/laws.FnExactStopOf", spec := "fnExactStopOf", unfollowed := true, recurses := true, apart := false }
def FnExactStopOfSaid : Prop := fnExactStopOfRow.holds Try.pinned (OpenSpec.ofChange fnExactStopOfSpec)

/-- ITS FALSE NEIGHBOUR: 'it returns false'. Refute it at one input. -/
def fnExactStopOfWrong : ChangeSpec := { name := "fnExactStopOf", fn := fun _ => fun
  | [d1, d2] => { results := [.lit (.bool false)], args := [d1, d2] }
  | _ => none }
def FnExactStopOfWrongFalsely : Prop := fnExactStopOfRow.holds Try.pinned (OpenSpec.ofChange fnExactStopOfWrong)

/-- 'laws.FnExactSpeedAt': WHATEVER THE INPUT: true; the input reads as it did. -/
def fnExactSpeedAtSpec : ChangeSpec := { name := "fnExactSpeedAt", fn := fun _ => fun
  | [d1, d2, d3] => { results := [.lit (.bool true)], args := [d1, d2, d3] }
  | _ => none }
def fnExactSpeedAtRow : OpenClaim := { program := "ytmieckchppfogaa", sum := "9ad92216036eef539e13bf1cc7604ce962fdbca9c01700855a31fa992c2e450e", func := "loop.example/g01013/laws.FnExactSpeedAt", spec := "fnExactSpeedAt", unfollowed := true, recurses := true, apart := false }
def FnExactSpeedAtSaid : Prop := fnExactSpeedAtRow.holds Try.pinned (OpenSpec.ofChange fnExactSpeedAtSpec)

/-- ITS FALSE NEIGHBOUR: 'it returns false'. Refute it at one input. -/
def fnExactSpeedAtWrong : ChangeSpec := { name := "fnExactSpeedAt", fn := fun _ => fun
  | [d1, d2, d3] => { results := [.lit (.bool false)], args := [d1, d2, d3] }
  | _ => none }
def FnExactSpeedAtWrongFalsely : Prop := fnExactSpeedAtRow.holds Try.pinned (OpenSpec.ofChange fnExactSpeedAtWrong)

/-- 'laws.FnExactFastestAt': WHATEVER THE INPUT: true; the input reads as it did. -/
def fnExactFastestAtSpec : ChangeSpec := { name := "fnExactFastestAt", fn := fun _ => fun
  | [d1, d2] => { results := [.lit (.bool true)], args := [d1, d2] }
  | _ => none }
def fnExactFastestAtRow : OpenClaim := { program := "ytmieckchppfogaa", sum := "9ad92216036eef539e13bf1cc7604ce962fdbca9c01700855a31fa992c2e450e", func := "loop.example/g01013/laws.FnExactFastestAt", spec := "fnExactFastestAt", unfollowed := true, recurses := true, apart := false }
def FnExactFastestAtSaid : Prop := fnExactFastestAtRow.holds Try.pinned (OpenSpec.ofChange fnExactFastestAtSpec)

/-- ITS FALSE NEIGHBOUR: 'it returns false'. Refute it at one input. -/
def fnExactFastestAtWrong : ChangeSpec := { name := "fnExactFastestAt", fn := fun _ => fun
  | [d1, d2] => { results := [.lit (.bool false)], args := [d1, d2] }
  | _ => none }
def FnExactFastestAtWrongFalsely : Prop := fnExactFastestAtRow.holds Try.pinned (OpenSpec.ofChange fnExactFastestAtWrong)

/-- 'laws.FnExactTangentFor': WHATEVER THE INPUT: true; the input reads as it did. -/
def fnExactTangentForSpec : ChangeSpec := { name := "fnExactTangentFor", fn := fun _ => fun
  | [d1, d2] => { results := [.lit (.bool true)], args := [d1, d2] }
  | _ => none }
def fnExactTangentForRow : OpenClaim := { program := "ytmieckchppfogaa", sum := "9ad92216036eef539e13bf1cc7604ce962fdbca9c01700855a31fa992c2e450e", func := "loop.example/g01013/laws.FnExactTangentFor", spec := "fnExactTangentFor", unfollowed := true, recurses := true, apart := false }
def FnExactTangentForSaid : Prop := fnExactTangentForRow.holds Try.pinned (OpenSpec.ofChange fnExactTangentForSpec)

/-- ITS FALSE NEIGHBOUR: 'it returns false'. Refute it at one input. -/
def fnExactTangentForWrong : ChangeSpec := { name := "fnExactTangentFor", fn := fun _ => fun
  | [d1, d2] => { results := [.lit (.bool false)], args := [d1, d2] }
  | _ => none }
def FnExactTangentForWrongFalsely : Prop := fnExactTangentForRow.holds Try.pinned (OpenSpec.ofChange fnExactTangentForWrong)

/-- 'laws.FnExactBetaPoint': WHATEVER THE INPUT: true; the input reads as it did. -/
def fnExactBetaPointSpec : ChangeSpec := { name := "fnExactBetaPoint", fn := fun _ => fun
  | [d] => { results := [.lit (.bool true)], args := [d] }
  | _ => none }
def fnExactBetaPointRow : OpenClaim := { program := "ytmieckchppfogaa", sum := "9ad92216036eef539e13bf1cc7604ce962fdbca9c01700855a31fa992c2e450e", func := "loop.example/g01013/laws.FnExactBetaPoint", spec := "fnExactBetaPoint", unfollowed := true, recurses := true, apart := false }
def FnExactBetaPointSaid : Prop := fnExactBetaPointRow.holds Try.pinned (OpenSpec.ofChange fnExactBetaPointSpec)

/-- ITS FALSE NEIGHBOUR: 'it returns false'. Refute it at one input. -/
def fnExactBetaPointWrong : ChangeSpec := { name := "fnExactBetaPoint", fn := fun _ => fun
  | [d] => { results := [.lit (.bool false)], args := [d] }
  | _ => none }
def FnExactBetaPointWrongFalsely : Prop := fnExactBetaPointRow.holds Try.pinned (OpenSpec.ofChange fnExactBetaPointWrong)

/-- 'laws.FnExactAlphaOf': WHATEVER THE INPUT: true; the input reads as it did. -/
def fnExactAlphaOfSpec : ChangeSpec := { name := "fnExactAlphaOf", fn := fun _ => fun
  | [d1, d2, d3] => { results := [.lit (.bool true)], args := [d1, d2, d3] }
  | _ => none }
def fnExactAlphaOfRow : OpenClaim := { program := "ytmieckchppfogaa", sum := "9ad92216036eef539e13bf1cc7604ce962fdbca9c01700855a31fa992c2e450e", func := "loop.example/g01013/laws.FnExactAlphaOf", spec := "fnExactAlphaOf", unfollowed := true, recurses := true, apart := false }
def FnExactAlphaOfSaid : Prop := fnExactAlphaOfRow.holds Try.pinned (OpenSpec.ofChange fnExactAlphaOfSpec)

/-- ITS FALSE NEIGHBOUR: 'it returns false'. Refute it at one input. -/
def fnExactAlphaOfWrong : ChangeSpec := { name := "fnExactAlphaOf", fn := fun _ => fun
  | [d1, d2, d3] => { results := [.lit (.bool false)], args := [d1, d2, d3] }
  | _ => none }
def FnExactAlphaOfWrongFalsely : Prop := fnExactAlphaOfRow.holds Try.pinned (OpenSpec.ofChange fnExactAlphaOfWrong)

/-- 'laws.FnExactRunoutOf': WHATEVER THE INPUT: true; the input reads as it did. -/
def fnExactRunoutOfSpec : ChangeSpec := { name := "fnExactRunoutOf", fn := fun _ => fun
  | [d1, d2, d3] => { results := [.lit (.bool true)], args := [d1, d2, d3] }
  | _ => none }
def fnExactRunoutOfRow : OpenClaim := { program := "ytmieckchppfogaa", sum := "9ad92216036eef539e13bf1cc7604ce962fdbca9c01700855a31fa992c2e450e", func := "loop.example/g01013/laws.FnExactRunoutOf", spec := "fnExactRunoutOf", unfollowed := true, recurses := true, apart := false }
def FnExactRunoutOfSaid : Prop := fnExactRunoutOfRow.holds Try.pinned (OpenSpec.ofChange fnExactRunoutOfSpec)

/-- ITS FALSE NEIGHBOUR: 'it returns false'. Refute it at one input. -/
def fnExactRunoutOfWrong : ChangeSpec := { name := "fnExactRunoutOf", fn := fun _ => fun
  | [d1, d2, d3] => { results := [.lit (.bool false)], args := [d1, d2, d3] }
  | _ => none }
def FnExactRunoutOfWrongFalsely : Prop := fnExactRunoutOfRow.holds Try.pinned (OpenSpec.ofChange fnExactRunoutOfWrong)

/-- 'laws.FnRunouts': WHATEVER THE INPUT: true; the input reads as it did. -/
def fnRunoutsSpec : ChangeSpec := { name := "fnRunouts", fn := fun _ => fun
  | [d1, d2] => { results := [.lit (.bool true)], args := [d1, d2] }
  | _ => none }
def fnRunoutsRow : OpenClaim := { program := "ytmieckchppfogaa", sum := "9ad92216036eef539e13bf1cc7604ce962fdbca9c01700855a31fa992c2e450e", func := "loop.example/g01013/laws.FnRunouts", spec := "fnRunouts", unfollowed := true, recurses := true, apart := false }
def FnRunoutsSaid : Prop := fnRunoutsRow.holds Try.pinned (OpenSpec.ofChange fnRunoutsSpec)

/-- ITS FALSE NEIGHBOUR: 'it returns false'. Refute it at one input. -/
def fnRunoutsWrong : ChangeSpec := { name := "fnRunouts", fn := fun _ => fun
  | [d1, d2] => { results := [.lit (.bool false)], args := [d1, d2] }
  | _ => none }
def FnRunoutsWrongFalsely : Prop := fnRunoutsRow.holds Try.pinned (OpenSpec.ofChange fnRunoutsWrong)

/- THE SECOND FORM. 'bulk': how many values and letters a reading holds, each counted each time it is reached (what is shared counts as often as it is met; a slice's spare places count too). A statement '..UptoSaid' is the law's where the arguments, and the package variables that the reading takes, are together of bulk at most 1048576: NARROWER than '..Said'. Prove '..Said' where nothing that the law and all that it calls make is longer than what came in: it says more and counts as full. Else prove '..UptoSaid'. A law counts once. -/
mutual
def uptoBulk {H : Type} : DataW H → Nat
  | .lit (.string bytes) => bytes.length + 1
  | .lit _ => 1
  | .nil => 1
  | .ptr d => uptoBulk d + 1
  | .slice elems spare => uptoBulkAll elems + uptoBulkAll spare + 1
  | .agg parts => uptoBulkAll parts + 1
  | .iface _ d => uptoBulk d + 1
  | .map entries => uptoBulkEntries entries + 1
  | .held _ => 1
def uptoBulkAll {H : Type} : List (DataW H) → Nat
  | [] => 0
  | d :: r => uptoBulk d + uptoBulkAll r
def uptoBulkEntries {H : Type} : List (Lit × DataW H) → Nat
  | [] => 0
  | x :: r => uptoBulkEntry x + uptoBulkEntries r
def uptoBulkEntry {H : Type} : Lit × DataW H → Nat
  | (.string bytes, d) => bytes.length + uptoBulk d + 1
  | (_, d) => uptoBulk d + 1
 end
def uptoSmall : (H : Type) → List (DataW H) → Bool := fun _ ds => decide (uptoBulkAll ds ≤ 1048576)
def OpenSpec.upto (s : _root_.Go.ChangeSpec) : _root_.Go.OpenSpec := { _root_.Go.OpenSpec.ofChange s with cond := some uptoSmall }

/-- 'laws.FnExactValidPath', WHERE WHAT IT READS IS OF BULK AT MOST 1048576: true; the input reads as it did. -/
def fnExactValidPathUptoRow : OpenClaim := { program := "ytmieckchppfogaa", sum := "9ad92216036eef539e13bf1cc7604ce962fdbca9c01700855a31fa992c2e450e", func := "loop.example/g01013/laws.FnExactValidPath", spec := "fnExactValidPath", unfollowed := true, recurses := true, apart := false, narrowed := true }
def FnExactValidPathUptoSaid : Prop := fnExactValidPathUptoRow.holds Try.pinned (OpenSpec.upto fnExactValidPathSpec)

/-- 'laws.FnExactTangentOf', WHERE WHAT IT READS IS OF BULK AT MOST 1048576: true; the input reads as it did. -/
def fnExactTangentOfUptoRow : OpenClaim := { program := "ytmieckchppfogaa", sum := "9ad92216036eef539e13bf1cc7604ce962fdbca9c01700855a31fa992c2e450e", func := "loop.example/g01013/laws.FnExactTangentOf", spec := "fnExactTangentOf", unfollowed := true, recurses := true, apart := false, narrowed := true }
def FnExactTangentOfUptoSaid : Prop := fnExactTangentOfUptoRow.holds Try.pinned (OpenSpec.upto fnExactTangentOfSpec)

/-- 'laws.FnExactGroundAt', WHERE WHAT IT READS IS OF BULK AT MOST 1048576: true; the input reads as it did. -/
def fnExactGroundAtUptoRow : OpenClaim := { program := "ytmieckchppfogaa", sum := "9ad92216036eef539e13bf1cc7604ce962fdbca9c01700855a31fa992c2e450e", func := "loop.example/g01013/laws.FnExactGroundAt", spec := "fnExactGroundAt", unfollowed := true, recurses := true, apart := false, narrowed := true }
def FnExactGroundAtUptoSaid : Prop := fnExactGroundAtUptoRow.holds Try.pinned (OpenSpec.upto fnExactGroundAtSpec)

/-- 'laws.FnExactLineAt', WHERE WHAT IT READS IS OF BULK AT MOST 1048576: true; the input reads as it did. -/
def fnExactLineAtUptoRow : OpenClaim := { program := "ytmieckchppfogaa", sum := "9ad92216036eef539e13bf1cc7604ce962fdbca9c01700855a31fa992c2e450e", func := "loop.example/g01013/laws.FnExactLineAt", spec := "fnExactLineAt", unfollowed := true, recurses := true, apart := false, narrowed := true }
def FnExactLineAtUptoSaid : Prop := fnExactLineAtUptoRow.holds Try.pinned (OpenSpec.upto fnExactLineAtSpec)

/-- 'laws.FnExactStopOf', WHERE WHAT IT READS IS OF BULK AT MOST 1048576: true; the input reads as it did. -/
def fnExactStopOfUptoRow : OpenClaim := { program := "ytmieckchppfogaa", sum := "9ad92216036eef539e13bf1cc7604ce962fdbca9c01700855a31fa992c2e450e", func := "loop.example/g01013/laws.FnExactStopOf", spec := "fnExactStopOf", unfollowed := true, recurses := true, apart := false, narrowed := true }
def FnExactStopOfUptoSaid : Prop := fnExactStopOfUptoRow.holds Try.pinned (OpenSpec.upto fnExactStopOfSpec)

/-- 'laws.FnExactSpeedAt', WHERE WHAT IT READS IS OF BULK AT MOST 1048576: true; the input reads as it did. -/
def fnExactSpeedAtUptoRow : OpenClaim := { program := "ytmieckchppfogaa", sum := "9ad92216036eef539e13bf1cc7604ce962fdbca9c01700855a31fa992c2e450e", func := "loop.example/g01013/laws.FnExactSpeedAt", spec := "fnExactSpeedAt", unfollowed := true, recurses := true, apart := false, narrowed := true }
def FnExactSpeedAtUptoSaid : Prop := fnExactSpeedAtUptoRow.holds Try.pinned (OpenSpec.upto fnExactSpeedAtSpec)

/-- 'laws.FnExactFastestAt', WHERE WHAT IT READS IS OF BULK AT MOST 1048576: true; the input reads as it did. -/
def fnExactFastestAtUptoRow : OpenClaim := { program := "ytmieckchppfogaa", sum := "9ad92216036eef539e13bf1cc7604ce962fdbca9c01700855a31fa992c2e450e", func := "loop.example/g01013/laws.FnExactFastestAt", spec := "fnExactFastestAt", unfollowed := true, recurses := true, apart := false, narrowed := true }
def FnExactFastestAtUptoSaid : Prop := fnExactFastestAtUptoRow.holds Try.pinned (OpenSpec.upto fnExactFastestAtSpec)

/-- 'laws.FnExactTangentFor', WHERE WHAT IT READS IS OF BULK AT MOST 1048576: true; the input reads as it did. -/
def fnExactTangentForUptoRow : OpenClaim := { program := "ytmieckchppfogaa", sum := "9ad92216036eef539e13bf1cc7604ce962fdbca9c01700855a31fa992c2e450e", func := "loop.example/g01013/laws.FnExactTangentFor", spec := "fnExactTangentFor", unfollowed := true, recurses := true, apart := false, narrowed := true }
def FnExactTangentForUptoSaid : Prop := fnExactTangentForUptoRow.holds Try.pinned (OpenSpec.upto fnExactTangentForSpec)

/-- 'laws.FnExactBetaPoint', WHERE WHAT IT READS IS OF BULK AT MOST 1048576: true; the input reads as it did. -/
def fnExactBetaPointUptoRow : OpenClaim := { program := "ytmieckchppfogaa", sum := "9ad92216036eef539e13bf1cc7604ce962fdbca9c01700855a31fa992c2e450e", func := "loop.example/g01013/laws.FnExactBetaPoint", spec := "fnExactBetaPoint", unfollowed := true, recurses := true, apart := false, narrowed := true }
def FnExactBetaPointUptoSaid : Prop := fnExactBetaPointUptoRow.holds Try.pinned (OpenSpec.upto fnExactBetaPointSpec)

/-- 'laws.FnExactAlphaOf', WHERE WHAT IT READS IS OF BULK AT MOST 1048576: true; the input reads as it did. -/
def fnExactAlphaOfUptoRow : OpenClaim := { program := "ytmieckchppfogaa", sum := "9ad92216036eef539e13bf1cc7604ce962fdbca9c01700855a31fa992c2e450e", func := "loop.example/g01013/laws.FnExactAlphaOf", spec := "fnExactAlphaOf", unfollowed := true, recurses := true, apart := false, narrowed := true }
def FnExactAlphaOfUptoSaid : Prop := fnExactAlphaOfUptoRow.holds Try.pinned (OpenSpec.upto fnExactAlphaOfSpec)

/-- 'laws.FnExactRunoutOf', WHERE WHAT IT READS IS OF BULK AT MOST 1048576: true; the input reads as it did. -/
def fnExactRunoutOfUptoRow : OpenClaim := { program := "ytmieckchppfogaa", sum := "9ad92216036eef539e13bf1cc7604ce962fdbca9c01700855a31fa992c2e450e", func := "loop.example/g01013/laws.FnExactRunoutOf", spec := "fnExactRunoutOf", unfollowed := true, recurses := true, apart := false, narrowed := true }
def FnExactRunoutOfUptoSaid : Prop := fnExactRunoutOfUptoRow.holds Try.pinned (OpenSpec.upto fnExactRunoutOfSpec)

/-- 'laws.FnRunouts', WHERE WHAT IT READS IS OF BULK AT MOST 1048576: true; the input reads as it did. -/
def fnRunoutsUptoRow : OpenClaim := { program := "ytmieckchppfogaa", sum := "9ad92216036eef539e13bf1cc7604ce962fdbca9c01700855a31fa992c2e450e", func := "loop.example/g01013/laws.FnRunouts", spec := "fnRunouts", unfollowed := true, recurses := true, apart := false, narrowed := true }
def FnRunoutsUptoSaid : Prop := fnRunoutsUptoRow.holds Try.pinned (OpenSpec.upto fnRunoutsSpec)

end Rows
end Go.Proofs.Ytmieckchppfogaa
