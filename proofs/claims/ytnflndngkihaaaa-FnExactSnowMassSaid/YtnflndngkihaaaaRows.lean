/-
  No cell of these rows narrows 'for every input' (looked for: loops, veiled, ifaces, maps, wideKeys, modest, calm, conditions, laid).
  DERIVED. THE GIVEN ROWS OF THIS SEAT. 6 by the template 'for every input the law returns true; each argument reads behind the call as it read before'; 0 by the template 'total and deterministic' (their statements: YtnflndngkihaaaaTotals.lean).
  GIVEN WITH THE SEED: the statements are not yours to turn. If you find one false, say at which input.
  Laid BY PROGRAM, IN A SANDBOX (cutbox-rows.mjs): the forced cells as the released guide's own fill.sh prints them over the translation 9ebf0e8c20c993e4… (all of the seat's roots in one cut). By AI agents, Wed Nov 11 2026. No macro, syntax, notation, axiom, sorry.
-/
import Derived.Test.YtnflndngkihaaaaChecked
import GoSem.Claim
import GoSem.ClaimJoined
import GoSem.ClaimMapViews
import Derived.JoinedTies
import Derived.KernelRfl
namespace Go.Proofs.Ytnflndngkihaaaa
/- THE CELL 'sum', in the pinned program and in every row, IS THE sha256 OF THE DUMP (.gsa) THAT YtnflndngkihaaaaProg.lean LOADS. Nothing in Lean hashes anything: it is a label: what it is worth is what the hold of that sum in a sandbox is worth. -/
noncomputable def Try.pinned : Pinned := { name := "ytnflndngkihaaaa", sum := "9ebf0e8c20c993e4b6046391d14d6124a3f55b36f0873d698a3804982f1c0075", checked := Try.checked }
namespace Rows
def none {H : Type} : Left H := { results := [], args := [] }

/-- 'laws.FnExactWeekdayOf': WHATEVER THE INPUT: true; the input reads as it did. -/
def fnExactWeekdayOfSpec : ChangeSpec := { name := "fnExactWeekdayOf", fn := fun _ => fun
  | [d] => { results := [.lit (.bool true)], args := [d] }
  | _ => none }
def fnExactWeekdayOfRow : OpenClaim := { program := "ytnflndngkihaaaa", sum := "9ebf0e8c20c993e4b6046391d14d6124a3f55b36f0873d698a3804982f1c0075", func := "loop.example/g01013/laws.FnExactWeekdayOf", spec := "fnExactWeekdayOf", apart := false }
def FnExactWeekdayOfSaid : Prop := fnExactWeekdayOfRow.holds Try.pinned (OpenSpec.ofChange fnExactWeekdayOfSpec)

/-- ITS FALSE NEIGHBOUR: 'it returns false'. Refute it at one input. -/
def fnExactWeekdayOfWrong : ChangeSpec := { name := "fnExactWeekdayOf", fn := fun _ => fun
  | [d] => { results := [.lit (.bool false)], args := [d] }
  | _ => none }
def FnExactWeekdayOfWrongFalsely : Prop := fnExactWeekdayOfRow.holds Try.pinned (OpenSpec.ofChange fnExactWeekdayOfWrong)

/-- 'laws.FnExactHourNumber': WHATEVER THE INPUT: true; the input reads as it did. -/
def fnExactHourNumberSpec : ChangeSpec := { name := "fnExactHourNumber", fn := fun _ => fun
  | [d1, d2] => { results := [.lit (.bool true)], args := [d1, d2] }
  | _ => none }
def fnExactHourNumberRow : OpenClaim := { program := "ytnflndngkihaaaa", sum := "9ebf0e8c20c993e4b6046391d14d6124a3f55b36f0873d698a3804982f1c0075", func := "loop.example/g01013/laws.FnExactHourNumber", spec := "fnExactHourNumber", apart := false }
def FnExactHourNumberSaid : Prop := fnExactHourNumberRow.holds Try.pinned (OpenSpec.ofChange fnExactHourNumberSpec)

/-- ITS FALSE NEIGHBOUR: 'it returns false'. Refute it at one input. -/
def fnExactHourNumberWrong : ChangeSpec := { name := "fnExactHourNumber", fn := fun _ => fun
  | [d1, d2] => { results := [.lit (.bool false)], args := [d1, d2] }
  | _ => none }
def FnExactHourNumberWrongFalsely : Prop := fnExactHourNumberRow.holds Try.pinned (OpenSpec.ofChange fnExactHourNumberWrong)

/-- 'laws.FnExactSnowMass': WHATEVER THE INPUT: true; the input reads as it did. -/
def fnExactSnowMassSpec : ChangeSpec := { name := "fnExactSnowMass", fn := fun _ => fun
  | [d1, d2] => { results := [.lit (.bool true)], args := [d1, d2] }
  | _ => none }
def fnExactSnowMassRow : OpenClaim := { program := "ytnflndngkihaaaa", sum := "9ebf0e8c20c993e4b6046391d14d6124a3f55b36f0873d698a3804982f1c0075", func := "loop.example/g01013/laws.FnExactSnowMass", spec := "fnExactSnowMass", apart := false }
def FnExactSnowMassSaid : Prop := fnExactSnowMassRow.holds Try.pinned (OpenSpec.ofChange fnExactSnowMassSpec)

/-- ITS FALSE NEIGHBOUR: 'it returns false'. Refute it at one input. -/
def fnExactSnowMassWrong : ChangeSpec := { name := "fnExactSnowMass", fn := fun _ => fun
  | [d1, d2] => { results := [.lit (.bool false)], args := [d1, d2] }
  | _ => none }
def FnExactSnowMassWrongFalsely : Prop := fnExactSnowMassRow.holds Try.pinned (OpenSpec.ofChange fnExactSnowMassWrong)

/-- 'laws.FnExactSnowHeight': WHATEVER THE INPUT: true; the input reads as it did. -/
def fnExactSnowHeightSpec : ChangeSpec := { name := "fnExactSnowHeight", fn := fun _ => fun
  | [d1, d2] => { results := [.lit (.bool true)], args := [d1, d2] }
  | _ => none }
def fnExactSnowHeightRow : OpenClaim := { program := "ytnflndngkihaaaa", sum := "9ebf0e8c20c993e4b6046391d14d6124a3f55b36f0873d698a3804982f1c0075", func := "loop.example/g01013/laws.FnExactSnowHeight", spec := "fnExactSnowHeight", apart := false }
def FnExactSnowHeightSaid : Prop := fnExactSnowHeightRow.holds Try.pinned (OpenSpec.ofChange fnExactSnowHeightSpec)

/-- ITS FALSE NEIGHBOUR: 'it returns false'. Refute it at one input. -/
def fnExactSnowHeightWrong : ChangeSpec := { name := "fnExactSnowHeight", fn := fun _ => fun
  | [d1, d2] => { results := [.lit (.bool false)], args := [d1, d2] }
  | _ => none }
def FnExactSnowHeightWrongFalsely : Prop := fnExactSnowHeightRow.holds Try.pinned (OpenSpec.ofChange fnExactSnowHeightWrong)

/-- 'laws.FnExactValidLayer': WHATEVER THE INPUT: true; the input reads as it did. -/
def fnExactValidLayerSpec : ChangeSpec := { name := "fnExactValidLayer", fn := fun _ => fun
  | [d] => { results := [.lit (.bool true)], args := [d] }
  | _ => none }
def fnExactValidLayerRow : OpenClaim := { program := "ytnflndngkihaaaa", sum := "9ebf0e8c20c993e4b6046391d14d6124a3f55b36f0873d698a3804982f1c0075", func := "loop.example/g01013/laws.FnExactValidLayer", spec := "fnExactValidLayer", apart := false }
def FnExactValidLayerSaid : Prop := fnExactValidLayerRow.holds Try.pinned (OpenSpec.ofChange fnExactValidLayerSpec)

/-- ITS FALSE NEIGHBOUR: 'it returns false'. Refute it at one input. -/
def fnExactValidLayerWrong : ChangeSpec := { name := "fnExactValidLayer", fn := fun _ => fun
  | [d] => { results := [.lit (.bool false)], args := [d] }
  | _ => none }
def FnExactValidLayerWrongFalsely : Prop := fnExactValidLayerRow.holds Try.pinned (OpenSpec.ofChange fnExactValidLayerWrong)

/-- 'laws.FnExactValidProfile': WHATEVER THE INPUT: true; the input reads as it did. -/
def fnExactValidProfileSpec : ChangeSpec := { name := "fnExactValidProfile", fn := fun _ => fun
  | [d] => { results := [.lit (.bool true)], args := [d] }
  | _ => none }
def fnExactValidProfileRow : OpenClaim := { program := "ytnflndngkihaaaa", sum := "9ebf0e8c20c993e4b6046391d14d6124a3f55b36f0873d698a3804982f1c0075", func := "loop.example/g01013/laws.FnExactValidProfile", spec := "fnExactValidProfile", unfollowed := true, recurses := true, apart := false }
def FnExactValidProfileSaid : Prop := fnExactValidProfileRow.holds Try.pinned (OpenSpec.ofChange fnExactValidProfileSpec)

/-- ITS FALSE NEIGHBOUR: 'it returns false'. Refute it at one input. -/
def fnExactValidProfileWrong : ChangeSpec := { name := "fnExactValidProfile", fn := fun _ => fun
  | [d] => { results := [.lit (.bool false)], args := [d] }
  | _ => none }
def FnExactValidProfileWrongFalsely : Prop := fnExactValidProfileRow.holds Try.pinned (OpenSpec.ofChange fnExactValidProfileWrong)

/- THE SECOND FORM. 'bulk': how many values and letters a reading holds, each counted each time it is reached (what is shared counts as often as it is met; a slice's spare places count too). A statement '..UptoSaid' is the law's where the arguments, and the package variables that the reading takes, are together of bulk at most 1048576: NARROWER than '..Said'. Prove '..Said' where nothing that the law and all that it calls make is longer than what came in: it says more and counts as full. Else prove '..UptoSaid'. A law counts once. -/
mutual
def uptoBulk {H : Type} : DataW H → Nat
  | .lit (.string bytes) => bytes.length + 1
  | .lit _ => 1
  | .nil => 1
  | .ptr d => uptoBulk d + 1
  | .slice elems spare => uptoBulkAll elems + uptoBulkAll spare + 1
  | .agg parts => uptoBulkAll parts + 1
  | .iface _ d => uptoBulk d + 1
  | .map entries => uptoBulkEntries entries + 1
  | .held _ => 1
def uptoBulkAll {H : Type} : List (DataW H) → Nat
  | [] => 0
  | d :: r => uptoBulk d + uptoBulkAll r
def uptoBulkEntries {H : Type} : List (Lit × DataW H) → Nat
  | [] => 0
  | x :: r => uptoBulkEntry x + uptoBulkEntries r
def uptoBulkEntry {H : Type} : Lit × DataW H → Nat
  | (.string bytes, d) => bytes.length + uptoBulk d + 1
  | (_, d) => uptoBulk d + 1
 end
def uptoSmall : (H : Type) → List (DataW H) → Bool := fun _ ds => decide (uptoBulkAll ds ≤ 1048576)
def OpenSpec.upto (s : _root_.Go.ChangeSpec) : _root_.Go.OpenSpec := { _root_.Go.OpenSpec.ofChange s with cond := some uptoSmall }

/-- 'laws.FnExactWeekdayOf', WHERE WHAT IT READS IS OF BULK AT MOST 1048576: true; the input reads as it did. -/
def fnExactWeekdayOfUptoRow : OpenClaim := { program := "ytnflndngkihaaaa", sum := "9ebf0e8c20c993e4b6046391d14d6124a3f55b36f0873d698a3804982f1c0075", func := "loop.example/g01013/laws.FnExactWeekdayOf", spec := "fnExactWeekdayOf", apart := false, narrowed := true }
def FnExactWeekdayOfUptoSaid : Prop := fnExactWeekdayOfUptoRow.holds Try.pinned (OpenSpec.upto fnExactWeekdayOfSpec)

/-- 'laws.FnExactHourNumber', WHERE WHAT IT READS IS OF BULK AT MOST 1048576: true; the input reads as it did. -/
def fnExactHourNumberUptoRow : OpenClaim := { program := "ytnflndngkihaaaa", sum := "9ebf0e8c20c993e4b6046391d14d6124a3f55b36f0873d698a3804982f1c0075", func := "loop.example/g01013/laws.FnExactHourNumber", spec := "fnExactHourNumber", apart := false, narrowed := true }
def FnExactHourNumberUptoSaid : Prop := fnExactHourNumberUptoRow.holds Try.pinned (OpenSpec.upto fnExactHourNumberSpec)

/-- 'laws.FnExactSnowMass', WHERE WHAT IT READS IS OF BULK AT MOST 1048576: true; the input reads as it did. -/
def fnExactSnowMassUptoRow : OpenClaim := { program := "ytnflndngkihaaaa", sum := "9ebf0e8c20c993e4b6046391d14d6124a3f55b36f0873d698a3804982f1c0075", func := "loop.example/g01013/laws.FnExactSnowMass", spec := "fnExactSnowMass", apart := false, narrowed := true }
def FnExactSnowMassUptoSaid : Prop := fnExactSnowMassUptoRow.holds Try.pinned (OpenSpec.upto fnExactSnowMassSpec)

/-- 'laws.FnExactSnowHeight', WHERE WHAT IT READS IS OF BULK AT MOST 1048576: true; the input reads as it did. -/
def fnExactSnowHeightUptoRow : OpenClaim := { program := "ytnflndngkihaaaa", sum := "9ebf0e8c20c993e4b6046391d14d6124a3f55b36f0873d698a3804982f1c0075", func := "loop.example/g01013/laws.FnExactSnowHeight", spec := "fnExactSnowHeight", apart := false, narrowed := true }
def FnExactSnowHeightUptoSaid : Prop := fnExactSnowHeightUptoRow.holds Try.pinned (OpenSpec.upto fnExactSnowHeightSpec)

/-- 'laws.FnExactValidLayer', WHERE WHAT IT READS IS OF BULK AT MOST 1048576: true; the input reads as it did. -/
def fnExactValidLayerUptoRow : OpenClaim := { program := "ytnflndngkihaaaa", sum := "9ebf0e8c20c993e4b6046391d14d6124a3f55b36f0873d698a3804982f1c0075", func := "loop.example/g01013/laws.FnExactValidLayer", spec := "fnExactValidLayer", apart := false, narrowed := true }
def FnExactValidLayerUptoSaid : Prop := fnExactValidLayerUptoRow.holds Try.pinned (OpenSpec.upto fnExactValidLayerSpec)

/-- 'laws.FnExactValidProfile', WHERE WHAT IT READS IS OF BULK AT MOST 1048576: true; the input reads as it did. -/
def fnExactValidProfileUptoRow : OpenClaim := { program := "ytnflndngkihaaaa", sum := "9ebf0e8c20c993e4b6046391d14d6124a3f55b36f0873d698a3804982f1c0075", func := "loop.example/g01013/laws.FnExactValidProfile", spec := "fnExactValidProfile", unfollowed := true, recurses := true, apart := false, narrowed := true }
def FnExactValidProfileUptoSaid : Prop := fnExactValidProfileUptoRow.holds Try.pinned (OpenSpec.upto fnExactValidProfileSpec)

end Rows
end Go.Proofs.Ytnflndngkihaaaa
