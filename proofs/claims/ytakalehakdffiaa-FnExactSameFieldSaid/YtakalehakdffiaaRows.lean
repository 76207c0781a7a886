/-
  No cell of these rows narrows 'for every input' (looked for: loops, veiled, ifaces, maps, wideKeys, modest, calm, conditions, laid).
  DERIVED. THE GIVEN ROWS OF THIS SEAT. 5 by the template 'for every input the law returns true; each argument reads behind the call as it read before'; 0 by the template 'total and deterministic' (their statements: YtakalehakdffiaaTotals.lean).
  GIVEN WITH THE SEED: the statements are not yours to turn. If you find one false, say at which input.
  Laid BY PROGRAM, IN A SANDBOX (cutbox-rows.mjs): the forced cells as the released guide's own fill.sh prints them over the translation 3f16810662769df1… (all of the seat's roots in one cut). By AI agents, Wed Nov 11 2026. No macro, syntax, notation, axiom, sorry.
-/
import Derived.Test.YtakalehakdffiaaChecked
import GoSem.Claim
import GoSem.ClaimJoined
import GoSem.ClaimMapViews
import Derived.JoinedTies
import Derived.KernelRfl
namespace Go.Proofs.Ytakalehakdffiaa
/- THE CELL 'sum', in the pinned program and in every row, IS THE sha256 OF THE DUMP (.gsa) THAT YtakalehakdffiaaProg.lean LOADS. Nothing in Lean hashes anything: it is a label: what it is worth is what the hold of that sum in a sandbox is worth. -/
noncomputable def Try.pinned : Pinned := { name := "ytakalehakdffiaa", sum := "3f16810662769df188de1abb0f5bfefcb3f90fbf31934817c4c36e14d3157013", checked := Try.checked }
namespace Rows
def none {H : Type} : Left H := { results := [], args := [] }

/-- 'laws.FnExactValidField': WHATEVER THE INPUT: true; the input reads as it did. -/
def fnExactValidFieldSpec : ChangeSpec := { name := "fnExactValidField", fn := fun _ => fun
  | [d] => { results := [.lit (.bool true)], args := [d] }
  | _ => none }
def fnExactValidFieldRow : OpenClaim := { program := "ytakalehakdffiaa", sum := "3f16810662769df188de1abb0f5bfefcb3f90fbf31934817c4c36e14d3157013", func := "loop.example/g01013/laws.FnExactValidField", spec := "fnExactValidField", unfollowed := true, recurses := true, apart := false }
def FnExactValidFieldSaid : Prop := fnExactValidFieldRow.holds Try.pinned (OpenSpec.ofChange fnExactValidFieldSpec)

/-- ITS FALSE NEIGHBOUR: 'it returns false'. Refute it at one input. -/
def fnExactValidFieldWrong : ChangeSpec := { name := "fnExactValidField", fn := fun _ => fun
  | [d] => { results := [.lit (.bool false)], args := [d] }
  | _ => none }
def FnExactValidFieldWrongFalsely : Prop := fnExactValidFieldRow.holds Try.pinned (OpenSpec.ofChange fnExactValidFieldWrong)

/-- 'laws.FnExactSameField': WHATEVER THE INPUT: true; the input reads as it did. -/
def fnExactSameFieldSpec : ChangeSpec := { name := "fnExactSameField", fn := fun _ => fun
  | [d1, d2] => { results := [.lit (.bool true)], args := [d1, d2] }
  | _ => none }
def fnExactSameFieldRow : OpenClaim := { program := "ytakalehakdffiaa", sum := "3f16810662769df188de1abb0f5bfefcb3f90fbf31934817c4c36e14d3157013", func := "loop.example/g01013/laws.FnExactSameField", spec := "fnExactSameField", apart := false }
def FnExactSameFieldSaid : Prop := fnExactSameFieldRow.holds Try.pinned (OpenSpec.ofChange fnExactSameFieldSpec)

/-- ITS FALSE NEIGHBOUR: 'it returns false'. Refute it at one input. -/
def fnExactSameFieldWrong : ChangeSpec := { name := "fnExactSameField", fn := fun _ => fun
  | [d1, d2] => { results := [.lit (.bool false)], args := [d1, d2] }
  | _ => none }
def FnExactSameFieldWrongFalsely : Prop := fnExactSameFieldRow.holds Try.pinned (OpenSpec.ofChange fnExactSameFieldWrong)

/-- 'laws.FnExactFieldMass': WHATEVER THE INPUT: true; the input reads as it did. -/
def fnExactFieldMassSpec : ChangeSpec := { name := "fnExactFieldMass", fn := fun _ => fun
  | [d] => { results := [.lit (.bool true)], args := [d] }
  | _ => none }
def fnExactFieldMassRow : OpenClaim := { program := "ytakalehakdffiaa", sum := "3f16810662769df188de1abb0f5bfefcb3f90fbf31934817c4c36e14d3157013", func := "loop.example/g01013/laws.FnExactFieldMass", spec := "fnExactFieldMass", unfollowed := true, recurses := true, apart := false }
def FnExactFieldMassSaid : Prop := fnExactFieldMassRow.holds Try.pinned (OpenSpec.ofChange fnExactFieldMassSpec)

/-- ITS FALSE NEIGHBOUR: 'it returns false'. Refute it at one input. -/
def fnExactFieldMassWrong : ChangeSpec := { name := "fnExactFieldMass", fn := fun _ => fun
  | [d] => { results := [.lit (.bool false)], args := [d] }
  | _ => none }
def FnExactFieldMassWrongFalsely : Prop := fnExactFieldMassRow.holds Try.pinned (OpenSpec.ofChange fnExactFieldMassWrong)

/-- 'laws.FnExactShareOf': WHATEVER THE INPUT: true; the input reads as it did. -/
def fnExactShareOfSpec : ChangeSpec := { name := "fnExactShareOf", fn := fun _ => fun
  | [d] => { results := [.lit (.bool true)], args := [d] }
  | _ => none }
def fnExactShareOfRow : OpenClaim := { program := "ytakalehakdffiaa", sum := "3f16810662769df188de1abb0f5bfefcb3f90fbf31934817c4c36e14d3157013", func := "loop.example/g01013/laws.FnExactShareOf", spec := "fnExactShareOf", apart := false }
def FnExactShareOfSaid : Prop := fnExactShareOfRow.holds Try.pinned (OpenSpec.ofChange fnExactShareOfSpec)

/-- ITS FALSE NEIGHBOUR: 'it returns false'. Refute it at one input. -/
def fnExactShareOfWrong : ChangeSpec := { name := "fnExactShareOf", fn := fun _ => fun
  | [d] => { results := [.lit (.bool false)], args := [d] }
  | _ => none }
def FnExactShareOfWrongFalsely : Prop := fnExactShareOfRow.holds Try.pinned (OpenSpec.ofChange fnExactShareOfWrong)

/-- 'laws.FnExactSnowOver': WHATEVER THE INPUT: true; the input reads as it did. -/
def fnExactSnowOverSpec : ChangeSpec := { name := "fnExactSnowOver", fn := fun _ => fun
  | [d1, d2] => { results := [.lit (.bool true)], args := [d1, d2] }
  | _ => none }
def fnExactSnowOverRow : OpenClaim := { program := "ytakalehakdffiaa", sum := "3f16810662769df188de1abb0f5bfefcb3f90fbf31934817c4c36e14d3157013", func := "loop.example/g01013/laws.FnExactSnowOver", spec := "fnExactSnowOver", unfollowed := true, recurses := true, apart := false }
def FnExactSnowOverSaid : Prop := fnExactSnowOverRow.holds Try.pinned (OpenSpec.ofChange fnExactSnowOverSpec)

/-- ITS FALSE NEIGHBOUR: 'it returns false'. Refute it at one input. -/
def fnExactSnowOverWrong : ChangeSpec := { name := "fnExactSnowOver", fn := fun _ => fun
  | [d1, d2] => { results := [.lit (.bool false)], args := [d1, d2] }
  | _ => none }
def FnExactSnowOverWrongFalsely : Prop := fnExactSnowOverRow.holds Try.pinned (OpenSpec.ofChange fnExactSnowOverWrong)

/- THE SECOND FORM. 'bulk': how many values and letters a reading holds, each counted each time it is reached (what is shared counts as often as it is met; a slice's spare places count too). A statement '..UptoSaid' is the law's where the arguments, and the package variables that the reading takes, are together of bulk at most 1048576: NARROWER than '..Said'. Prove '..Said' where nothing that the law and all that it calls make is longer than what came in: it says more and counts as full. Else prove '..UptoSaid'. A law counts once. -/
mutual
def uptoBulk {H : Type} : DataW H → Nat
  | .lit (.string bytes) => bytes.length + 1
  | .lit _ => 1
  | .nil => 1
  | .ptr d => uptoBulk d + 1
  | .slice elems spare => uptoBulkAll elems + uptoBulkAll spare + 1
  | .agg parts => uptoBulkAll parts + 1
  | .iface _ d => uptoBulk d + 1
  | .map entries => uptoBulkEntries entries + 1
  | .held _ => 1
def uptoBulkAll {H : Type} : List (DataW H) → Nat
  | [] => 0
  | d :: r => uptoBulk d + uptoBulkAll r
def uptoBulkEntries {H : Type} : List (Lit × DataW H) → Nat
  | [] => 0
  | x :: r => uptoBulkEntry x + uptoBulkEntries r
def uptoBulkEntry {H : Type} : Lit × DataW H → Nat
  | (.string bytes, d) => bytes.length + uptoBulk d + 1
  | (_, d) => uptoBulk d + 1
 end
def uptoSmall : (H : Type) → List (DataW H) → Bool := fun _ ds => decide (uptoBulkAll ds ≤ 1048576)
def OpenSpec.upto (s : _root_.Go.ChangeSpec) : _root_.Go.OpenSpec := { _root_.Go.OpenSpec.ofChange s with cond := some uptoSmall }

/-- 'laws.FnExactValidField', WHERE WHAT IT READS IS OF BULK AT MOST 1048576: true; the input reads as it did. -/
def fnExactValidFieldUptoRow : OpenClaim := { program := "ytakalehakdffiaa", sum := "3f16810662769df188de1abb0f5bfefcb3f90fbf31934817c4c36e14d3157013", func := "loop.example/g01013/laws.FnExactValidField", spec := "fnExactValidField", unfollowed := true, recurses := true, apart := false, narrowed := true }
def FnExactValidFieldUptoSaid : Prop := fnExactValidFieldUptoRow.holds Try.pinned (OpenSpec.upto fnExactValidFieldSpec)

/-- 'laws.FnExactSameField', WHERE WHAT IT READS IS OF BULK AT MOST 1048576: true; the input reads as it did. -/
def fnExactSameFieldUptoRow : OpenClaim := { program := "ytakalehakdffiaa", sum := "3f16810662769df188de1abb0f5bfefcb3f90fbf31934817c4c36e14d3157013", func := "loop.example/g01013/laws.FnExactSameField", spec := "fnExactSameField", apart := false, narrowed := true }
def FnExactSameFieldUptoSaid : Prop := fnExactSameFieldUptoRow.holds Try.pinned (OpenSpec.upto fnExactSameFieldSpec)

/-- 'laws.FnExactFieldMass', WHERE WHAT IT READS IS OF BULK AT MOST 1048576: true; the input reads as it did. -/
def fnExactFieldMassUptoRow : OpenClaim := { program := "ytakalehakdffiaa", sum := "3f16810662769df188de1abb0f5bfefcb3f90fbf31934817c4c36e14d3157013", func := "loop.example/g01013/laws.FnExactFieldMass", spec := "fnExactFieldMass", unfollowed := true, recurses := true, apart := false, narrowed := true }
def FnExactFieldMassUptoSaid : Prop := fnExactFieldMassUptoRow.holds Try.pinned (OpenSpec.upto fnExactFieldMassSpec)

/-- 'laws.FnExactShareOf', WHERE WHAT IT READS IS OF BULK AT MOST 1048576: true; the input reads as it did. -/
def fnExactShareOfUptoRow : OpenClaim := { program := "ytakalehakdffiaa", sum := "3f16810662769df188de1abb0f5bfefcb3f90fbf31934817c4c36e14d3157013", func := "loop.example/g01013/laws.FnExactShareOf", spec := "fnExactShareOf", apart := false, narrowed := true }
def FnExactShareOfUptoSaid : Prop := fnExactShareOfUptoRow.holds Try.pinned (OpenSpec.upto fnExactShareOfSpec)

/-- 'laws.FnExactSnowOver', WHERE WHAT IT READS IS OF BULK AT MOST 1048576: true; the input reads as it did. -/
def fnExactSnowOverUptoRow : OpenClaim := { program := "ytakalehakdffiaa", sum := "3f16810662769df188de1abb0f5bfefcb3f90fbf31934817c4c36e14d3157013", func := "loop.example/g01013/laws.FnExactSnowOver", spec := "fnExactSnowOver", unfollowed := true, recurses := true, apart := false, narrowed := true }
def FnExactSnowOverUptoSaid : Prop := fnExactSnowOverUptoRow.holds Try.pinned (OpenSpec.upto fnExactSnowOverSpec)

end Rows
end Go.Proofs.Ytakalehakdffiaa
