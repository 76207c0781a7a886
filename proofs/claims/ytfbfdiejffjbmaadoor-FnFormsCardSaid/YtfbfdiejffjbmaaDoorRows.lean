/-
  NARROWER THAN 'FOR EVERY INPUT', by the rows' own cells (each row's printed sentence says how): FnForms: laid · FnExactChangeForms: laid · FnExactStepHour: laid · FnExactRunHours: laid.
  DERIVED. THE GIVEN ROWS OF THIS SEAT. 4 by the template 'for every input the law returns true; each argument reads behind the call as it read before'; 0 by the template 'total and deterministic' (their statements: YtfbfdiejffjbmaaDoorTotals.lean).
  GIVEN WITH THE SEED: the statements are not yours to turn. If you find one false, say at which input.
  Laid BY PROGRAM, IN A SANDBOX (cutbox-rows.mjs): the forced cells as the released guide's own fill.sh prints them over the translation 2d3013aa84e708e7… (all of the seat's roots in one cut). By AI agents, Wed Nov 11 2026. No macro, syntax, notation, axiom, sorry.
-/
import Derived.Test.YtfbfdiejffjbmaaDoorChecked
import GoSem.Claim
import GoSem.ClaimJoined
import GoSem.ClaimMapViews
import Derived.JoinedTies
import Derived.KernelRfl
namespace Go.Proofs.YtfbfdiejffjbmaaDoor
/- THE CELL 'sum', in the pinned program and in every row, IS THE sha256 OF THE DUMP (.gsa) THAT YtfbfdiejffjbmaaDoorProg.lean LOADS. Nothing in Lean hashes anything: it is a label: what it is worth is what the hold of that sum in a sandbox is worth. -/
noncomputable def Tryd.pinned : Pinned := { name := "ytfbfdiejffjbmaadoor", sum := "2d3013aa84e708e7915c297ceeeab252b40b76a462b8c15ef03acc8ab01e60b9", checked := Tryd.checked }
namespace Rows
def none {H : Type} : Left H := { results := [], args := [] }

/- WHAT THE LISTED PACKAGE-LEVEL VARIABLES READ AS WHEN THE CALL BEGINS. Each datum BY PROGRAM (the guide's laid-datum.mjs) off the statement by which the dump's own 'gosem.cut.vars' lays the variable. In a bare row this is a premise. The card (YtfbfdiejffjbmaaDoorCards.lean) ties it to the program's text. -/
def laid_loop_example_g01013_impl_formNames {H : Type} : DataW H := .agg [.lit (.string [110, 101, 119]), .lit (.string [98, 114, 111, 107, 101, 110]), .lit (.string [114, 111, 117, 110, 100]), .lit (.string [102, 97, 99, 101, 116]), .lit (.string [104, 111, 97, 114]), .lit (.string [109, 101, 108, 116])]
def laid_loop_example_g01013_impl_formRules {H : Type} : DataW H := .agg [.agg [.lit (.int .i64 5), .lit (.int .i64 0), .lit (.int .i64 2000), .lit (.int .i64 72)], .agg [.lit (.int .i64 4), .lit (.int .i64 0), .lit (.int .i64 1000), .lit (.int .i64 24)], .agg [.lit (.int .i64 2), .lit (.int .i64 1), .lit (.int .i64 0), .lit (.int .i64 48)], .agg [.lit (.int .i64 3), .lit (.int .i64 2), .lit (.int .i64 0), .lit (.int .i64 120)]]

/-- 'laws.FnForms': WHATEVER THE INPUT: true; the input reads as it did. -/
def fnFormsSpec : ChangeSpec := { name := "fnForms", vars := ["loop.example/g01013/impl.formRules", "loop.example/g01013/impl.formNames"], fn := fun _ => fun
  | [d1, d2, g1, g2] => { results := [.lit (.bool true)], args := [d1, d2], vars := [g1, g2] }
  | _ => none }
def fnFormsRow : OpenClaim := { program := "ytfbfdiejffjbmaadoor", sum := "2d3013aa84e708e7915c297ceeeab252b40b76a462b8c15ef03acc8ab01e60b9", func := "loop.example/g01013/laws.FnForms", spec := "fnForms", unfollowed := true, recurses := true, named := ["loop.example/g01013/impl.formRules", "loop.example/g01013/impl.formNames"], apart := false, laid := [("loop.example/g01013/impl.formNames", laid_loop_example_g01013_impl_formNames), ("loop.example/g01013/impl.formRules", laid_loop_example_g01013_impl_formRules)] }
def FnFormsSaid : Prop := fnFormsRow.holds Tryd.pinned (OpenSpec.ofChange fnFormsSpec)

/-- ITS FALSE NEIGHBOUR: 'it returns false'. Refute it at one input. -/
def fnFormsWrong : ChangeSpec := { name := "fnForms", vars := ["loop.example/g01013/impl.formRules", "loop.example/g01013/impl.formNames"], fn := fun _ => fun
  | [d1, d2, g1, g2] => { results := [.lit (.bool false)], args := [d1, d2], vars := [g1, g2] }
  | _ => none }
def FnFormsWrongFalsely : Prop := fnFormsRow.holds Tryd.pinned (OpenSpec.ofChange fnFormsWrong)

/-- 'laws.FnExactChangeForms': WHATEVER THE INPUT: true; the input reads as it did. -/
def fnExactChangeFormsSpec : ChangeSpec := { name := "fnExactChangeForms", vars := ["loop.example/g01013/impl.formRules"], fn := fun _ => fun
  | [d, g1] => { results := [.lit (.bool true)], args := [d], vars := [g1] }
  | _ => none }
def fnExactChangeFormsRow : OpenClaim := { program := "ytfbfdiejffjbmaadoor", sum := "2d3013aa84e708e7915c297ceeeab252b40b76a462b8c15ef03acc8ab01e60b9", func := "loop.example/g01013/laws.FnExactChangeForms", spec := "fnExactChangeForms", unfollowed := true, recurses := true, named := ["loop.example/g01013/impl.formRules"], apart := false, laid := [("loop.example/g01013/impl.formRules", laid_loop_example_g01013_impl_formRules)] }
def FnExactChangeFormsSaid : Prop := fnExactChangeFormsRow.holds Tryd.pinned (OpenSpec.ofChange fnExactChangeFormsSpec)

/-- ITS FALSE NEIGHBOUR: 'it returns false'. Refute it at one input. -/
def fnExactChangeFormsWrong : ChangeSpec := { name := "fnExactChangeForms", vars := ["loop.example/g01013/impl.formRules"], fn := fun _ => fun
  | [d, g1] => { results := [.lit (.bool false)], args := [d], vars := [g1] }
  | _ => none }
def FnExactChangeFormsWrongFalsely : Prop := fnExactChangeFormsRow.holds Tryd.pinned (OpenSpec.ofChange fnExactChangeFormsWrong)

/-- 'laws.FnExactStepHour': WHATEVER THE INPUT: true; the input reads as it did. -/
def fnExactStepHourSpec : ChangeSpec := { name := "fnExactStepHour", vars := ["loop.example/g01013/impl.formRules"], fn := fun _ => fun
  | [d1, d2, g1] => { results := [.lit (.bool true)], args := [d1, d2], vars := [g1] }
  | _ => none }
def fnExactStepHourRow : OpenClaim := { program := "ytfbfdiejffjbmaadoor", sum := "2d3013aa84e708e7915c297ceeeab252b40b76a462b8c15ef03acc8ab01e60b9", func := "loop.example/g01013/laws.FnExactStepHour", spec := "fnExactStepHour", unfollowed := true, recurses := true, named := ["loop.example/g01013/impl.formRules"], apart := false, laid := [("loop.example/g01013/impl.formRules", laid_loop_example_g01013_impl_formRules)] }
def FnExactStepHourSaid : Prop := fnExactStepHourRow.holds Tryd.pinned (OpenSpec.ofChange fnExactStepHourSpec)

/-- ITS FALSE NEIGHBOUR: 'it returns false'. Refute it at one input. -/
def fnExactStepHourWrong : ChangeSpec := { name := "fnExactStepHour", vars := ["loop.example/g01013/impl.formRules"], fn := fun _ => fun
  | [d1, d2, g1] => { results := [.lit (.bool false)], args := [d1, d2], vars := [g1] }
  | _ => none }
def FnExactStepHourWrongFalsely : Prop := fnExactStepHourRow.holds Tryd.pinned (OpenSpec.ofChange fnExactStepHourWrong)

/-- 'laws.FnExactRunHours': WHATEVER THE INPUT: true; the input reads as it did. -/
def fnExactRunHoursSpec : ChangeSpec := { name := "fnExactRunHours", vars := ["loop.example/g01013/impl.formRules"], fn := fun _ => fun
  | [d1, d2, g1] => { results := [.lit (.bool true)], args := [d1, d2], vars := [g1] }
  | _ => none }
def fnExactRunHoursRow : OpenClaim := { program := "ytfbfdiejffjbmaadoor", sum := "2d3013aa84e708e7915c297ceeeab252b40b76a462b8c15ef03acc8ab01e60b9", func := "loop.example/g01013/laws.FnExactRunHours", spec := "fnExactRunHours", unfollowed := true, recurses := true, named := ["loop.example/g01013/impl.formRules"], apart := false, laid := [("loop.example/g01013/impl.formRules", laid_loop_example_g01013_impl_formRules)] }
def FnExactRunHoursSaid : Prop := fnExactRunHoursRow.holds Tryd.pinned (OpenSpec.ofChange fnExactRunHoursSpec)

/-- ITS FALSE NEIGHBOUR: 'it returns false'. Refute it at one input. -/
def fnExactRunHoursWrong : ChangeSpec := { name := "fnExactRunHours", vars := ["loop.example/g01013/impl.formRules"], fn := fun _ => fun
  | [d1, d2, g1] => { results := [.lit (.bool false)], args := [d1, d2], vars := [g1] }
  | _ => none }
def FnExactRunHoursWrongFalsely : Prop := fnExactRunHoursRow.holds Tryd.pinned (OpenSpec.ofChange fnExactRunHoursWrong)

/- THE SECOND FORM. 'bulk': how many values and letters a reading holds, each counted each time it is reached (what is shared counts as often as it is met; a slice's spare places count too). A statement '..UptoSaid' is the law's where the arguments, and the package variables that the reading takes, are together of bulk at most 1048576: NARROWER than '..Said'. Prove '..Said' where nothing that the law and all that it calls make is longer than what came in: it says more and counts as full. Else prove '..UptoSaid'. A law counts once. -/
mutual
def uptoBulk {H : Type} : DataW H → Nat
  | .lit (.string bytes) => bytes.length + 1
  | .lit _ => 1
  | .nil => 1
  | .ptr d => uptoBulk d + 1
  | .slice elems spare => uptoBulkAll elems + uptoBulkAll spare + 1
  | .agg parts => uptoBulkAll parts + 1
  | .iface _ d => uptoBulk d + 1
  | .map entries => uptoBulkEntries entries + 1
  | .held _ => 1
def uptoBulkAll {H : Type} : List (DataW H) → Nat
  | [] => 0
  | d :: r => uptoBulk d + uptoBulkAll r
def uptoBulkEntries {H : Type} : List (Lit × DataW H) → Nat
  | [] => 0
  | x :: r => uptoBulkEntry x + uptoBulkEntries r
def uptoBulkEntry {H : Type} : Lit × DataW H → Nat
  | (.string bytes, d) => bytes.length + uptoBulk d + 1
  | (_, d) => uptoBulk d + 1
 end
def uptoSmall : (H : Type) → List (DataW H) → Bool := fun _ ds => decide (uptoBulkAll ds ≤ 1048576)
def OpenSpec.upto (s : _root_.Go.ChangeSpec) : _root_.Go.OpenSpec := { _root_.Go.OpenSpec.ofChange s with cond := some uptoSmall }

/-- 'laws.FnForms', WHERE WHAT IT READS IS OF BULK AT MOST 1048576: true; the input reads as it did. -/
def fnFormsUptoRow : OpenClaim := { program := "ytfbfdiejffjbmaadoor", sum := "2d3013aa84e708e7915c297ceeeab252b40b76a462b8c15ef03acc8ab01e60b9", func := "loop.example/g01013/laws.FnForms", spec := "fnForms", unfollowed := true, recurses := true, named := ["loop.example/g01013/impl.formRules", "loop.example/g01013/impl.formNames"], apart := false, laid := [("loop.example/g01013/impl.formNames", laid_loop_example_g01013_impl_formNames), ("loop.example/g01013/impl.formRules", laid_loop_example_g01013_impl_formRules)], narrowed := true }
def FnFormsUptoSaid : Prop := fnFormsUptoRow.holds Tryd.pinned (OpenSpec.upto fnFormsSpec)

/-- 'laws.FnExactChangeForms', WHERE WHAT IT READS IS OF BULK AT MOST 1048576: true; the input reads as it did. -/
def fnExactChangeFormsUptoRow : OpenClaim := { program := "ytfbfdiejffjbmaadoor", sum := "2d3013aa84e708e7915c297ceeeab252b40b76a462b8c15ef03acc8ab01e60b9", func := "loop.example/g01013/laws.FnExactChangeForms", spec := "fnExactChangeForms", unfollowed := true, recurses := true, named := ["loop.example/g01013/impl.formRules"], apart := false, laid := [("loop.example/g01013/impl.formRules", laid_loop_example_g01013_impl_formRules)], narrowed := true }
def FnExactChangeFormsUptoSaid : Prop := fnExactChangeFormsUptoRow.holds Tryd.pinned (OpenSpec.upto fnExactChangeFormsSpec)

/-- 'laws.FnExactStepHour', WHERE WHAT IT READS IS OF BULK AT MOST 1048576: true; the input reads as it did. -/
def fnExactStepHourUptoRow : OpenClaim := { program := "ytfbfdiejffjbmaadoor", sum := "2d3013aa84e708e7915c297ceeeab252b40b76a462b8c15ef03acc8ab01e60b9", func := "loop.example/g01013/laws.FnExactStepHour", spec := "fnExactStepHour", unfollowed := true, recurses := true, named := ["loop.example/g01013/impl.formRules"], apart := false, laid := [("loop.example/g01013/impl.formRules", laid_loop_example_g01013_impl_formRules)], narrowed := true }
def FnExactStepHourUptoSaid : Prop := fnExactStepHourUptoRow.holds Tryd.pinned (OpenSpec.upto fnExactStepHourSpec)

/-- 'laws.FnExactRunHours', WHERE WHAT IT READS IS OF BULK AT MOST 1048576: true; the input reads as it did. -/
def fnExactRunHoursUptoRow : OpenClaim := { program := "ytfbfdiejffjbmaadoor", sum := "2d3013aa84e708e7915c297ceeeab252b40b76a462b8c15ef03acc8ab01e60b9", func := "loop.example/g01013/laws.FnExactRunHours", spec := "fnExactRunHours", unfollowed := true, recurses := true, named := ["loop.example/g01013/impl.formRules"], apart := false, laid := [("loop.example/g01013/impl.formRules", laid_loop_example_g01013_impl_formRules)], narrowed := true }
def FnExactRunHoursUptoSaid : Prop := fnExactRunHoursUptoRow.holds Tryd.pinned (OpenSpec.upto fnExactRunHoursSpec)

end Rows
end Go.Proofs.YtfbfdiejffjbmaaDoor
