/-
  NARROWER THAN 'FOR EVERY INPUT', by the rows' own cells (each row's printed sentence says how): FnExactSizeClass: laid · FnExactGrowthOf: ifaces, laid · FnExactLargestMass: ifaces, laid · FnExactLeastStart: ifaces, laid · FnExactJoinTonnes: ifaces, laid · FnVolumes: ifaces, laid · FnGrowth: ifaces, laid · FnExactPartText: laid · FnExactReadPart: laid.
  DERIVED. THE GIVEN ROWS OF THIS SEAT. 9 by the template 'for every input the law returns true; each argument reads behind the call as it read before'; 0 by the template 'total and deterministic' (their statements: YtobcflcmlejajaaDoorTotals.lean).
  GIVEN WITH THE SEED: the statements are not yours to turn. If you find one false, say at which input.
  Laid BY PROGRAM, IN A SANDBOX (cutbox-rows.mjs): the forced cells as the released guide's own fill.sh prints them over the translation e4c874fc60d139e2… (all of the seat's roots in one cut). By AI agents, Wed Nov 11 2026. No macro, syntax, notation, axiom, sorry.
-/
import Derived.Test.YtobcflcmlejajaaDoorChecked
import GoSem.PinnedTables
import GoSem.Claim
import GoSem.ClaimJoined
import GoSem.ClaimMapViews
import Derived.JoinedTies
import Derived.KernelRfl
namespace Go.Proofs.YtobcflcmlejajaaDoor
/- THE CELL 'sum', in the pinned program and in every row, IS THE sha256 OF THE DUMP (.gsa) THAT YtobcflcmlejajaaDoorProg.lean LOADS. Nothing in Lean hashes anything: it is a label: what it is worth is what the hold of that sum in a sandbox is worth. -/
noncomputable def Tryd.pinned : Pinned := { name := "ytobcflcmlejajaadoor", sum := "e4c874fc60d139e2bdf6a8df8628d195bfe1fbc76ce9e78740d9825f804a97c4", checked := Tryd.checked }
namespace Rows
def none {H : Type} : Left H := { results := [], args := [] }

/- WHAT THE LISTED PACKAGE-LEVEL VARIABLES READ AS WHEN THE CALL BEGINS. Each datum BY PROGRAM (the guide's laid-datum.mjs) off the statement by which the dump's own 'gosem.cut.vars' lays the variable. In a bare row this is a premise. The card (YtobcflcmlejajaaDoorCards.lean) ties it to the program's text. -/
def laid_loop_example_g01013_impl_sizeLimits {H : Type} : DataW H := .agg [.lit (.int .i64 10), .lit (.int .i64 100), .lit (.int .i64 1000), .lit (.int .i64 10000)]
def laid_loop_example_g01013_impl_errTooGreat {H : Type} : DataW H := .iface "*errors.errorString" (.ptr (.agg [.lit (.string [97, 32, 109, 97, 115, 115, 32, 105, 115, 32, 116, 111, 111, 32, 103, 114, 101, 97, 116])]))
def laid_math_bits_deBruijn32tab {H : Type} : DataW H := .agg [.lit (.int .u8 0), .lit (.int .u8 1), .lit (.int .u8 28), .lit (.int .u8 2), .lit (.int .u8 29), .lit (.int .u8 14), .lit (.int .u8 24), .lit (.int .u8 3), .lit (.int .u8 30), .lit (.int .u8 22), .lit (.int .u8 20), .lit (.int .u8 15), .lit (.int .u8 25), .lit (.int .u8 17), .lit (.int .u8 4), .lit (.int .u8 8), .lit (.int .u8 31), .lit (.int .u8 27), .lit (.int .u8 13), .lit (.int .u8 23), .lit (.int .u8 21), .lit (.int .u8 19), .lit (.int .u8 16), .lit (.int .u8 7), .lit (.int .u8 26), .lit (.int .u8 12), .lit (.int .u8 18), .lit (.int .u8 6), .lit (.int .u8 11), .lit (.int .u8 5), .lit (.int .u8 10), .lit (.int .u8 9)]
def laid_math_bits_deBruijn64tab {H : Type} : DataW H := .agg [.lit (.int .u8 0), .lit (.int .u8 1), .lit (.int .u8 56), .lit (.int .u8 2), .lit (.int .u8 57), .lit (.int .u8 49), .lit (.int .u8 28), .lit (.int .u8 3), .lit (.int .u8 61), .lit (.int .u8 58), .lit (.int .u8 42), .lit (.int .u8 50), .lit (.int .u8 38), .lit (.int .u8 29), .lit (.int .u8 17), .lit (.int .u8 4), .lit (.int .u8 62), .lit (.int .u8 47), .lit (.int .u8 59), .lit (.int .u8 36), .lit (.int .u8 45), .lit (.int .u8 43), .lit (.int .u8 51), .lit (.int .u8 22), .lit (.int .u8 53), .lit (.int .u8 39), .lit (.int .u8 33), .lit (.int .u8 30), .lit (.int .u8 24), .lit (.int .u8 18), .lit (.int .u8 12), .lit (.int .u8 5), .lit (.int .u8 63), .lit (.int .u8 55), .lit (.int .u8 48), .lit (.int .u8 27), .lit (.int .u8 60), .lit (.int .u8 41), .lit (.int .u8 37), .lit (.int .u8 16), .lit (.int .u8 46), .lit (.int .u8 35), .lit (.int .u8 44), .lit (.int .u8 21), .lit (.int .u8 52), .lit (.int .u8 32), .lit (.int .u8 23), .lit (.int .u8 11), .lit (.int .u8 54), .lit (.int .u8 26), .lit (.int .u8 40), .lit (.int .u8 15), .lit (.int .u8 34), .lit (.int .u8 20), .lit (.int .u8 31), .lit (.int .u8 10), .lit (.int .u8 25), .lit (.int .u8 14), .lit (.int .u8 19), .lit (.int .u8 9), .lit (.int .u8 13), .lit (.int .u8 8), .lit (.int .u8 7), .lit (.int .u8 6)]
def laid_internal_strconv_uint64pow10 {H : Type} : DataW H := .agg [.lit (.int .u64 1), .lit (.int .u64 10), .lit (.int .u64 100), .lit (.int .u64 1000), .lit (.int .u64 10000), .lit (.int .u64 100000), .lit (.int .u64 1000000), .lit (.int .u64 10000000), .lit (.int .u64 100000000), .lit (.int .u64 1000000000), .lit (.int .u64 10000000000), .lit (.int .u64 100000000000), .lit (.int .u64 1000000000000), .lit (.int .u64 10000000000000), .lit (.int .u64 100000000000000), .lit (.int .u64 1000000000000000), .lit (.int .u64 10000000000000000), .lit (.int .u64 100000000000000000), .lit (.int .u64 1000000000000000000), .lit (.int .u64 10000000000000000000)]
def laid_unicode_utf8_acceptRanges {H : Type} : DataW H := .agg [.agg [.lit (.int .u8 128), .lit (.int .u8 191)], .agg [.lit (.int .u8 160), .lit (.int .u8 191)], .agg [.lit (.int .u8 128), .lit (.int .u8 159)], .agg [.lit (.int .u8 144), .lit (.int .u8 191)], .agg [.lit (.int .u8 128), .lit (.int .u8 143)], .agg [.lit (.int .u8 0), .lit (.int .u8 0)], .agg [.lit (.int .u8 0), .lit (.int .u8 0)], .agg [.lit (.int .u8 0), .lit (.int .u8 0)], .agg [.lit (.int .u8 0), .lit (.int .u8 0)], .agg [.lit (.int .u8 0), .lit (.int .u8 0)], .agg [.lit (.int .u8 0), .lit (.int .u8 0)], .agg [.lit (.int .u8 0), .lit (.int .u8 0)], .agg [.lit (.int .u8 0), .lit (.int .u8 0)], .agg [.lit (.int .u8 0), .lit (.int .u8 0)], .agg [.lit (.int .u8 0), .lit (.int .u8 0)], .agg [.lit (.int .u8 0), .lit (.int .u8 0)]]
def laid_strconv_ErrRange {H : Type} : DataW H := .iface "*errors.errorString" (.ptr (.agg [.lit (.string [118, 97, 108, 117, 101, 32, 111, 117, 116, 32, 111, 102, 32, 114, 97, 110, 103, 101])]))
def laid_strconv_ErrSyntax {H : Type} : DataW H := .iface "*errors.errorString" (.ptr (.agg [.lit (.string [105, 110, 118, 97, 108, 105, 100, 32, 115, 121, 110, 116, 97, 120])]))
/-- One of Go's own tables, pinned by name: the form's constant. -/
def laid_unicode_utf8_first : DataW Unit := Go.Pinned.utf8First

/-- 'laws.FnExactSizeClass': WHATEVER THE INPUT: true; the input reads as it did. -/
def fnExactSizeClassSpec : ChangeSpec := { name := "fnExactSizeClass", vars := ["loop.example/g01013/impl.sizeLimits"], fn := fun _ => fun
  | [d, g1] => { results := [.lit (.bool true)], args := [d], vars := [g1] }
  | _ => none }
def fnExactSizeClassRow : OpenClaim := { program := "ytobcflcmlejajaadoor", sum := "e4c874fc60d139e2bdf6a8df8628d195bfe1fbc76ce9e78740d9825f804a97c4", func := "loop.example/g01013/laws.FnExactSizeClass", spec := "fnExactSizeClass", unfollowed := true, recurses := true, named := ["loop.example/g01013/impl.sizeLimits"], apart := false, laid := [("loop.example/g01013/impl.sizeLimits", laid_loop_example_g01013_impl_sizeLimits)] }
def FnExactSizeClassSaid : Prop := fnExactSizeClassRow.holds Tryd.pinned (OpenSpec.ofChange fnExactSizeClassSpec)

/-- ITS FALSE NEIGHBOUR: 'it returns false'. Refute it at one input. -/
def fnExactSizeClassWrong : ChangeSpec := { name := "fnExactSizeClass", vars := ["loop.example/g01013/impl.sizeLimits"], fn := fun _ => fun
  | [d, g1] => { results := [.lit (.bool false)], args := [d], vars := [g1] }
  | _ => none }
def FnExactSizeClassWrongFalsely : Prop := fnExactSizeClassRow.holds Tryd.pinned (OpenSpec.ofChange fnExactSizeClassWrong)

/-- 'laws.FnExactGrowthOf': WHATEVER THE INPUT: true; the input reads as it did. -/
def fnExactGrowthOfSpec : ChangeSpec := { name := "fnExactGrowthOf", vars := ["loop.example/g01013/impl.errTooGreat"], fn := fun _ => fun
  | [d1, d2, d3, g1] => { results := [.lit (.bool true)], args := [d1, d2, d3], vars := [g1] }
  | _ => none }
def fnExactGrowthOfRow : OpenClaim := { program := "ytobcflcmlejajaadoor", sum := "e4c874fc60d139e2bdf6a8df8628d195bfe1fbc76ce9e78740d9825f804a97c4", func := "loop.example/g01013/laws.FnExactGrowthOf", spec := "fnExactGrowthOf", inPlace := ["internal/reflectlite.TypeOf"], unfollowed := true, recurses := true, named := ["loop.example/g01013/impl.errTooGreat"], ifaces := true, apart := false, laid := [("loop.example/g01013/impl.errTooGreat", laid_loop_example_g01013_impl_errTooGreat)] }
def FnExactGrowthOfSaid : Prop := fnExactGrowthOfRow.holds Tryd.pinned (OpenSpec.ofChange fnExactGrowthOfSpec)

/-- ITS FALSE NEIGHBOUR: 'it returns false'. Refute it at one input. -/
def fnExactGrowthOfWrong : ChangeSpec := { name := "fnExactGrowthOf", vars := ["loop.example/g01013/impl.errTooGreat"], fn := fun _ => fun
  | [d1, d2, d3, g1] => { results := [.lit (.bool false)], args := [d1, d2, d3], vars := [g1] }
  | _ => none }
def FnExactGrowthOfWrongFalsely : Prop := fnExactGrowthOfRow.holds Tryd.pinned (OpenSpec.ofChange fnExactGrowthOfWrong)

/-- 'laws.FnExactLargestMass': WHATEVER THE INPUT: true; the input reads as it did. -/
def fnExactLargestMassSpec : ChangeSpec := { name := "fnExactLargestMass", vars := ["loop.example/g01013/impl.errTooGreat"], fn := fun _ => fun
  | [d1, d2, d3, g1] => { results := [.lit (.bool true)], args := [d1, d2, d3], vars := [g1] }
  | _ => none }
def fnExactLargestMassRow : OpenClaim := { program := "ytobcflcmlejajaadoor", sum := "e4c874fc60d139e2bdf6a8df8628d195bfe1fbc76ce9e78740d9825f804a97c4", func := "loop.example/g01013/laws.FnExactLargestMass", spec := "fnExactLargestMass", inPlace := ["internal/reflectlite.TypeOf"], unfollowed := true, recurses := true, named := ["loop.example/g01013/impl.errTooGreat"], ifaces := true, apart := false, laid := [("loop.example/g01013/impl.errTooGreat", laid_loop_example_g01013_impl_errTooGreat)] }
def FnExactLargestMassSaid : Prop := fnExactLargestMassRow.holds Tryd.pinned (OpenSpec.ofChange fnExactLargestMassSpec)

/-- ITS FALSE NEIGHBOUR: 'it returns false'. Refute it at one input. -/
def fnExactLargestMassWrong : ChangeSpec := { name := "fnExactLargestMass", vars := ["loop.example/g01013/impl.errTooGreat"], fn := fun _ => fun
  | [d1, d2, d3, g1] => { results := [.lit (.bool false)], args := [d1, d2, d3], vars := [g1] }
  | _ => none }
def FnExactLargestMassWrongFalsely : Prop := fnExactLargestMassRow.holds Tryd.pinned (OpenSpec.ofChange fnExactLargestMassWrong)

/-- 'laws.FnExactLeastStart': WHATEVER THE INPUT: true; the input reads as it did. -/
def fnExactLeastStartSpec : ChangeSpec := { name := "fnExactLeastStart", vars := ["loop.example/g01013/impl.errTooGreat"], fn := fun _ => fun
  | [d1, d2, d3, g1] => { results := [.lit (.bool true)], args := [d1, d2, d3], vars := [g1] }
  | _ => none }
def fnExactLeastStartRow : OpenClaim := { program := "ytobcflcmlejajaadoor", sum := "e4c874fc60d139e2bdf6a8df8628d195bfe1fbc76ce9e78740d9825f804a97c4", func := "loop.example/g01013/laws.FnExactLeastStart", spec := "fnExactLeastStart", inPlace := ["internal/reflectlite.TypeOf"], unfollowed := true, recurses := true, named := ["loop.example/g01013/impl.errTooGreat"], ifaces := true, apart := false, laid := [("loop.example/g01013/impl.errTooGreat", laid_loop_example_g01013_impl_errTooGreat)] }
def FnExactLeastStartSaid : Prop := fnExactLeastStartRow.holds Tryd.pinned (OpenSpec.ofChange fnExactLeastStartSpec)

/-- ITS FALSE NEIGHBOUR: 'it returns false'. Refute it at one input. -/
def fnExactLeastStartWrong : ChangeSpec := { name := "fnExactLeastStart", vars := ["loop.example/g01013/impl.errTooGreat"], fn := fun _ => fun
  | [d1, d2, d3, g1] => { results := [.lit (.bool false)], args := [d1, d2, d3], vars := [g1] }
  | _ => none }
def FnExactLeastStartWrongFalsely : Prop := fnExactLeastStartRow.holds Tryd.pinned (OpenSpec.ofChange fnExactLeastStartWrong)

/-- 'laws.FnExactJoinTonnes': WHATEVER THE INPUT: true; the input reads as it did. -/
def fnExactJoinTonnesSpec : ChangeSpec := { name := "fnExactJoinTonnes", vars := ["loop.example/g01013/impl.errTooGreat", "loop.example/g01013/impl.sizeLimits"], fn := fun _ => fun
  | [d, g1, g2] => { results := [.lit (.bool true)], args := [d], vars := [g1, g2] }
  | _ => none }
def fnExactJoinTonnesRow : OpenClaim := { program := "ytobcflcmlejajaadoor", sum := "e4c874fc60d139e2bdf6a8df8628d195bfe1fbc76ce9e78740d9825f804a97c4", func := "loop.example/g01013/laws.FnExactJoinTonnes", spec := "fnExactJoinTonnes", inPlace := ["internal/reflectlite.TypeOf"], unfollowed := true, recurses := true, named := ["loop.example/g01013/impl.errTooGreat", "loop.example/g01013/impl.sizeLimits"], ifaces := true, apart := false, laid := [("loop.example/g01013/impl.sizeLimits", laid_loop_example_g01013_impl_sizeLimits), ("loop.example/g01013/impl.errTooGreat", laid_loop_example_g01013_impl_errTooGreat)] }
def FnExactJoinTonnesSaid : Prop := fnExactJoinTonnesRow.holds Tryd.pinned (OpenSpec.ofChange fnExactJoinTonnesSpec)

/-- ITS FALSE NEIGHBOUR: 'it returns false'. Refute it at one input. -/
def fnExactJoinTonnesWrong : ChangeSpec := { name := "fnExactJoinTonnes", vars := ["loop.example/g01013/impl.errTooGreat", "loop.example/g01013/impl.sizeLimits"], fn := fun _ => fun
  | [d, g1, g2] => { results := [.lit (.bool false)], args := [d], vars := [g1, g2] }
  | _ => none }
def FnExactJoinTonnesWrongFalsely : Prop := fnExactJoinTonnesRow.holds Tryd.pinned (OpenSpec.ofChange fnExactJoinTonnesWrong)

/-- 'laws.FnVolumes': WHATEVER THE INPUT: true; the input reads as it did. -/
def fnVolumesSpec : ChangeSpec := { name := "fnVolumes", vars := ["loop.example/g01013/impl.sizeLimits", "loop.example/g01013/impl.errTooGreat"], fn := fun _ => fun
  | [d1, d2, g1, g2] => { results := [.lit (.bool true)], args := [d1, d2], vars := [g1, g2] }
  | _ => none }
def fnVolumesRow : OpenClaim := { program := "ytobcflcmlejajaadoor", sum := "e4c874fc60d139e2bdf6a8df8628d195bfe1fbc76ce9e78740d9825f804a97c4", func := "loop.example/g01013/laws.FnVolumes", spec := "fnVolumes", inPlace := ["internal/reflectlite.TypeOf"], unfollowed := true, recurses := true, named := ["loop.example/g01013/impl.sizeLimits", "loop.example/g01013/impl.errTooGreat"], ifaces := true, apart := false, laid := [("loop.example/g01013/impl.sizeLimits", laid_loop_example_g01013_impl_sizeLimits), ("loop.example/g01013/impl.errTooGreat", laid_loop_example_g01013_impl_errTooGreat)] }
def FnVolumesSaid : Prop := fnVolumesRow.holds Tryd.pinned (OpenSpec.ofChange fnVolumesSpec)

/-- ITS FALSE NEIGHBOUR: 'it returns false'. Refute it at one input. -/
def fnVolumesWrong : ChangeSpec := { name := "fnVolumes", vars := ["loop.example/g01013/impl.sizeLimits", "loop.example/g01013/impl.errTooGreat"], fn := fun _ => fun
  | [d1, d2, g1, g2] => { results := [.lit (.bool false)], args := [d1, d2], vars := [g1, g2] }
  | _ => none }
def FnVolumesWrongFalsely : Prop := fnVolumesRow.holds Tryd.pinned (OpenSpec.ofChange fnVolumesWrong)

/-- 'laws.FnGrowth': WHATEVER THE INPUT: true; the input reads as it did. -/
def fnGrowthSpec : ChangeSpec := { name := "fnGrowth", vars := ["loop.example/g01013/impl.errTooGreat"], fn := fun _ => fun
  | [d1, d2, g1] => { results := [.lit (.bool true)], args := [d1, d2], vars := [g1] }
  | _ => none }
def fnGrowthRow : OpenClaim := { program := "ytobcflcmlejajaadoor", sum := "e4c874fc60d139e2bdf6a8df8628d195bfe1fbc76ce9e78740d9825f804a97c4", func := "loop.example/g01013/laws.FnGrowth", spec := "fnGrowth", inPlace := ["internal/reflectlite.TypeOf"], unfollowed := true, recurses := true, named := ["loop.example/g01013/impl.errTooGreat"], ifaces := true, apart := false, laid := [("loop.example/g01013/impl.errTooGreat", laid_loop_example_g01013_impl_errTooGreat)] }
def FnGrowthSaid : Prop := fnGrowthRow.holds Tryd.pinned (OpenSpec.ofChange fnGrowthSpec)

/-- ITS FALSE NEIGHBOUR: 'it returns false'. Refute it at one input. -/
def fnGrowthWrong : ChangeSpec := { name := "fnGrowth", vars := ["loop.example/g01013/impl.errTooGreat"], fn := fun _ => fun
  | [d1, d2, g1] => { results := [.lit (.bool false)], args := [d1, d2], vars := [g1] }
  | _ => none }
def FnGrowthWrongFalsely : Prop := fnGrowthRow.holds Tryd.pinned (OpenSpec.ofChange fnGrowthWrong)

/-- 'laws.FnExactPartText': WHATEVER THE INPUT: true; the input reads as it did. -/
def fnExactPartTextSpec : ChangeSpec := { name := "fnExactPartText", fn := fun _ => fun
  | [d] => { results := [.lit (.bool true)], args := [d] }
  | _ => none }
def fnExactPartTextRow : OpenClaim := { program := "ytobcflcmlejajaadoor", sum := "e4c874fc60d139e2bdf6a8df8628d195bfe1fbc76ce9e78740d9825f804a97c4", func := "loop.example/g01013/laws.FnExactPartText", spec := "fnExactPartText", inPlace := ["internal/abi.NoEscape", "internal/bytealg.MakeNoZero"], named := ["internal/strconv.uint64pow10", "math/bits.deBruijn32tab", "math/bits.deBruijn64tab"], apart := false, laid := [("math/bits.deBruijn32tab", laid_math_bits_deBruijn32tab), ("math/bits.deBruijn64tab", laid_math_bits_deBruijn64tab), ("internal/strconv.uint64pow10", laid_internal_strconv_uint64pow10)] }
def FnExactPartTextSaid : Prop := fnExactPartTextRow.holds Tryd.pinned (OpenSpec.ofChange fnExactPartTextSpec)

/-- ITS FALSE NEIGHBOUR: 'it returns false'. Refute it at one input. -/
def fnExactPartTextWrong : ChangeSpec := { name := "fnExactPartText", fn := fun _ => fun
  | [d] => { results := [.lit (.bool false)], args := [d] }
  | _ => none }
def FnExactPartTextWrongFalsely : Prop := fnExactPartTextRow.holds Tryd.pinned (OpenSpec.ofChange fnExactPartTextWrong)

/-- 'laws.FnExactReadPart': WHATEVER THE INPUT: true; the input reads as it did. -/
def fnExactReadPartSpec : ChangeSpec := { name := "fnExactReadPart", fn := fun _ => fun
  | [d] => { results := [.lit (.bool true)], args := [d] }
  | _ => none }
def fnExactReadPartRow : OpenClaim := { program := "ytobcflcmlejajaadoor", sum := "e4c874fc60d139e2bdf6a8df8628d195bfe1fbc76ce9e78740d9825f804a97c4", func := "loop.example/g01013/laws.FnExactReadPart", spec := "fnExactReadPart", inPlace := ["internal/bytealg.CountString", "internal/bytealg.IndexByteString", "internal/bytealg.IndexString"], named := ["unicode/utf8.first", "unicode/utf8.acceptRanges", "internal/bytealg.MaxLen", "strconv.ErrSyntax", "strconv.ErrRange", "internal/strconv.uint64pow10", "math/bits.deBruijn32tab", "math/bits.deBruijn64tab"], apart := false, laid := [("math/bits.deBruijn32tab", laid_math_bits_deBruijn32tab), ("math/bits.deBruijn64tab", laid_math_bits_deBruijn64tab), ("internal/strconv.uint64pow10", laid_internal_strconv_uint64pow10), ("unicode/utf8.acceptRanges", laid_unicode_utf8_acceptRanges), ("strconv.ErrRange", laid_strconv_ErrRange), ("strconv.ErrSyntax", laid_strconv_ErrSyntax), ("unicode/utf8.first", laid_unicode_utf8_first)] }
def FnExactReadPartSaid : Prop := fnExactReadPartRow.holds Tryd.pinned (OpenSpec.ofChange fnExactReadPartSpec)

/-- ITS FALSE NEIGHBOUR: 'it returns false'. Refute it at one input. -/
def fnExactReadPartWrong : ChangeSpec := { name := "fnExactReadPart", fn := fun _ => fun
  | [d] => { results := [.lit (.bool false)], args := [d] }
  | _ => none }
def FnExactReadPartWrongFalsely : Prop := fnExactReadPartRow.holds Tryd.pinned (OpenSpec.ofChange fnExactReadPartWrong)

/- THE SECOND FORM. 'bulk': how many values and letters a reading holds, each counted each time it is reached (what is shared counts as often as it is met; a slice's spare places count too). A statement '..UptoSaid' is the law's where the arguments, and the package variables that the reading takes, are together of bulk at most 1048576: NARROWER than '..Said'. Prove '..Said' where nothing that the law and all that it calls make is longer than what came in: it says more and counts as full. Else prove '..UptoSaid'. A law counts once. -/
mutual
def uptoBulk {H : Type} : DataW H → Nat
  | .lit (.string bytes) => bytes.length + 1
  | .lit _ => 1
  | .nil => 1
  | .ptr d => uptoBulk d + 1
  | .slice elems spare => uptoBulkAll elems + uptoBulkAll spare + 1
  | .agg parts => uptoBulkAll parts + 1
  | .iface _ d => uptoBulk d + 1
  | .map entries => uptoBulkEntries entries + 1
  | .held _ => 1
def uptoBulkAll {H : Type} : List (DataW H) → Nat
  | [] => 0
  | d :: r => uptoBulk d + uptoBulkAll r
def uptoBulkEntries {H : Type} : List (Lit × DataW H) → Nat
  | [] => 0
  | x :: r => uptoBulkEntry x + uptoBulkEntries r
def uptoBulkEntry {H : Type} : Lit × DataW H → Nat
  | (.string bytes, d) => bytes.length + uptoBulk d + 1
  | (_, d) => uptoBulk d + 1
 end
def uptoSmall : (H : Type) → List (DataW H) → Bool := fun _ ds => decide (uptoBulkAll ds ≤ 1048576)
def OpenSpec.upto (s : _root_.Go.ChangeSpec) : _root_.Go.OpenSpec := { _root_.Go.OpenSpec.ofChange s with cond := some uptoSmall }

/-- 'laws.FnExactSizeClass', WHERE WHAT IT READS IS OF BULK AT MOST 1048576: true; the input reads as it did. -/
def fnExactSizeClassUptoRow : OpenClaim := { program := "ytobcflcmlejajaadoor", sum := "e4c874fc60d139e2bdf6a8df8628d195bfe1fbc76ce9e78740d9825f804a97c4", func := "loop.example/g01013/laws.FnExactSizeClass", spec := "fnExactSizeClass", unfollowed := true, recurses := true, named := ["loop.example/g01013/impl.sizeLimits"], apart := false, laid := [("loop.example/g01013/impl.sizeLimits", laid_loop_example_g01013_impl_sizeLimits)], narrowed := true }
def FnExactSizeClassUptoSaid : Prop := fnExactSizeClassUptoRow.holds Tryd.pinned (OpenSpec.upto fnExactSizeClassSpec)

/-- 'laws.FnExactGrowthOf', WHERE WHAT IT READS IS OF BULK AT MOST 1048576: true; the input reads as it did. -/
def fnExactGrowthOfUptoRow : OpenClaim := { program := "ytobcflcmlejajaadoor", sum := "e4c874fc60d139e2bdf6a8df8628d195bfe1fbc76ce9e78740d9825f804a97c4", func := "loop.example/g01013/laws.FnExactGrowthOf", spec := "fnExactGrowthOf", inPlace := ["internal/reflectlite.TypeOf"], unfollowed := true, recurses := true, named := ["loop.example/g01013/impl.errTooGreat"], ifaces := true, apart := false, laid := [("loop.example/g01013/impl.errTooGreat", laid_loop_example_g01013_impl_errTooGreat)], narrowed := true }
def FnExactGrowthOfUptoSaid : Prop := fnExactGrowthOfUptoRow.holds Tryd.pinned (OpenSpec.upto fnExactGrowthOfSpec)

/-- 'laws.FnExactLargestMass', WHERE WHAT IT READS IS OF BULK AT MOST 1048576: true; the input reads as it did. -/
def fnExactLargestMassUptoRow : OpenClaim := { program := "ytobcflcmlejajaadoor", sum := "e4c874fc60d139e2bdf6a8df8628d195bfe1fbc76ce9e78740d9825f804a97c4", func := "loop.example/g01013/laws.FnExactLargestMass", spec := "fnExactLargestMass", inPlace := ["internal/reflectlite.TypeOf"], unfollowed := true, recurses := true, named := ["loop.example/g01013/impl.errTooGreat"], ifaces := true, apart := false, laid := [("loop.example/g01013/impl.errTooGreat", laid_loop_example_g01013_impl_errTooGreat)], narrowed := true }
def FnExactLargestMassUptoSaid : Prop := fnExactLargestMassUptoRow.holds Tryd.pinned (OpenSpec.upto fnExactLargestMassSpec)

/-- 'laws.FnExactLeastStart', WHERE WHAT IT READS IS OF BULK AT MOST 1048576: true; the input reads as it did. -/
def fnExactLeastStartUptoRow : OpenClaim := { program := "ytobcflcmlejajaadoor", sum := "e4c874fc60d139e2bdf6a8df8628d195bfe1fbc76ce9e78740d9825f804a97c4", func := "loop.example/g01013/laws.FnExactLeastStart", spec := "fnExactLeastStart", inPlace := ["internal/reflectlite.TypeOf"], unfollowed := true, recurses := true, named := ["loop.example/g01013/impl.errTooGreat"], ifaces := true, apart := false, laid := [("loop.example/g01013/impl.errTooGreat", laid_loop_example_g01013_impl_errTooGreat)], narrowed := true }
def FnExactLeastStartUptoSaid : Prop := fnExactLeastStartUptoRow.holds Tryd.pinned (OpenSpec.upto fnExactLeastStartSpec)

/-- 'laws.FnExactJoinTonnes', WHERE WHAT IT READS IS OF BULK AT MOST 1048576: true; the input reads as it did. -/
def fnExactJoinTonnesUptoRow : OpenClaim := { program := "ytobcflcmlejajaadoor", sum := "e4c874fc60d139e2bdf6a8df8628d195bfe1fbc76ce9e78740d9825f804a97c4", func := "loop.example/g01013/laws.FnExactJoinTonnes", spec := "fnExactJoinTonnes", inPlace := ["internal/reflectlite.TypeOf"], unfollowed := true, recurses := true, named := ["loop.example/g01013/impl.errTooGreat", "loop.example/g01013/impl.sizeLimits"], ifaces := true, apart := false, laid := [("loop.example/g01013/impl.sizeLimits", laid_loop_example_g01013_impl_sizeLimits), ("loop.example/g01013/impl.errTooGreat", laid_loop_example_g01013_impl_errTooGreat)], narrowed := true }
def FnExactJoinTonnesUptoSaid : Prop := fnExactJoinTonnesUptoRow.holds Tryd.pinned (OpenSpec.upto fnExactJoinTonnesSpec)

/-- 'laws.FnVolumes', WHERE WHAT IT READS IS OF BULK AT MOST 1048576: true; the input reads as it did. -/
def fnVolumesUptoRow : OpenClaim := { program := "ytobcflcmlejajaadoor", sum := "e4c874fc60d139e2bdf6a8df8628d195bfe1fbc76ce9e78740d9825f804a97c4", func := "loop.example/g01013/laws.FnVolumes", spec := "fnVolumes", inPlace := ["internal/reflectlite.TypeOf"], unfollowed := true, recurses := true, named := ["loop.example/g01013/impl.sizeLimits", "loop.example/g01013/impl.errTooGreat"], ifaces := true, apart := false, laid := [("loop.example/g01013/impl.sizeLimits", laid_loop_example_g01013_impl_sizeLimits), ("loop.example/g01013/impl.errTooGreat", laid_loop_example_g01013_impl_errTooGreat)], narrowed := true }
def FnVolumesUptoSaid : Prop := fnVolumesUptoRow.holds Tryd.pinned (OpenSpec.upto fnVolumesSpec)

/-- 'laws.FnGrowth', WHERE WHAT IT READS IS OF BULK AT MOST 1048576: true; the input reads as it did. -/
def fnGrowthUptoRow : OpenClaim := { program := "ytobcflcmlejajaadoor", sum := "e4c874fc60d139e2bdf6a8df8628d195bfe1fbc76ce9e78740d9825f804a97c4", func := "loop.example/g01013/laws.FnGrowth", spec := "fnGrowth", inPlace := ["internal/reflectlite.TypeOf"], unfollowed := true, recurses := true, named := ["loop.example/g01013/impl.errTooGreat"], ifaces := true, apart := false, laid := [("loop.example/g01013/impl.errTooGreat", laid_loop_example_g01013_impl_errTooGreat)], narrowed := true }
def FnGrowthUptoSaid : Prop := fnGrowthUptoRow.holds Tryd.pinned (OpenSpec.upto fnGrowthSpec)

/-- 'laws.FnExactPartText', WHERE WHAT IT READS IS OF BULK AT MOST 1048576: true; the input reads as it did. -/
def fnExactPartTextUptoRow : OpenClaim := { program := "ytobcflcmlejajaadoor", sum := "e4c874fc60d139e2bdf6a8df8628d195bfe1fbc76ce9e78740d9825f804a97c4", func := "loop.example/g01013/laws.FnExactPartText", spec := "fnExactPartText", inPlace := ["internal/abi.NoEscape", "internal/bytealg.MakeNoZero"], named := ["internal/strconv.uint64pow10", "math/bits.deBruijn32tab", "math/bits.deBruijn64tab"], apart := false, laid := [("math/bits.deBruijn32tab", laid_math_bits_deBruijn32tab), ("math/bits.deBruijn64tab", laid_math_bits_deBruijn64tab), ("internal/strconv.uint64pow10", laid_internal_strconv_uint64pow10)], narrowed := true }
def FnExactPartTextUptoSaid : Prop := fnExactPartTextUptoRow.holds Tryd.pinned (OpenSpec.upto fnExactPartTextSpec)

/-- 'laws.FnExactReadPart', WHERE WHAT IT READS IS OF BULK AT MOST 1048576: true; the input reads as it did. -/
def fnExactReadPartUptoRow : OpenClaim := { program := "ytobcflcmlejajaadoor", sum := "e4c874fc60d139e2bdf6a8df8628d195bfe1fbc76ce9e78740d9825f804a97c4", func := "loop.example/g01013/laws.FnExactReadPart", spec := "fnExactReadPart", inPlace := ["internal/bytealg.CountString", "internal/bytealg.IndexByteString", "internal/bytealg.IndexString"], named := ["unicode/utf8.first", "unicode/utf8.acceptRanges", "internal/bytealg.MaxLen", "strconv.ErrSyntax", "strconv.ErrRange", "internal/strconv.uint64pow10", "math/bits.deBruijn32tab", "math/bits.deBruijn64tab"], apart := false, laid := [("math/bits.deBruijn32tab", laid_math_bits_deBruijn32tab), ("math/bits.deBruijn64tab", laid_math_bits_deBruijn64tab), ("internal/strconv.uint64pow10", laid_internal_strconv_uint64pow10), ("unicode/utf8.acceptRanges", laid_unicode_utf8_acceptRanges), ("strconv.ErrRange", laid_strconv_ErrRange), ("strconv.ErrSyntax", laid_strconv_ErrSyntax), ("unicode/utf8.first", laid_unicode_utf8_first)], narrowed := true }
def FnExactReadPartUptoSaid : Prop := fnExactReadPartUptoRow.holds Tryd.pinned (OpenSpec.upto fnExactReadPartSpec)

end Rows
end Go.Proofs.YtobcflcmlejajaaDoor
