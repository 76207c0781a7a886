/-
  Bounds of int64 numbers that came in. No condition of its own.
-/
import Derived.Test.YtaldmdammipfjaaGen
namespace Go.Proofs.Ytaldmdammipfjaa
open Go.RowKit
set_option linter.unusedVariables false

theorem wf_bd {n : Int} (h : (Lit.int .i64 n).wf = true) : -9223372036854775808 ≤ n ∧ n ≤ 9223372036854775807 := by
  simp [Lit.wf, IntKind.min, IntKind.max, IntKind.signed, IntKind.bits] at h; omega
end Go.Proofs.Ytaldmdammipfjaa
