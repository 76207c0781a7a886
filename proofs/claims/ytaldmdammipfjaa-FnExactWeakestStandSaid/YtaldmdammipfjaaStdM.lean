/-
  A row of Stand of the call's own is marked: every field gets the next mark. No condition of its own.
-/
import Derived.Test.YtaldmdammipfjaaStdL
import Derived.Test.YtaldmdammipfjaaMark
namespace Go.Proofs.Ytaldmdammipfjaa
open Go.RowKit
set_option linter.unusedVariables false
set_option maxRecDepth 100000

/-- the one with the marks from k on -/
def mkStd (k : Nat) : Std := ⟨mkT (k + 0), ((k + 1 : Nat) : Int), ((k + 2 : Nat) : Int), ((k + 3 : Nat) : Int), ((k + 4 : Nat) : Int)⟩
/-- so many of them -/
def mksStd (k0 n : Nat) : List Std := (List.range n).map fun i => mkStd (k0 + 5 * i)
theorem mksStd_length (k0 n : Nat) : (mksStd k0 n).length = n := by unfold mksStd; simp
theorem mksStd_snoc (k0 n : Nat) : mksStd k0 (n + 1) = mksStd k0 n ++ [mkStd (k0 + 5 * n)] := by unfold mksStd; rw [List.range_succ, List.map_append]; rfl
theorem putAll_consStd (vs : List Value) (v : Value) (ys : List Value) (o : Nat) : putAll ys o (v :: vs) = putAll (ys.set o v) (o + 1) vs := rfl
end Go.Proofs.Ytaldmdammipfjaa
