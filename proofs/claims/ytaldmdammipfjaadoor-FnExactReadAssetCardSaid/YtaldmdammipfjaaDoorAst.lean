import Derived.Test.YtaldmdammipfjaaDoorInts
/-
  The type Asset in plain words. No Go in sight.
-/
namespace Go.Proofs.YtaldmdammipfjaaDoor
set_option linter.unusedVariables false

structure Ast where
  id : List UInt8
  ce : List Int
  wo : Int
deriving DecidableEq

namespace As
/-- the bytes and numbers of its texts and lists -/
def szn (x : Ast) : Nat := x.id.length + x.ce.length
def szl (xs : List Ast) : Nat := (xs.map szn).sum
theorem szl_nil : szl [] = 0 := rfl
theorem szl_cons (x : Ast) (xs : List Ast) : szl (x :: xs) = szn x + szl xs := rfl
theorem szl_app (xs ys : List Ast) : szl (xs ++ ys) = szl xs + szl ys := by unfold szl; rw [List.map_append, List.sum_append_nat]
theorem szl_snoc {xs : List Ast} {k : Nat} (h : k < xs.length) : szl (xs.take (k + 1)) = szl (xs.take k) + szn xs[k] := by
  rw [List.take_succ_eq_append_getElem h, szl_app]; simp [szl]
theorem szl_le (xs : List Ast) (k : Nat) : szl (xs.take k) ≤ szl xs := by
  have h := szl_app (xs.take k) (xs.drop k)
  rw [List.take_append_drop] at h; omega
theorem szn_le {xs : List Ast} {x : Ast} (h : x ∈ xs) : szn x ≤ szl xs := by
  induction xs with
  | nil => cases h
  | cons y ys ih =>
    rw [szl_cons]
    rcases List.mem_cons.1 h with rfl | h
    · omega
    · have := ih h; omega
/-- nothing of it is longer than it may be -/
def Bd (x : Ast) : Prop := x.id.length ≤ maxLen ∧ x.ce.length ≤ maxLen
/-- nothing of it is long -/
def Sh1 (x : Ast) : Prop := x.id.length ≤ 1048576 ∧ x.ce.length ≤ 1048576
def Sh (xs : List Ast) : Prop := ∀ x ∈ xs, Sh1 x
theorem sh1_of {x : Ast} (h : szn x ≤ 1048576) : Sh1 x := by unfold szn at h; unfold Sh1; omega
theorem sh_of {xs : List Ast} (h : szl xs ≤ 1048576) : Sh xs := fun x hx => sh1_of (Nat.le_trans (szn_le hx) h)
end As
end Go.Proofs.YtaldmdammipfjaaDoor
