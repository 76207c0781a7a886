/-
  A number is put to its place among rising ones, by the model (for seats without tests; TkK has the same beside tests). No condition of its own.
-/
import Derived.Test.YtaldmdammipfjaaDoorGen
import Derived.Test.YtaldmdammipfjaaDoorIntG
import Derived.Laws.AppendOwn
import Derived.Laws.OwnMore
namespace Go.Proofs.YtaldmdammipfjaaDoor
open Go.RowKit Go.Shelf
set_option linter.unusedVariables false
set_option maxRecDepth 100000

/-- how a call ends that answers numbers -/
def RJp (w : World) (l : List Int) (e : Ending) (w' : World) : Prop := ∃ u, e = .returned u ∧ Own w.heap.size w' u l ∧ Below w.heap.size w w'
namespace Ptq
def ptS (n : Int) (s : List Int × Bool) (z : Int) : List Int × Bool := if s.2 = false ∧ n ≤ z then (s.1 ++ (if n < z then [n] else []) ++ [z], true) else (s.1 ++ [z], s.2)
def ptF (n : Int) (zs : List Int) : List Int × Bool := zs.foldl (ptS n) ([], false)
/-- a number put to its place among rising ones, once -/
def pt (n : Int) (zs : List Int) : List Int := if (ptF n zs).2 = true then (ptF n zs).1 else (ptF n zs).1 ++ [n]
theorem ptF_take {n : Int} {zs : List Int} {k : Nat} (h : k < zs.length) : ptF n (zs.take (k + 1)) = ptS n (ptF n (zs.take k)) zs[k] := by
  rw [List.take_succ_eq_append_getElem h]; unfold ptF; rw [List.foldl_append]; rfl
theorem ptF_len (n : Int) (zs : List Int) : ∀ k, k ≤ zs.length → (ptF n (zs.take k)).1.length ≤ 2 * k := by
  intro k
  induction k with
  | zero => intro _; rw [List.take_zero]; exact Nat.le_refl _
  | succ k ih =>
    intro h
    have := ih (by omega)
    rw [ptF_take (by omega)]
    unfold ptS
    split
    · split <;> simp <;> omega
    · simp; omega
end Ptq
end Go.Proofs.YtaldmdammipfjaaDoor
