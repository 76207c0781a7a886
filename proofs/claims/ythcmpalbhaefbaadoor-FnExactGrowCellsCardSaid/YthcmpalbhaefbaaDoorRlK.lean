/-
  The cells around a cell, as a word, whatever the step (BorderOf's function). The conditions: a good grid; the table of ways as it is laid.
-/
import Derived.Test.YthcmpalbhaefbaaDoorRlC
import Derived.Test.YthcmpalbhaefbaaDoorTrI
import Derived.Test.YthcmpalbhaefbaaDoorGdA
namespace Go.Proofs.YthcmpalbhaefbaaDoor
open Go.RowKit Go.Shelf Go.Deep
set_option linter.unusedVariables false
set_option maxRecDepth 100000
attribute [local go_sem] Oper.semAt_some
namespace Gw
/-- the word of the cells to which steps lead -/
def wdN (r c : Int) (k : Nat) (l : List Nat) : Nat := l.foldl (fun s a => s ||| 2 ^ (goC r c k a).toNat) 0
theorem wdN_snoc (r c : Int) (k : Nat) (l : List Nat) (a : Nat) : wdN r c k (l ++ [a]) = wdN r c k l ||| 2 ^ (goC r c k a).toNat := by unfold wdN; rw [List.foldl_append]; rfl
end Gw
theorem keeps_below {B : Nat} {w w' : World} (h : Below w.heap.size w w') : KeepsFrom B w w' := ⟨h.size, fun k o _ hk _ => (h.block k (Array.getElem?_eq_some_iff.1 hk).1).trans hk⟩
theorem always_any (w : World) (cs : Array Value) (hc : ∃ a b c d e : Int, cs = #[.int .i64 a, .int .i64 b, .int .i64 c, .int .i64 d, .int .i64 e]) :
    Calls Tryd.prog 110 #[.agg cs] w fun e w' => e = .returned (.bool true) ∧ Below w.heap.size w w' := by
  obtain ⟨a, b, c, d, e, rfl⟩ := hc
  have B := Lib.hid ((Below.refl w.heap.size w).alloc (Nat.le_refl _) (.cells #[.int .i64 a, .int .i64 b, .int .i64 c, .int .i64 d, .int .i64 e] 74))
  go_enter Tryd.func110, Tryd.ntmps110
  go_wp2_with fail
  go_ret
  exact ⟨rfl, B.out⟩
end Go.Proofs.YthcmpalbhaefbaaDoor
