/-
  Rows of numbers are marked, and looked at: the forms that the laws' walks take. No condition of its own.
-/
import Derived.Test.YtdfmgdmekflmeaaGen
namespace Go.Proofs.Ytdfmgdmekflmeaa
open Go.RowKit
set_option linter.unusedVariables false
set_option maxRecDepth 100000

theorem Own.belowAll {B : Nat} {w w1 : World} {v : Value} {zs : List Int} (h : Own B w v zs) (hb : Below w.heap.size w w1) : Own B w1 v zs := own_belowAll h hb
theorem Own.far {B x : Nat} {w w1 : World} {v : Value} {zs : List Int} (h : Own B w v zs) (hg : w.grownBy w1 (some x)) (hx : x < B) : Own B w1 v zs := own_far h hg hx
theorem markInt64S_res (B : Nat) (w : World) (v : Value) (n : Nat) (l : List Int) (k0 : Int) (h0 : 1 ≤ k0) (h1 : k0 ≤ 1000000000) (ho : w.ownsRow B 2 1 v n (iv l)) (hl : n ≤ 1048576) (hB : B ≤ w.heap.size) :
    Calls Try.prog 46 #[v, .int .i64 k0] w fun e w' => e = .returned (.int .i64 (k0 + n)) ∧ w'.ownsRow B 2 1 v n (iv (upTo k0 n)) ∧ Below B w w' := by
  have hn : n = l.length := by have := ho.1; rw [iv_length] at this; omega
  subst hn
  refine (markInt64S_any B w v l k0 h0 h1 ho hl).mono fun _ _ ⟨he, ho', hb⟩ => ⟨he, ?_, hb⟩
  unfold Own at ho'; rwa [upTo_length] at ho'
theorem heldInt64S_own (B : Nat) (w : World) (v : Value) (n : Nat) (k0 : Int) (h0 : 1 ≤ k0) (h1 : k0 ≤ 1000000000) (hl : n ≤ 1048576) (ho : w.ownsRow B 2 1 v n (iv (upTo k0 n))) :
    Calls Try.prog 47 #[v, .int .i64 k0] w fun e w' => e = .returned (.int .i64 (k0 + n)) ∧ Below w.heap.size w w' :=
  heldInt64S_any w v n k0 h0 h1 (Own.sl (B := B) (by unfold Own; rw [upTo_length]; exact ho)) hl
end Go.Proofs.Ytdfmgdmekflmeaa
