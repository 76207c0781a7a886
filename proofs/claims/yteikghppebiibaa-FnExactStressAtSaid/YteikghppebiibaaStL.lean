/-
  The questions of chapter 7 by the program. Their condition: impl.strengthFactors holds what the program's text lays (StressAt: none).
-/
import Derived.Test.YteikghppebiibaaStK
import Derived.Test.YteikghppebiibaaStE
namespace Go.Proofs.Yteikghppebiibaa
open Go.RowKit Go.Shelf
set_option linter.unusedVariables false
set_option maxRecDepth 100000

theorem sdt_0 (ri ru d : Int) : sdt ri ru d 0 = Sb.sd ri ru d := by unfold sdt; rw [show Sb.lim 0 = true from by decide, Bool.and_true]
theorem sdt_00 (ri ru : Int) : sdt ri ru 0 0 = Sb.slo ri ru := by rw [sdt_0]; unfold Sb.sd; rw [show Ar.inB 0 0 1000 = true from by decide, Bool.and_true]
theorem sts_nil (w : World) : StS w (.slice none 0 0) [] := Or.inl ⟨rfl, none, 0, rfl⟩
def objK (a : Option Addr) (n cap : Nat) (k : Int) (T : TypeId) : Obj := .cells #[.iface 45 (.agg #[.slice a n cap, .int .i64 k])] T
theorem usK_new (w : World) (a : Option Addr) (n cap : Nat) (k : Int) (T : TypeId) (hn : n ≤ 1048576) : StS (w.alloc (objK a n cap k T)) (.slice (some ⟨w.heap.size, 0, none⟩) 1 1) [(.iface 45 (.agg #[.slice a n cap, .int .i64 k]), Ar.inB 0 k ((n : Int) - 1))] := by
  refine Or.inr ⟨w.heap.size, 0, 1, rfl, by simp, fun j hj => ?_⟩
  obtain rfl : j = 0 := by simp only [List.length_singleton] at hj; omega
  exact ⟨cell_of_row _ w.heap.size 0 _ T (0, 0) (heap_alloc_new w (objK a n cap k T)), fun W => lit_place k a n cap W hn⟩
theorem allS_one (u : Value) (b : Bool) : allS [(u, b)] = b := by unfold allS; simp
end Go.Proofs.Yteikghppebiibaa
