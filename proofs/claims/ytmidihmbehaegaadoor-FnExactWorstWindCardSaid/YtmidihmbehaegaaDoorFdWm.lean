/-
  The worst direction for a cell (chapter 6): plain mathematics beside Fd's. No condition of its own.
-/
import Derived.Test.YtmidihmbehaegaaDoorFdDa
import Derived.Test.YtmidihmbehaegaaDoorFdU
namespace Go.Proofs.YtmidihmbehaegaaDoor
open Go.RowKit
set_option linter.unusedVariables false

namespace Fw
def wwO (p : Int × Int) : Int × Int × Int := if p.1 < 0 then (0, 0, 6) else (p.1, p.2, 0)
/-- what WorstWind answers -/
def wwA (r c : Int) (zs : List Int) (s cell : Int) : Int × Int × Int :=
  if ok r c zs = false then (0, 0, 1) else if (okS s && Ar.inB 0 cell (zs.length - 1)) = false then (0, 0, 2) else wwO (ww r c s zs cell.toNat 4)
theorem wwS_no {r c s d : Int} {zs : List Int} {q : Nat} {b : Int × Int} (h : okMs (st r c d s zs) = false) : wwS r c s zs q d b = b := by unfold wwS; rw [if_neg (by rw [h]; decide)]
theorem wwS_t {r c s d : Int} {zs : List Int} {q : Nat} {b : Int × Int} (h : okMs (st r c d s zs) = true) (h2 : b.1 < 0 ∨ b.2 < (st r c d s zs).getD q 0 - zs.getD q 0) : wwS r c s zs q d b = (d, (st r c d s zs).getD q 0 - zs.getD q 0) := by unfold wwS; rw [if_pos h, if_pos h2]
theorem wwS_f {r c s d : Int} {zs : List Int} {q : Nat} {b : Int × Int} (h : okMs (st r c d s zs) = true) (h2 : ¬ (b.1 < 0 ∨ b.2 < (st r c d s zs).getD q 0 - zs.getD q 0)) : wwS r c s zs q d b = b := by unfold wwS; rw [if_pos h, if_neg h2]
end Fw
def P3 (p : Int × Int × Int) (e : Ending) : Prop := e = .returned (.tuple #[.int .i64 p.1, .int .i64 p.2.1, .int .i64 p.2.2])
theorem P3.mk {p : Int × Int × Int} {a b d : Int} (h : p = (a, b, d)) : P3 p (.returned (.tuple #[.int .i64 a, .int .i64 b, .int .i64 d])) := by rw [h]; rfl
theorem wwA_1 {r c s q : Int} {zs : List Int} (h : Fw.ok r c zs = false) : P3 (Fw.wwA r c zs s q) (.returned (.tuple #[.int .i64 0, .int .i64 0, .int .i64 1])) := P3.mk (by unfold Fw.wwA; rw [if_pos h])
theorem wwA_2 {r c s q : Int} {zs : List Int} (h : Fw.ok r c zs = true) (h2 : (Fw.okS s && Ar.inB 0 q (zs.length - 1)) = false) : P3 (Fw.wwA r c zs s q) (.returned (.tuple #[.int .i64 0, .int .i64 0, .int .i64 2])) := P3.mk (by unfold Fw.wwA; rw [if_neg (by rw [h]; decide), if_pos h2])
theorem wwA_3 {r c s q : Int} {zs : List Int} (h : Fw.ok r c zs = true) (h2 : (Fw.okS s && Ar.inB 0 q (zs.length - 1)) = true) : Fw.wwA r c zs s q = Fw.wwO (Fw.ww r c s zs q.toNat 4) := by unfold Fw.wwA; rw [if_neg (by rw [h]; decide), if_neg (by rw [h2]; decide)]
theorem wwO_no {p : Int × Int} (h : p.1 < 0) : Fw.wwO p = (0, 0, 6) := by unfold Fw.wwO; rw [if_pos h]
theorem wwO_yes {p : Int × Int} (h : ¬ p.1 < 0) : Fw.wwO p = (p.1, p.2, 0) := by unfold Fw.wwO; rw [if_neg h]
end Go.Proofs.YtmidihmbehaegaaDoor
