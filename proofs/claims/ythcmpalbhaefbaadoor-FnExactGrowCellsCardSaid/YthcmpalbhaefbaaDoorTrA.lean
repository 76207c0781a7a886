/-
  Places among the cells of a grid: where a cell lies, the place behind a way, whether it lies in the grid. The conditions: small numbers.
-/
import Derived.Test.YthcmpalbhaefbaaDoorGtb
import Derived.Test.YthcmpalbhaefbaaDoorGdA
import Derived.Deep.RegionHeld3
namespace Go.Proofs.YthcmpalbhaefbaaDoor
open Go.RowKit Go.Shelf
set_option linter.unusedVariables false
set_option maxRecDepth 100000
theorem whole2 (w : World) (o o' : Obj) (t : TypeId) (cs : Array Value) : Whole (((w.alloc o).alloc o').alloc (.cells cs t)) (w.heap.size + 1 + 1) t cs := by
  have := Whole.new ((w.alloc o).alloc o') t cs
  rwa [World.size_alloc, World.size_alloc] at this
set_option maxHeartbeats 1600000 in
theorem placeOf_any (k c : Int) (w : World) (k0 : 0 ≤ k) (k1 : k ≤ 1000) (c0 : 1 ≤ c) (c1 : c ≤ 1000) :
    Calls Tryd.prog 95 #[.int .i64 k, .int .i64 c] w fun e w' => e = .returned (.agg #[.int .i64 (k / c), .int .i64 (k % c)]) ∧ Below w.heap.size w w' := by
  have hc : ¬ c = 0 := by omega
  have ht1 : k.tdiv c = k / c := Int.tdiv_eq_ediv_of_nonneg k0
  have ht2 : k.tmod c = k % c := Int.tmod_eq_emod_of_nonneg k0
  have q0 : 0 ≤ k / c := Int.ediv_nonneg k0 (by omega)
  have q1 : k / c ≤ k := Int.ediv_le_self _ k0
  have m0 : 0 ≤ k % c := Int.emod_nonneg k (by omega)
  have m1 : k % c < c := Int.emod_lt_of_pos k (by omega)
  have hw1 : IntKind.i64.wrap (k / c) = k / c := IntWalk.i64_in _ (by omega)
  have hw2 : IntKind.i64.wrap (k % c) = k % c := IntWalk.i64_in _ (by omega)
  generalize k / c = q at *
  generalize k % c = m at *
  have B := Lib.hid ((Below.refl w.heap.size w).alloc (Nat.le_refl _) (.cells #[.int .i64 q, .int .i64 m] 72))
  have T := Lib.hid (Whole.new w 72 #[.int .i64 q, .int .i64 m])
  go_enter Tryd.func95, Tryd.ntmps95
  go_wp2_with fail
  go_region_held3 (fun w' => True) (go_keep) (fail)
  all_goals (
    go_wp2_with fail
    generalize w.alloc (.cells #[.int .i64 q, .int .i64 m] 72) = W at *
    have d0 : W.drew.cell? ⟨w.heap.size, 0, none⟩ = some (.int .i64 q) := T.out.at_ 0
    have d1 : W.drew.cell? ⟨w.heap.size, 1, none⟩ = some (.int .i64 m) := T.out.at_ 1
    exact bodyPost_ret (v := .agg #[.int .i64 q, .int .i64 m]) (by simp [results, Tryd.results95, go_sem, d0, d1]) rfl ⟨rfl, below_drewN B.out 1⟩)
set_option maxHeartbeats 1600000 in
theorem after_any (r q a b : Int) (w : World) (r0 : -1000 ≤ r) (r1 : r ≤ 1000) (q0 : -1000 ≤ q) (q1 : q ≤ 1000) (a0 : -1000 ≤ a) (a1 : a ≤ 1000) (b0 : -1000 ≤ b) (b1 : b ≤ 1000) :
    Calls Tryd.prog 97 #[.agg #[.int .i64 r, .int .i64 q], .agg #[.int .i64 a, .int .i64 b]] w fun e w' => e = .returned (.agg #[.int .i64 (r + a), .int .i64 (q + b)]) ∧ Below w.heap.size w w' := by
  have B := Lib.hid ((((Below.refl w.heap.size w).alloc (Nat.le_refl _) (.cells #[.int .i64 r, .int .i64 q] 72)).alloc (by simp) (.cells #[.int .i64 a, .int .i64 b] 72)).alloc (by simp; omega) (.cells #[.int .i64 (r + a), .int .i64 (q + b)] 72))
  have T := Lib.hid (whole2 w (.cells #[.int .i64 r, .int .i64 q] 72) (.cells #[.int .i64 a, .int .i64 b] 72) 72 #[.int .i64 (r + a), .int .i64 (q + b)])
  go_enter Tryd.func97, Tryd.ntmps97
  go_wp2_with fail
  generalize ((w.alloc (.cells #[.int .i64 r, .int .i64 q] 72)).alloc (.cells #[.int .i64 a, .int .i64 b] 72)).alloc (.cells #[.int .i64 (r + a), .int .i64 (q + b)] 72) = W at *
  have d0 := T.out.at_ 0
  have d1 := T.out.at_ 1
  exact bodyPost_ret (v := .agg #[.int .i64 (r + a), .int .i64 (q + b)]) (by simp [results, Tryd.results97, go_sem, d0, d1]) rfl ⟨rfl, B.out⟩
theorem isDiagonal_any (a : Int) (w : World) (a0 : 0 ≤ a) (a1 : a ≤ 7) :
    Calls Tryd.prog 123 #[.int .i64 a] w fun e w' => e = .returned (.bool (a % 2 != 0)) ∧ w = w' := by
  have ht : a.tmod 2 = a % 2 := Int.tmod_eq_emod_of_nonneg a0
  go_enter Tryd.func123, Tryd.ntmps123
  go_wp2_with fail
  go_ret
  exact ⟨rfl, rfl⟩
end Go.Proofs.YthcmpalbhaefbaaDoor
