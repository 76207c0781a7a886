/-
  Places among the cells of a field or a grid: where a cell lies, the place behind a way, whether it lies in there, its cell. The conditions: small numbers.
-/
import Derived.Test.YtmidihmbehaegaaDoorUnits
import Derived.Test.YtmidihmbehaegaaDoorIntG
import Derived.Deep.RegionHeld3
namespace Go.Proofs.YtmidihmbehaegaaDoor
open Go.RowKit Go.Shelf Go.Deep
set_option linter.unusedVariables false
set_option maxRecDepth 100000
theorem whole2 (w : World) (o o' : Obj) (t : TypeId) (cs : Array Value) : Whole (((w.alloc o).alloc o').alloc (.cells cs t)) (w.heap.size + 1 + 1) t cs := by
  have := Whole.new ((w.alloc o).alloc o') t cs
  rwa [World.size_alloc, World.size_alloc] at this
set_option maxHeartbeats 1600000 in
theorem placeOf_any (k c : Int) (w : World) (k0 : 0 ≤ k) (k1 : k ≤ 1000) (c0 : 1 ≤ c) (c1 : c ≤ 1000) :
    Calls Tryd.prog 65 #[.int .i64 k, .int .i64 c] w fun e w' => e = .returned (.agg #[.int .i64 (k / c), .int .i64 (k % c)]) ∧ Below w.heap.size w w' := by
  have hc : ¬ c = 0 := by omega
  have ht1 : k.tdiv c = k / c := Int.tdiv_eq_ediv_of_nonneg k0
  have ht2 : k.tmod c = k % c := Int.tmod_eq_emod_of_nonneg k0
  have q0 : 0 ≤ k / c := Int.ediv_nonneg k0 (by omega)
  have q1 : k / c ≤ k := Int.ediv_le_self _ k0
  have m0 : 0 ≤ k % c := Int.emod_nonneg k (by omega)
  have m1 : k % c < c := Int.emod_lt_of_pos k (by omega)
  have hw1 : IntKind.i64.wrap (k / c) = k / c := IntWalk.i64_in _ (by omega)
  have hw2 : IntKind.i64.wrap (k % c) = k % c := IntWalk.i64_in _ (by omega)
  generalize k / c = q at *
  generalize k % c = m at *
  have B := Lib.hid ((Below.refl w.heap.size w).alloc (Nat.le_refl _) (.cells #[.int .i64 q, .int .i64 m] 73))
  have T := Lib.hid (Whole.new w 73 #[.int .i64 q, .int .i64 m])
  go_enter Tryd.func65, Tryd.ntmps65
  go_wp2_with fail
  go_region_held3 (fun w' => True) (go_keep) (fail)
  all_goals (
    go_wp2_with fail
    generalize w.alloc (.cells #[.int .i64 q, .int .i64 m] 73) = W at *
    have d0 : W.drew.cell? ⟨w.heap.size, 0, none⟩ = some (.int .i64 q) := T.out.at_ 0
    have d1 : W.drew.cell? ⟨w.heap.size, 1, none⟩ = some (.int .i64 m) := T.out.at_ 1
    exact bodyPost_ret (v := .agg #[.int .i64 q, .int .i64 m]) (by simp [results, Tryd.results65, go_sem, d0, d1]) rfl ⟨rfl, below_drewN B.out 1⟩)
set_option maxHeartbeats 1600000 in
theorem after_any (r q a b : Int) (w : World) (r0 : -1000 ≤ r) (r1 : r ≤ 1000) (q0 : -1000 ≤ q) (q1 : q ≤ 1000) (a0 : -1000 ≤ a) (a1 : a ≤ 1000) (b0 : -1000 ≤ b) (b1 : b ≤ 1000) :
    Calls Tryd.prog 66 #[.agg #[.int .i64 r, .int .i64 q], .agg #[.int .i64 a, .int .i64 b]] w fun e w' => e = .returned (.agg #[.int .i64 (r + a), .int .i64 (q + b)]) ∧ Below w.heap.size w w' := by
  have B := Lib.hid ((((Below.refl w.heap.size w).alloc (Nat.le_refl _) (.cells #[.int .i64 r, .int .i64 q] 73)).alloc (by simp) (.cells #[.int .i64 a, .int .i64 b] 73)).alloc (by simp; omega) (.cells #[.int .i64 (r + a), .int .i64 (q + b)] 73))
  have T := Lib.hid (whole2 w (.cells #[.int .i64 r, .int .i64 q] 73) (.cells #[.int .i64 a, .int .i64 b] 73) 73 #[.int .i64 (r + a), .int .i64 (q + b)])
  go_enter Tryd.func66, Tryd.ntmps66
  go_wp2_with fail
  generalize ((w.alloc (.cells #[.int .i64 r, .int .i64 q] 73)).alloc (.cells #[.int .i64 a, .int .i64 b] 73)).alloc (.cells #[.int .i64 (r + a), .int .i64 (q + b)] 73) = W at *
  have d0 := T.out.at_ 0
  have d1 := T.out.at_ 1
  exact bodyPost_ret (v := .agg #[.int .i64 (r + a), .int .i64 (q + b)]) (by simp [results, Tryd.results66, go_sem, d0, d1]) rfl ⟨rfl, B.out⟩
/-- a place in a new block -/
theorem placeBox_below (w : World) (a b : Int) (t : TypeId) : Below w.heap.size w (w.alloc (.cells #[.int .i64 a, .int .i64 b] t)) := (Below.refl _ _).alloc (Nat.le_refl _) _
set_option maxHeartbeats 800000 in
theorem placeIn_any (a b r c : Int) (w : World) :
    Calls Tryd.prog 67 #[.agg #[.int .i64 a, .int .i64 b], .int .i64 r, .int .i64 c] w fun e w' => e = .returned (.bool (Ar.inB 0 a (wrap64 (r - 1)) && Ar.inB 0 b (wrap64 (c - 1)))) ∧ Below w.heap.size w w' := by
  have CA := fun W => Lib.hid (within_any a 0 (wrap64 (r - 1)) W)
  have CB := fun W => Lib.hid (within_any b 0 (wrap64 (c - 1)) W)
  have HB := Lib.hid (placeBox_below w a b 73)
  cases ha : Ar.inB 0 a (wrap64 (r - 1)) with
  | false =>
    rw [ha] at CA
    clear ha
    go_enter Tryd.func67, Tryd.ntmps67
    go_wp2_with fail
    refine (CA _).out.mono ?_
    rintro e w2 ⟨rfl, rfl⟩
    go_wp2_with fail
    go_ret
    exact ⟨rfl, HB.out⟩
  | true =>
    rw [ha] at CA
    clear ha
    generalize Ar.inB 0 b (wrap64 (c - 1)) = q at *
    go_enter Tryd.func67, Tryd.ntmps67
    go_wp2_with fail
    refine (CA _).out.mono ?_
    rintro e w2 ⟨rfl, rfl⟩
    go_wp2_with fail
    refine (CB _).out.mono ?_
    rintro e w2 ⟨rfl, rfl⟩
    go_wp2_with fail
    go_ret
    exact ⟨ret_bool (by simp), HB.out⟩
set_option maxHeartbeats 800000 in
theorem placeCell_any (a b c : Int) (w : World) (h1 : wrap64 (a * c) = a * c) (h2 : wrap64 (a * c + b) = a * c + b) :
    Calls Tryd.prog 68 #[.agg #[.int .i64 a, .int .i64 b], .int .i64 c] w fun e w' => e = .returned (.int .i64 (a * c + b)) ∧ Below w.heap.size w w' := by
  have HB := Lib.hid (placeBox_below w a b 73)
  go_enter Tryd.func68, Tryd.ntmps68
  go_wp2_with fail
  go_ret
  exact ⟨ret_int h2, HB.out⟩
end Go.Proofs.YtmidihmbehaegaaDoor
