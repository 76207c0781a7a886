/-
  The height at a place of a terrain, the slope of a step, and the iterator over the steps from a cell. The conditions: a good grid.
-/
import Derived.Test.YthcmpalbhaefbaaDoorTrC
import Derived.Test.YthcmpalbhaefbaaDoorGf
namespace Go.Proofs.YthcmpalbhaefbaaDoor
open Go.RowKit Go.Shelf Go.Deep
set_option linter.unusedVariables false
set_option maxRecDepth 100000
set_option maxHeartbeats 3200000 in
theorem height_any (w : World) (R C hb ho L cap g cap' : Nat) (s : Int) (row col : Nat) (x : Int) (h : RowsAt w g hb ho C R) (hr : row < R) (hc : col < C) (hR : R ≤ 8) (hC : C ≤ 8) (hx : w.cell? ⟨hb, ho + row * C + col, none⟩ = some (.int .i64 x)) :
    Calls Tryd.prog 99 #[.agg #[.int .i64 R, .int .i64 C, .int .i64 s, .slice (some ⟨hb, ho, none⟩) L cap, .slice (some ⟨g, 0, none⟩) R cap'], .agg #[.int .i64 row, .int .i64 col]] w fun e w' => e = .returned (.int .i64 x) ∧ Below w.heap.size w w' := by
  have r0 : w.cell? ⟨g, row, none⟩ = some (.slice (some ⟨hb, ho + row * C, none⟩) C C) := h.2 row hr
  have rz : (row : Int) < (R : Int) := by omega
  have cz : (col : Int) < (C : Int) := by omega
  have rp : (0 : Int) ≤ (row : Int) := by omega
  have cp : (0 : Int) ≤ (col : Int) := by omega
  have gl := h.1
  have hl : hb < w.heap.size := World.block_lt_of_cell? w _ hx
  have B := Lib.hid (((Below.refl w.heap.size w).alloc (Nat.le_refl _) (.cells #[.int .i64 R, .int .i64 C, .int .i64 s, .slice (some ⟨hb, ho, none⟩) L cap, .slice (some ⟨g, 0, none⟩) R cap'] 52)).alloc (by simp) (.cells #[.int .i64 row, .int .i64 col] 72))
  obtain ⟨o, hO⟩ : ∃ o, ho + row * C = o := ⟨_, rfl⟩
  rw [hO] at r0 hx
  have r0' := (B.out.cell (p := ⟨g, row, none⟩) gl).trans r0
  have hx' := (B.out.cell (p := ⟨hb, o + col, none⟩) hl).trans hx
  clear h hr hc hO
  go_enter Tryd.func99, Tryd.ntmps99
  go_wp2_with fail
  go_quiet (fail)
  go_wp2_with fail
  go_ret
  exact ⟨rfl, below_drewN B.out _⟩
set_option maxHeartbeats 3200000 in
theorem slopeOf_any (w : World) (r c s : Int) (v u : Value) (a : Nat) (row col d f : Int) (s1 : 1 ≤ s) (s2 : s ≤ 100) (d1 : -5000 ≤ d) (d2 : d ≤ 5000) (ha : a < 8) :
    Calls Tryd.prog 100 #[.agg #[.int .i64 r, .int .i64 c, .int .i64 s, v, u], .agg #[.int .i64 a, .int .i64 row, .int .i64 col, .int .i64 d, .int .i64 f]] w fun e w' => e = .returned (.int .i64 (if a % 2 = 1 then Ar.dr (d * 1000000) (s * 1414) else Ar.dr (d * 1000) s)) ∧ Below w.heap.size w w' := by
  have B := Lib.hid (((Below.refl w.heap.size w).alloc (Nat.le_refl _) (.cells #[.int .i64 r, .int .i64 c, .int .i64 s, v, u] 52)).alloc (by simp) (.cells #[.int .i64 a, .int .i64 row, .int .i64 col, .int .i64 d, .int .i64 f] 74))
  have D := Lib.hid (fun W => isDiagonal_any (a : Int) W (by omega) (by omega))
  have R1 := Lib.hid (fun W => implDivRound_any (1000000 * d) (1414 * s) W)
  have R2 := Lib.hid (fun W => implDivRound_any (1000 * d) s W)
  have e1 : Ar.dR (1000000 * d) (1414 * s) = Ar.dr (d * 1000000) (s * 1414) := by
    rw [Int.mul_comm d, Int.mul_comm s]; unfold Ar.dR; rw [if_neg (by omega)]
  have e2 : Ar.dR (1000 * d) s = Ar.dr (d * 1000) s := by
    rw [Int.mul_comm d]; unfold Ar.dR; rw [if_neg (by omega)]
  rw [e1] at R1
  rw [e2] at R2
  have m1 : IntKind.i64.wrap (1000000 * d) = 1000000 * d := IntWalk.i64_in _ (by omega)
  have m2 : IntKind.i64.wrap (1414 * s) = 1414 * s := IntWalk.i64_in _ (by omega)
  have m3 : IntKind.i64.wrap (1000 * d) = 1000 * d := IntWalk.i64_in _ (by omega)
  clear e1 e2
  by_cases hp : a % 2 = 1
  · rw [if_pos hp]
    rw [show ((a : Int) % 2 != 0) = true by simp; omega] at D
    go_enter Tryd.func100, Tryd.ntmps100
    go_wp2_with fail
    refine (D.out _).mono ?_
    rintro e w' ⟨rfl, rfl⟩
    go_wp2_with fail
    refine (R1.out _).mono ?_
    rintro e w' ⟨rfl, rfl⟩
    go_wp2_with fail
    go_ret
    exact ⟨rfl, B.out⟩
  · rw [if_neg hp]
    rw [show ((a : Int) % 2 != 0) = false by simp; omega] at D
    go_enter Tryd.func100, Tryd.ntmps100
    go_wp2_with fail
    refine (D.out _).mono ?_
    rintro e w' ⟨rfl, rfl⟩
    go_wp2_with fail
    refine (R2.out _).mono ?_
    rintro e w' ⟨rfl, rfl⟩
    go_wp2_with fail
    go_ret
    exact ⟨rfl, B.out⟩
set_option maxHeartbeats 3200000 in
theorem stepsFrom_any (w : World) (r c s : Int) (v u : Value) (k : Int) (k0 : 0 ≤ k) (k1 : k ≤ 63) (c0 : 1 ≤ c) (c1 : c ≤ 8) :
    Calls Tryd.prog 49 #[.agg #[.int .i64 r, .int .i64 c, .int .i64 s, v, u], .int .i64 k] w fun e w' => ∃ q, e = .returned (.func (.func 96) #[] #[.pointer (some ⟨q, 0, none⟩), .pointer (some ⟨w.heap.size, 0, none⟩)]) ∧
      TeAt w' w.heap.size r c s v u ∧ Whole w' q 72 #[.int .i64 (k / c), .int .i64 (k % c)] ∧ w.heap.size < q ∧ Below w.heap.size w w' := by
  have P := Lib.hid (fun W => placeOf_any k c W k0 (by omega) c0 (by omega))
  have T := Lib.hid (Whole.new w 52 #[.int .i64 r, .int .i64 c, .int .i64 s, v, u])
  have B := Lib.hid ((Below.refl w.heap.size w).alloc (Nat.le_refl _) (.cells #[.int .i64 r, .int .i64 c, .int .i64 s, v, u] 52))
  go_enter Tryd.func49, Tryd.ntmps49
  go_wp2_with fail
  refine (P.out _).mono ?_
  rintro e w1 ⟨rfl, b1⟩
  have T1 := Lib.hid ((T.out.all b1).alloc (.cells #[.int .i64 (k / c), .int .i64 (k % c)] 72))
  have B1 := Lib.hid ((bt B.out b1).alloc (bt B.out b1).size (.cells #[.int .i64 (k / c), .int .i64 (k % c)] 72))
  have hlt : w.heap.size < w1.heap.size := by have := b1.size; simp at this; omega
  clear b1
  go_wp2_with fail
  go_ret
  exact ⟨w1.heap.size, rfl, T1.out, Whole.new _ _ _, hlt, B1.out⟩
end Go.Proofs.YthcmpalbhaefbaaDoor
