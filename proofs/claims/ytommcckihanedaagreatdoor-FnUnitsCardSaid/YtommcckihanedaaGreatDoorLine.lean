import Derived.Test.YtommcckihanedaaGreatDoorNum
import Derived.Laws.AppendOwn
namespace Go.Proofs.YtommcckihanedaaGreatDoor
open Go.RowKit
set_option linter.unusedVariables false

theorem line_a {x0 y0 x1 y1 x : Int} (h : x ≤ x0 ∨ x1 ≤ x0) : Ar.line x0 y0 x1 y1 x = y0 := by unfold Ar.line; rw [if_pos h]
theorem line_b {x0 y0 x1 y1 x : Int} (h : ¬ (x ≤ x0 ∨ x1 ≤ x0)) (h2 : x1 ≤ x) : Ar.line x0 y0 x1 y1 x = y1 := by unfold Ar.line; rw [if_neg h, if_pos h2]
theorem line_c {x0 y0 x1 y1 x : Int} (h : ¬ (x ≤ x0 ∨ x1 ≤ x0)) (h2 : ¬ x1 ≤ x) : Ar.line x0 y0 x1 y1 x = y0 + Ar.dr ((y1 - y0) * (x - x0)) (x1 - x0) := by unfold Ar.line; rw [if_neg h, if_neg h2]

set_option maxHeartbeats 800000 in
theorem lineAt_any (x0 y0 x1 y1 x : Int) (w : World) (a1 : -100000000 ≤ x0) (a2 : x0 ≤ 100000000) (b1 : -1000000000 ≤ y0) (b2 : y0 ≤ 1000000000) (c1 : -100000000 ≤ x1) (c2 : x1 ≤ 100000000) (d1 : -1000000000 ≤ y1) (d2 : y1 ≤ 1000000000) :
    Calls Tryz.prog 52 #[.int .i64 x0, .int .i64 y0, .int .i64 x1, .int .i64 y1, .int .i64 x] w fun e w' => e = .returned (.int .i64 (Ar.line x0 y0 x1 y1 x)) ∧ w = w' := by
  by_cases h : x ≤ x0
  · have hd := Lib.hid (line_a (y0 := y0) (y1 := y1) (Or.inl h : x ≤ x0 ∨ x1 ≤ x0))
    go_enter Tryz.func52, Tryz.ntmps52
    go_wp2
    go_ret
    exact ⟨ret_int hd.out.symm, rfl⟩
  · by_cases h' : x1 ≤ x0
    · have hd := Lib.hid (line_a (y0 := y0) (y1 := y1) (Or.inr h' : x ≤ x0 ∨ x1 ≤ x0))
      go_enter Tryz.func52, Tryz.ntmps52
      go_wp2
      go_ret
      exact ⟨ret_int hd.out.symm, rfl⟩
    · have hn : ¬ (x ≤ x0 ∨ x1 ≤ x0) := by omega
      by_cases h2 : x1 ≤ x
      · have hd := Lib.hid (line_b (y0 := y0) (y1 := y1) hn h2)
        clear hn
        go_enter Tryz.func52, Tryz.ntmps52
        go_wp2
        go_ret
        exact ⟨ret_int hd.out.symm, rfl⟩
      · have hd := Lib.hid (line_c (y0 := y0) (y1 := y1) hn h2)
        clear hn
        obtain ⟨m1, m2⟩ := Ar.mul_bd (a := y1 - y0) (b := x - x0) (m := 2000000000) (n := 200000000) (by omega) (by omega) (by omega) (by omega)
        obtain ⟨r1, r2⟩ := Ar.dr_bd (a := (y1 - y0) * (x - x0)) (b := x1 - x0) (m := 400000000000000000) (by omega) (by omega) (by omega)
        go_enter Tryz.func52, Tryz.ntmps52
        go_wp2_with (go_at_call 51; refine (nearest_any _ _ _ (by omega) (by omega) (by omega) (by omega) (by omega)).mono ?_; rintro e w' ⟨rfl, rfl⟩)
        go_ret
        exact ⟨ret_int hd.out.symm, rfl⟩
end Go.Proofs.YtommcckihanedaaGreatDoor
