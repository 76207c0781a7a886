import Derived.Test.YtoopjefalkdpkaaDoorNum
import Derived.Laws.AppendOwn
namespace Go.Proofs.YtoopjefalkdpkaaDoor
open Go.RowKit
set_option linter.unusedVariables false

theorem line_a {x0 y0 x1 y1 x : Int} (h : x ≤ x0 ∨ x1 ≤ x0) : Ar.line x0 y0 x1 y1 x = y0 := by unfold Ar.line; rw [if_pos h]
theorem line_b {x0 y0 x1 y1 x : Int} (h : ¬ (x ≤ x0 ∨ x1 ≤ x0)) (h2 : x1 ≤ x) : Ar.line x0 y0 x1 y1 x = y1 := by unfold Ar.line; rw [if_neg h, if_pos h2]
theorem line_c {x0 y0 x1 y1 x : Int} (h : ¬ (x ≤ x0 ∨ x1 ≤ x0)) (h2 : ¬ x1 ≤ x) : Ar.line x0 y0 x1 y1 x = y0 + Ar.dr ((y1 - y0) * (x - x0)) (x1 - x0) := by unfold Ar.line; rw [if_neg h, if_neg h2]

set_option maxHeartbeats 800000 in
theorem lineAt_any (x0 y0 x1 y1 x : Int) (w : World) (a1 : -100000000 ≤ x0) (a2 : x0 ≤ 100000000) (b1 : -1000000000 ≤ y0) (b2 : y0 ≤ 1000000000) (c1 : -100000000 ≤ x1) (c2 : x1 ≤ 100000000) (d1 : -1000000000 ≤ y1) (d2 : y1 ≤ 1000000000) :
    Calls Tryd.prog 49 #[.int .i64 x0, .int .i64 y0, .int .i64 x1, .int .i64 y1, .int .i64 x] w fun e w' => e = .returned (.int .i64 (Ar.line x0 y0 x1 y1 x)) ∧ w = w' := by
  by_cases h : x ≤ x0
  · have hd := Lib.hid (line_a (y0 := y0) (y1 := y1) (Or.inl h : x ≤ x0 ∨ x1 ≤ x0))
    go_enter Tryd.func49, Tryd.ntmps49
    go_wp2
    go_ret
    exact ⟨ret_int hd.out.symm, rfl⟩
  · by_cases h' : x1 ≤ x0
    · have hd := Lib.hid (line_a (y0 := y0) (y1 := y1) (Or.inr h' : x ≤ x0 ∨ x1 ≤ x0))
      go_enter Tryd.func49, Tryd.ntmps49
      go_wp2
      go_ret
      exact ⟨ret_int hd.out.symm, rfl⟩
    · have hn : ¬ (x ≤ x0 ∨ x1 ≤ x0) := by omega
      by_cases h2 : x1 ≤ x
      · have hd := Lib.hid (line_b (y0 := y0) (y1 := y1) hn h2)
        clear hn
        go_enter Tryd.func49, Tryd.ntmps49
        go_wp2
        go_ret
        exact ⟨ret_int hd.out.symm, rfl⟩
      · have hd := Lib.hid (line_c (y0 := y0) (y1 := y1) hn h2)
        clear hn
        obtain ⟨m1, m2⟩ := Ar.mul_bd (a := y1 - y0) (b := x - x0) (m := 2000000000) (n := 200000000) (by omega) (by omega) (by omega) (by omega)
        obtain ⟨r1, r2⟩ := Ar.dr_bd (a := (y1 - y0) * (x - x0)) (b := x1 - x0) (m := 400000000000000000) (by omega) (by omega) (by omega)
        go_enter Tryd.func49, Tryd.ntmps49
        go_wp2_with (go_at_call 47; refine (nearest_any _ _ _ (by omega) (by omega) (by omega) (by omega) (by omega)).mono ?_; rintro e w' ⟨rfl, rfl⟩)
        go_ret
        exact ⟨ret_int hd.out.symm, rfl⟩
theorem pt_cases (x : Int) : ((-1000000 ≤ x ∧ x ≤ 1000000) ∧ Ar.inB (-1000000) x 1000000 = true) ∨ (Ar.inB (-1000000) x 1000000 = false) := by
  by_cases h : -1000000 ≤ x ∧ x ≤ 1000000
  · exact Or.inl ⟨h, Ar.inB_t h.1 h.2⟩
  · exact Or.inr (Ar.inB_f h)
theorem bl_out {x0 y0 x1 y1 x : Int} (h : Ar.inB (-1000000) x0 1000000 = false ∨ Ar.inB (-1000000) y0 1000000 = false ∨ Ar.inB (-1000000) x1 1000000 = false ∨ Ar.inB (-1000000) y1 1000000 = false) : Ar.bl x0 y0 x1 y1 x = 0 := by
  unfold Ar.bl Ar.pt
  rcases h with h | h | h | h <;> simp [h]
theorem bl_in {x0 y0 x1 y1 x : Int} (h0 : Ar.inB (-1000000) x0 1000000 = true) (h1 : Ar.inB (-1000000) y0 1000000 = true) (h2 : Ar.inB (-1000000) x1 1000000 = true) (h3 : Ar.inB (-1000000) y1 1000000 = true) : Ar.bl x0 y0 x1 y1 x = Ar.line x0 y0 x1 y1 x := by
  unfold Ar.bl Ar.pt
  simp [h0, h1, h2, h3]

set_option maxHeartbeats 1600000 in
theorem implBlend_any (x0 y0 x1 y1 x : Int) (w : World) :
    Calls Tryd.prog 29 #[.int .i64 x0, .int .i64 y0, .int .i64 x1, .int .i64 y1, .int .i64 x] w fun e w' => e = .returned (.int .i64 (Ar.bl x0 y0 x1 y1 x)) ∧ w = w' := by
  have i0 : ∀ w, (Instr.index 60 (.agg #[.int .i64 x0, .int .i64 y0, .int .i64 x1, .int .i64 y1]) (.int .i64 0)).run Tryd.prog w = .ok (.int .i64 x0) w := fun _ => by kernel_rfl
  have i1 : ∀ w, (Instr.index 60 (.agg #[.int .i64 x0, .int .i64 y0, .int .i64 x1, .int .i64 y1]) (.int .i64 1)).run Tryd.prog w = .ok (.int .i64 y0) w := fun _ => by kernel_rfl
  have i2 : ∀ w, (Instr.index 60 (.agg #[.int .i64 x0, .int .i64 y0, .int .i64 x1, .int .i64 y1]) (.int .i64 2)).run Tryd.prog w = .ok (.int .i64 x1) w := fun _ => by kernel_rfl
  have i3 : ∀ w, (Instr.index 60 (.agg #[.int .i64 x0, .int .i64 y0, .int .i64 x1, .int .i64 y1]) (.int .i64 3)).run Tryd.prog w = .ok (.int .i64 y1) w := fun _ => by kernel_rfl
  rcases pt_cases x0 with ⟨⟨a1, a2⟩, ia⟩ | ia
  · rcases pt_cases y0 with ⟨⟨b1, b2⟩, ib⟩ | ib
    · rcases pt_cases x1 with ⟨⟨c1, c2⟩, ic⟩ | ic
      · rcases pt_cases y1 with ⟨⟨d1, d2⟩, id⟩ | id
        · have hd := Lib.hid (bl_in (x := x) ia ib ic id)
          go_enter Tryd.func29, Tryd.ntmps29
          go_wp2_with fail
          refine wp_loop_rounds 5 ?_
          rw [rounds_succ]
          go_wp2_with (go_at_call 32; refine (within_any _ _ _ _).mono ?_; rintro e w' ⟨rfl, rfl⟩)
          rw [rounds_succ]
          go_wp2_with (go_at_call 32; refine (within_any _ _ _ _).mono ?_; rintro e w' ⟨rfl, rfl⟩)
          rw [rounds_succ]
          go_wp2_with (go_at_call 32; refine (within_any _ _ _ _).mono ?_; rintro e w' ⟨rfl, rfl⟩)
          rw [rounds_succ]
          go_wp2_with (go_at_call 32; refine (within_any _ _ _ _).mono ?_; rintro e w' ⟨rfl, rfl⟩)
          rw [rounds_succ]
          go_wp2_with (first | (go_at_call 32; refine (within_any _ _ _ _).mono ?_; rintro e w' ⟨rfl, rfl⟩) | (go_at_call 49; refine (lineAt_any _ _ _ _ _ _ (by omega) (by omega) (by omega) (by omega) (by omega) (by omega) (by omega) (by omega)).mono ?_; rintro e w' ⟨rfl, rfl⟩))
          go_ret
          exact ⟨ret_int hd.out.symm, rfl⟩
        · have hd := Lib.hid (bl_out (x0 := x0) (y0 := y0) (x1 := x1) (y1 := y1) (x := x) (by simp [id]))
          go_enter Tryd.func29, Tryd.ntmps29
          go_wp2_with fail
          refine wp_loop_rounds 5 ?_
          rw [rounds_succ]
          go_wp2_with (go_at_call 32; refine (within_any _ _ _ _).mono ?_; rintro e w' ⟨rfl, rfl⟩)
          rw [rounds_succ]
          go_wp2_with (go_at_call 32; refine (within_any _ _ _ _).mono ?_; rintro e w' ⟨rfl, rfl⟩)
          rw [rounds_succ]
          go_wp2_with (go_at_call 32; refine (within_any _ _ _ _).mono ?_; rintro e w' ⟨rfl, rfl⟩)
          rw [rounds_succ]
          go_wp2_with (go_at_call 32; refine (within_any _ _ _ _).mono ?_; rintro e w' ⟨rfl, rfl⟩)
          go_ret
          exact ⟨ret_int hd.out.symm, rfl⟩
      · have hd := Lib.hid (bl_out (x0 := x0) (y0 := y0) (x1 := x1) (y1 := y1) (x := x) (by simp [ic]))
        go_enter Tryd.func29, Tryd.ntmps29
        go_wp2_with fail
        refine wp_loop_rounds 5 ?_
        rw [rounds_succ]
        go_wp2_with (go_at_call 32; refine (within_any _ _ _ _).mono ?_; rintro e w' ⟨rfl, rfl⟩)
        rw [rounds_succ]
        go_wp2_with (go_at_call 32; refine (within_any _ _ _ _).mono ?_; rintro e w' ⟨rfl, rfl⟩)
        rw [rounds_succ]
        go_wp2_with (go_at_call 32; refine (within_any _ _ _ _).mono ?_; rintro e w' ⟨rfl, rfl⟩)
        go_ret
        exact ⟨ret_int hd.out.symm, rfl⟩
    · have hd := Lib.hid (bl_out (x0 := x0) (y0 := y0) (x1 := x1) (y1 := y1) (x := x) (by simp [ib]))
      go_enter Tryd.func29, Tryd.ntmps29
      go_wp2_with fail
      refine wp_loop_rounds 5 ?_
      rw [rounds_succ]
      go_wp2_with (go_at_call 32; refine (within_any _ _ _ _).mono ?_; rintro e w' ⟨rfl, rfl⟩)
      rw [rounds_succ]
      go_wp2_with (go_at_call 32; refine (within_any _ _ _ _).mono ?_; rintro e w' ⟨rfl, rfl⟩)
      go_ret
      exact ⟨ret_int hd.out.symm, rfl⟩
  · have hd := Lib.hid (bl_out (x0 := x0) (y0 := y0) (x1 := x1) (y1 := y1) (x := x) (by simp [ia]))
    go_enter Tryd.func29, Tryd.ntmps29
    go_wp2_with fail
    refine wp_loop_rounds 5 ?_
    rw [rounds_succ]
    go_wp2_with (go_at_call 32; refine (within_any _ _ _ _).mono ?_; rintro e w' ⟨rfl, rfl⟩)
    go_ret
    exact ⟨ret_int hd.out.symm, rfl⟩
end Go.Proofs.YtoopjefalkdpkaaDoor
