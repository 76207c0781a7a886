import Derived.Test.YtommcckihanedaaGreatDoorLine
import Derived.Laws.AppendOwn
namespace Go.Proofs.YtommcckihanedaaGreatDoor
open Go.RowKit
set_option linter.unusedVariables false

theorem pt_cases (x : Int) : ((-1000000 ≤ x ∧ x ≤ 1000000) ∧ Ar.inB (-1000000) x 1000000 = true) ∨ (Ar.inB (-1000000) x 1000000 = false) := by
  by_cases h : -1000000 ≤ x ∧ x ≤ 1000000
  · exact Or.inl ⟨h, Ar.inB_t h.1 h.2⟩
  · exact Or.inr (Ar.inB_f h)
theorem bl_out {x0 y0 x1 y1 x : Int} (h : Ar.inB (-1000000) x0 1000000 = false ∨ Ar.inB (-1000000) y0 1000000 = false ∨ Ar.inB (-1000000) x1 1000000 = false ∨ Ar.inB (-1000000) y1 1000000 = false) : Ar.bl x0 y0 x1 y1 x = 0 := by
  unfold Ar.bl Ar.pt
  rcases h with h | h | h | h <;> simp [h]
theorem bl_in {x0 y0 x1 y1 x : Int} (h0 : Ar.inB (-1000000) x0 1000000 = true) (h1 : Ar.inB (-1000000) y0 1000000 = true) (h2 : Ar.inB (-1000000) x1 1000000 = true) (h3 : Ar.inB (-1000000) y1 1000000 = true) : Ar.bl x0 y0 x1 y1 x = Ar.line x0 y0 x1 y1 x := by
  unfold Ar.bl Ar.pt
  simp [h0, h1, h2, h3]

set_option maxHeartbeats 1600000 in
theorem implBlend_any (x0 y0 x1 y1 x : Int) (w : World) :
    Calls Tryz.prog 37 #[.int .i64 x0, .int .i64 y0, .int .i64 x1, .int .i64 y1, .int .i64 x] w fun e w' => e = .returned (.int .i64 (Ar.bl x0 y0 x1 y1 x)) ∧ w = w' := by
  have i0 : ∀ w, (Instr.index 79 (.agg #[.int .i64 x0, .int .i64 y0, .int .i64 x1, .int .i64 y1]) (.int .i64 0)).run Tryz.prog w = .ok (.int .i64 x0) w := fun _ => by kernel_rfl
  have i1 : ∀ w, (Instr.index 79 (.agg #[.int .i64 x0, .int .i64 y0, .int .i64 x1, .int .i64 y1]) (.int .i64 1)).run Tryz.prog w = .ok (.int .i64 y0) w := fun _ => by kernel_rfl
  have i2 : ∀ w, (Instr.index 79 (.agg #[.int .i64 x0, .int .i64 y0, .int .i64 x1, .int .i64 y1]) (.int .i64 2)).run Tryz.prog w = .ok (.int .i64 x1) w := fun _ => by kernel_rfl
  have i3 : ∀ w, (Instr.index 79 (.agg #[.int .i64 x0, .int .i64 y0, .int .i64 x1, .int .i64 y1]) (.int .i64 3)).run Tryz.prog w = .ok (.int .i64 y1) w := fun _ => by kernel_rfl
  rcases pt_cases x0 with ⟨⟨a1, a2⟩, ia⟩ | ia
  · rcases pt_cases y0 with ⟨⟨b1, b2⟩, ib⟩ | ib
    · rcases pt_cases x1 with ⟨⟨c1, c2⟩, ic⟩ | ic
      · rcases pt_cases y1 with ⟨⟨d1, d2⟩, id⟩ | id
        · have hd := Lib.hid (bl_in (x := x) ia ib ic id)
          go_enter Tryz.func37, Tryz.ntmps37
          go_wp2_with fail
          refine wp_loop_rounds 5 ?_
          rw [rounds_succ]
          go_wp2_with (go_at_call 21; refine (within_any _ _ _ _).mono ?_; rintro e w' ⟨rfl, rfl⟩)
          rw [rounds_succ]
          go_wp2_with (go_at_call 21; refine (within_any _ _ _ _).mono ?_; rintro e w' ⟨rfl, rfl⟩)
          rw [rounds_succ]
          go_wp2_with (go_at_call 21; refine (within_any _ _ _ _).mono ?_; rintro e w' ⟨rfl, rfl⟩)
          rw [rounds_succ]
          go_wp2_with (go_at_call 21; refine (within_any _ _ _ _).mono ?_; rintro e w' ⟨rfl, rfl⟩)
          rw [rounds_succ]
          go_wp2_with (first | (go_at_call 21; refine (within_any _ _ _ _).mono ?_; rintro e w' ⟨rfl, rfl⟩) | (go_at_call 52; refine (lineAt_any _ _ _ _ _ _ (by omega) (by omega) (by omega) (by omega) (by omega) (by omega) (by omega) (by omega)).mono ?_; rintro e w' ⟨rfl, rfl⟩))
          go_ret
          exact ⟨ret_int hd.out.symm, rfl⟩
        · have hd := Lib.hid (bl_out (x0 := x0) (y0 := y0) (x1 := x1) (y1 := y1) (x := x) (by simp [id]))
          go_enter Tryz.func37, Tryz.ntmps37
          go_wp2_with fail
          refine wp_loop_rounds 5 ?_
          rw [rounds_succ]
          go_wp2_with (go_at_call 21; refine (within_any _ _ _ _).mono ?_; rintro e w' ⟨rfl, rfl⟩)
          rw [rounds_succ]
          go_wp2_with (go_at_call 21; refine (within_any _ _ _ _).mono ?_; rintro e w' ⟨rfl, rfl⟩)
          rw [rounds_succ]
          go_wp2_with (go_at_call 21; refine (within_any _ _ _ _).mono ?_; rintro e w' ⟨rfl, rfl⟩)
          rw [rounds_succ]
          go_wp2_with (go_at_call 21; refine (within_any _ _ _ _).mono ?_; rintro e w' ⟨rfl, rfl⟩)
          go_ret
          exact ⟨ret_int hd.out.symm, rfl⟩
      · have hd := Lib.hid (bl_out (x0 := x0) (y0 := y0) (x1 := x1) (y1 := y1) (x := x) (by simp [ic]))
        go_enter Tryz.func37, Tryz.ntmps37
        go_wp2_with fail
        refine wp_loop_rounds 5 ?_
        rw [rounds_succ]
        go_wp2_with (go_at_call 21; refine (within_any _ _ _ _).mono ?_; rintro e w' ⟨rfl, rfl⟩)
        rw [rounds_succ]
        go_wp2_with (go_at_call 21; refine (within_any _ _ _ _).mono ?_; rintro e w' ⟨rfl, rfl⟩)
        rw [rounds_succ]
        go_wp2_with (go_at_call 21; refine (within_any _ _ _ _).mono ?_; rintro e w' ⟨rfl, rfl⟩)
        go_ret
        exact ⟨ret_int hd.out.symm, rfl⟩
    · have hd := Lib.hid (bl_out (x0 := x0) (y0 := y0) (x1 := x1) (y1 := y1) (x := x) (by simp [ib]))
      go_enter Tryz.func37, Tryz.ntmps37
      go_wp2_with fail
      refine wp_loop_rounds 5 ?_
      rw [rounds_succ]
      go_wp2_with (go_at_call 21; refine (within_any _ _ _ _).mono ?_; rintro e w' ⟨rfl, rfl⟩)
      rw [rounds_succ]
      go_wp2_with (go_at_call 21; refine (within_any _ _ _ _).mono ?_; rintro e w' ⟨rfl, rfl⟩)
      go_ret
      exact ⟨ret_int hd.out.symm, rfl⟩
  · have hd := Lib.hid (bl_out (x0 := x0) (y0 := y0) (x1 := x1) (y1 := y1) (x := x) (by simp [ia]))
    go_enter Tryz.func37, Tryz.ntmps37
    go_wp2_with fail
    refine wp_loop_rounds 5 ?_
    rw [rounds_succ]
    go_wp2_with (go_at_call 21; refine (within_any _ _ _ _).mono ?_; rintro e w' ⟨rfl, rfl⟩)
    go_ret
    exact ⟨ret_int hd.out.symm, rfl⟩
end Go.Proofs.YtommcckihanedaaGreatDoor
