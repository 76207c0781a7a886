/-
  Tests that contradict each other, by the program. Its condition: impl.testRules holds what the program's text lays.
-/
import Derived.Test.YteileaeeiejonaaDoorTkHa
import Derived.Test.YteileaeeiejonaaDoorTkGb
import Derived.Test.YteileaeeiejonaaDoorTkE
import Derived.Deep.RegionHeld3
namespace Go.Proofs.YteileaeeiejonaaDoor
open Go.RowKit Go.Shelf Go.Deep
set_option linter.unusedVariables false
set_option maxRecDepth 100000

set_option maxHeartbeats 6400000 in
theorem contradicts_any (x y : Tst) (n : Int) (w : World) (hx : Tq.Fits x) (hy : Tq.Fits y) (hR : RulesT w) :
    Calls Tryd.prog 80 #[.agg #[.int .i64 x.ki, .int .i64 x.sc, .int .i64 x.qu, .int .i64 x.de, .int .i64 x.ho], .agg #[.int .i64 y.ki, .int .i64 y.sc, .int .i64 y.qu, .int .i64 y.de, .int .i64 y.ho], .int .i64 n] w fun e w' => e = .returned (.bool (Tq.cb n x y)) ∧ Below w.heap.size w w' := by
  have HB : Hid (Below w.heap.size w ((w.alloc (.cells (tcs x) 35)).alloc (.cells (tcs y) 35))) := Lib.hid (((Below.refl _ _).alloc (Nat.le_refl _) _).alloc (by simp) _)
  have hbx : (w.alloc (.cells (tcs x) 35)).alloc (.cells (tcs y) 35) = (w.alloc (.cells #[.int .i64 x.ki, .int .i64 x.sc, .int .i64 x.qu, .int .i64 x.de, .int .i64 x.ho] 35)).alloc (.cells #[.int .i64 y.ki, .int .i64 y.sc, .int .i64 y.qu, .int .i64 y.de, .int .i64 y.ho] 35) := rfl
  have K1 : Whole ((w.alloc (.cells (tcs x) 35)).alloc (.cells (tcs y) 35)) w.heap.size 35 (tcs x) := (Whole.new w _ _).alloc _
  have K2 : Whole ((w.alloc (.cells (tcs x) 35)).alloc (.cells (tcs y) 35)) (w.heap.size + 1) 35 (tcs y) := by
    have := Whole.new (w.alloc (.cells (tcs x) 35)) 35 (tcs y)
    rwa [show (w.alloc (.cells (tcs x) 35)).heap.size = w.heap.size + 1 by simp] at this
  generalize (w.alloc (.cells (tcs x) 35)).alloc (.cells (tcs y) 35) = W1 at *
  have K0 := Lib.hid (fun W (h : Below W1.heap.size W1 W) => (tcs_five (K1.all h)).1)
  have P0 := Lib.hid (fun W (h : Below W1.heap.size W1 W) => (tcs_five (K2.all h)).1)
  have CX := Lib.hid (fun W (h : Below W1.heap.size W1 W) => class_any x W hx ((hR.below HB.out).below h))
  have CY := Lib.hid (fun W (h : Below W1.heap.size W1 W) => class_any y W hy ((hR.below HB.out).below h))
  have g1 := Tq.cls_bd x
  have g2 := Tq.cls_bd y
  have CD := Lib.hid (fun W => distT_any (Tq.cls x) (Tq.cls y) W (by omega) (by omega) (by omega) (by omega))
  have CJ := Lib.hid (fun W => joins_any n x.de y.de W (by have := hx.d1; omega) (by have := hx.d2; omega) (by have := hy.d1; omega) (by have := hy.d2; omega))
  obtain ⟨x0, x1, x2, x3, x4⟩ := K0.out _ (Below.refl _ _)
  obtain ⟨y0, y1, y2, y3, y4⟩ := P0.out _ (Below.refl _ _)
  clear hR K1 K2 hx hy g1 g2
  cases hr : Tq.nr n x.de y.de with
  | false =>
    rw [show Tq.cb n x y = false by unfold Tq.cb; rw [hr]; rfl]
    rw [hr] at CJ
    clear hr CX CY CD
    go_enter Tryd.func80, Tryd.ntmps80
    go_wp2_with fail
    rw [← hbx]
    clear hbx
    refine wp_region_held_drew (S := (fun w' => (w'.cell? ⟨w.heap.size, 0, none⟩ = some (.int .i64 x.ki) ∧ w'.cell? ⟨w.heap.size, 1, none⟩ = some (.int .i64 x.sc) ∧ w'.cell? ⟨w.heap.size, 2, none⟩ = some (.int .i64 x.qu) ∧ w'.cell? ⟨w.heap.size, 3, none⟩ = some (.int .i64 x.de) ∧ w'.cell? ⟨w.heap.size, 4, none⟩ = some (.int .i64 x.ho)) ∧ w'.cell? ⟨w.heap.size + 1, 0, none⟩ = some (.int .i64 y.ki) ∧ w'.cell? ⟨w.heap.size + 1, 1, none⟩ = some (.int .i64 y.sc) ∧ w'.cell? ⟨w.heap.size + 1, 2, none⟩ = some (.int .i64 y.qu) ∧ w'.cell? ⟨w.heap.size + 1, 3, none⟩ = some (.int .i64 y.de) ∧ w'.cell? ⟨w.heap.size + 1, 4, none⟩ = some (.int .i64 y.ho))) (by kernel_rfl) ?_ (fun hHeld => ?_)
    · (try dsimp only)
      first | done | go_keep
    refine wpAnyH_take (i := 0) (oi := ({ dst := some 7, op := Op.move (Operand.tmp 2), type := 81, pos := "l08_tests.go:263", after := #[], guard := none } : Oper)) (v := ?_) rfl (by kernel_rfl) (by kernel_rfl) (by kernel_rfl) (fun _ _ _ h => h) (Or.inl ⟨by kernel_rfl, ?_⟩) (by assumption) ?_
    rotate_left
    · (intro w hSw; (try dsimp only at hSw); go_simp <;> with_reducible rfl)
    try simp only [Act.put, List.setIfInBounds_toArray, List.set_cons_zero, List.set_cons_succ]
    refine wpAnyH_take (i := 1) (oi := ({ dst := some 8, op := Op.fieldAddr 35 (Operand.tmp 3) 3, type := 0, pos := "l08_tests.go:263", after := #[], guard := none } : Oper)) (v := ?_) rfl (by kernel_rfl) (by kernel_rfl) (by kernel_rfl) (fun _ _ _ h => h) (Or.inl ⟨by kernel_rfl, ?_⟩) (by assumption) ?_
    rotate_left
    · (intro w hSw; (try dsimp only at hSw); go_simp <;> with_reducible rfl)
    try simp only [Act.put, List.setIfInBounds_toArray, List.set_cons_zero, List.set_cons_succ]
    refine wpAnyH_take (i := 2) (oi := ({ dst := some 9, op := Op.load 2 (Operand.tmp 8), type := 2, pos := "l08_tests.go:263", after := #[{ on := 1, ground := Ground.data }], guard := none } : Oper)) (v := ?_) rfl (by kernel_rfl) (by kernel_rfl) (by kernel_rfl) (fun _ _ _ h => h) (Or.inl ⟨by kernel_rfl, ?_⟩) (by assumption) ?_
    rotate_left
    · (intro w hSw; (try dsimp only at hSw); go_simp <;> with_reducible rfl)
    try simp only [Act.put, List.setIfInBounds_toArray, List.set_cons_zero, List.set_cons_succ]
    refine wpAnyH_take (i := 3) (oi := ({ dst := some 10, op := Op.fieldAddr 35 (Operand.tmp 4) 3, type := 0, pos := "l08_tests.go:263", after := #[], guard := none } : Oper)) (v := ?_) rfl (by kernel_rfl) (by kernel_rfl) (by kernel_rfl) (fun _ _ _ h => h) (Or.inl ⟨by kernel_rfl, ?_⟩) (by assumption) ?_
    rotate_left
    · (intro w hSw; (try dsimp only at hSw); go_simp <;> with_reducible rfl)
    try simp only [Act.put, List.setIfInBounds_toArray, List.set_cons_zero, List.set_cons_succ]
    refine wpAnyH_take (i := 4) (oi := ({ dst := some 11, op := Op.load 2 (Operand.tmp 10), type := 2, pos := "l08_tests.go:263", after := #[{ on := 3, ground := Ground.data }], guard := none } : Oper)) (v := ?_) rfl (by kernel_rfl) (by kernel_rfl) (by kernel_rfl) (fun _ _ _ h => h) (Or.inl ⟨by kernel_rfl, ?_⟩) (by assumption) ?_
    rotate_left
    · (intro w hSw; (try dsimp only at hSw); go_simp <;> with_reducible rfl)
    try simp only [Act.put, List.setIfInBounds_toArray, List.set_cons_zero, List.set_cons_succ]
    refine wpAnyH_ready (rs := [5]) (by kernel_rfl) (by simp) ?_
    refine AllReadyH.cons (o := ({ dst := some 12, op := Op.call { callee := Callee.value (Operand.func 75), args := #[Operand.tmp 7, Operand.tmp 9, Operand.tmp 11], argTypes := #[81, 2, 2] }, type := 4, pos := "l08_tests.go:263", after := #[{ on := 0, ground := Ground.data }, { on := 2, ground := Ground.data }, { on := 4, ground := Ground.data }], guard := none } : Oper)) rfl (fun K hK => ?_) ?_
    · go_simp
      (go_at_call 75; refine (CJ.out _).mono ?_; rintro e w' ⟨rfl, rfl⟩)
      go_wp2_with fail
      refine hK.out _ _ ?_ (fun hHeld => ?_)
      · (try dsimp only)
        first | done | go_keep
      clear hK K
      try simp only [Act.put, List.setIfInBounds_toArray, List.set_cons_zero, List.set_cons_succ]
      refine wpAnyH_take (i := 6) (oi := ({ dst := some 13, op := Op.move (Operand.tmp 12), type := 4, pos := "l08_tests.go:263", after := #[{ on := 5, ground := Ground.data }, { on := 5, ground := Ground.chain }], guard := none } : Oper)) (v := ?_) rfl (by kernel_rfl) (by kernel_rfl) (by kernel_rfl) (fun _ _ _ h => h) (Or.inl ⟨by kernel_rfl, ?_⟩) (by assumption) ?_
      rotate_left
      · (intro w hSw; (try dsimp only at hSw); go_simp <;> with_reducible rfl)
      try simp only [Act.put, List.setIfInBounds_toArray, List.set_cons_zero, List.set_cons_succ]
      refine wpAnyH_take (i := 7) (oi := ({ dst := some 14, op := Op.load 35 (Operand.tmp 3), type := 35, pos := "l08_tests.go:263", after := #[{ on := 6, ground := Ground.guard }], guard := some (6, true) } : Oper)) (v := undef) rfl (by kernel_rfl) (by kernel_rfl) (by kernel_rfl) (fun _ _ _ h => h) (Or.inr ⟨by kernel_rfl, rfl⟩) (by assumption) ?_
      try simp only [Act.put, List.setIfInBounds_toArray, List.set_cons_zero, List.set_cons_succ]
      refine wpAnyH_take (i := 8) (oi := ({ dst := some 15, op := Op.call { callee := Callee.value (Operand.func 55), args := #[Operand.tmp 14], argTypes := #[35] }, type := 2, pos := "l08_tests.go:263", after := #[{ on := 7, ground := Ground.data }, { on := 6, ground := Ground.chain }, { on := 6, ground := Ground.guard }], guard := some (6, true) } : Oper)) (v := undef) rfl (by kernel_rfl) (by kernel_rfl) (by kernel_rfl) (fun _ _ _ h => h) (Or.inr ⟨by kernel_rfl, rfl⟩) (by assumption) ?_
      try simp only [Act.put, List.setIfInBounds_toArray, List.set_cons_zero, List.set_cons_succ]
      refine wpAnyH_take (i := 9) (oi := ({ dst := some 16, op := Op.load 35 (Operand.tmp 4), type := 35, pos := "l08_tests.go:263", after := #[{ on := 6, ground := Ground.guard }], guard := some (6, true) } : Oper)) (v := undef) rfl (by kernel_rfl) (by kernel_rfl) (by kernel_rfl) (fun _ _ _ h => h) (Or.inr ⟨by kernel_rfl, rfl⟩) (by assumption) ?_
      try simp only [Act.put, List.setIfInBounds_toArray, List.set_cons_zero, List.set_cons_succ]
      refine wpAnyH_take (i := 10) (oi := ({ dst := some 17, op := Op.call { callee := Callee.value (Operand.func 55), args := #[Operand.tmp 16], argTypes := #[35] }, type := 2, pos := "l08_tests.go:263", after := #[{ on := 9, ground := Ground.data }, { on := 8, ground := Ground.chain }, { on := 6, ground := Ground.guard }], guard := some (6, true) } : Oper)) (v := undef) rfl (by kernel_rfl) (by kernel_rfl) (by kernel_rfl) (fun _ _ _ h => h) (Or.inr ⟨by kernel_rfl, rfl⟩) (by assumption) ?_
      try simp only [Act.put, List.setIfInBounds_toArray, List.set_cons_zero, List.set_cons_succ]
      refine wpAnyH_take (i := 11) (oi := ({ dst := some 18, op := Op.call { callee := Callee.value (Operand.func 94), args := #[Operand.tmp 15, Operand.tmp 17], argTypes := #[2, 2] }, type := 2, pos := "l08_tests.go:263", after := #[{ on := 8, ground := Ground.data }, { on := 10, ground := Ground.data }, { on := 10, ground := Ground.chain }, { on := 6, ground := Ground.guard }], guard := some (6, true) } : Oper)) (v := undef) rfl (by kernel_rfl) (by kernel_rfl) (by kernel_rfl) (fun _ _ _ h => h) (Or.inr ⟨by kernel_rfl, rfl⟩) (by assumption) ?_
      try simp only [Act.put, List.setIfInBounds_toArray, List.set_cons_zero, List.set_cons_succ]
      refine wpAnyH_take (i := 12) (oi := ({ dst := some 19, op := Op.binOp BinOp.geq 2 (Operand.tmp 18) (Operand.const (Value.int IntKind.i64 2)) 2, type := 4, pos := "l08_tests.go:263", after := #[{ on := 11, ground := Ground.data }, { on := 6, ground := Ground.guard }], guard := some (6, true) } : Oper)) (v := undef) rfl (by kernel_rfl) (by kernel_rfl) (by kernel_rfl) (fun _ _ _ h => h) (Or.inr ⟨by kernel_rfl, rfl⟩) (by assumption) ?_
      try simp only [Act.put, List.setIfInBounds_toArray, List.set_cons_zero, List.set_cons_succ]
      refine wpAnyH_take (i := 13) (oi := ({ dst := some 20, op := Op.pick (Operand.tmp 13) (Operand.tmp 19) (Operand.const (Value.bool false)), type := 4, pos := "l08_tests.go:263", after := #[{ on := 6, ground := Ground.data }, { on := 12, ground := Ground.data }], guard := none } : Oper)) (v := ?_) rfl (by kernel_rfl) (by kernel_rfl) (by kernel_rfl) (fun _ _ _ h => h) (Or.inl ⟨by kernel_rfl, ?_⟩) (by assumption) ?_
      rotate_left
      · (intro w hSw; (try dsimp only at hSw); go_simp <;> with_reducible rfl)
      try simp only [Act.put, List.setIfInBounds_toArray, List.set_cons_zero, List.set_cons_succ]
      refine wpAnyH_take (i := 14) (oi := ({ dst := some 6, op := Op.assign (Operand.tmp 20), type := 4, pos := "l08_tests.go:263", after := #[{ on := 13, ground := Ground.data }, { on := 11, ground := Ground.chain }, { on := 0, ground := Ground.phase }, { on := 1, ground := Ground.phase }, { on := 2, ground := Ground.phase }, { on := 3, ground := Ground.phase }, { on := 4, ground := Ground.phase }, { on := 5, ground := Ground.phase }, { on := 6, ground := Ground.phase }, { on := 7, ground := Ground.phase }, { on := 8, ground := Ground.phase }, { on := 9, ground := Ground.phase }, { on := 10, ground := Ground.phase }, { on := 11, ground := Ground.phase }, { on := 12, ground := Ground.phase }, { on := 13, ground := Ground.phase }], guard := none } : Oper)) (v := ?_) rfl (by kernel_rfl) (by kernel_rfl) (by kernel_rfl) (fun _ _ _ h => h) (Or.inl ⟨by kernel_rfl, ?_⟩) (by assumption) ?_
      rotate_left
      · (intro w hSw; (try dsimp only at hSw); go_simp <;> with_reducible rfl)
      try simp only [Act.put, List.setIfInBounds_toArray, List.set_cons_zero, List.set_cons_succ]
      refine wpAnyH_done (by kernel_rfl) ?_ _
      go_wp2_with fail
      go_ret
      exact ⟨rfl, bt HB.out (below_drewW _ 1)⟩
    exact AllReadyH.nil
  | true =>
    cases hc : decide (2 ≤ Ar.ab (Tq.cls y - Tq.cls x)) with
    | false =>
      rw [show Tq.cb n x y = false by unfold Tq.cb; rw [hr, hc]; rfl]
      rw [hr] at CJ
      clear hr
      generalize Ar.ab (Tq.cls y - Tq.cls x) = ac at *
      generalize Tq.cls x = c1 at *
      generalize Tq.cls y = c2 at *
      go_enter Tryd.func80, Tryd.ntmps80
      go_wp2_with fail
      rw [← hbx]
      clear hbx
      refine wp_region_held_drew (S := (fun w' => (w'.cell? ⟨w.heap.size, 0, none⟩ = some (.int .i64 x.ki) ∧ w'.cell? ⟨w.heap.size, 1, none⟩ = some (.int .i64 x.sc) ∧ w'.cell? ⟨w.heap.size, 2, none⟩ = some (.int .i64 x.qu) ∧ w'.cell? ⟨w.heap.size, 3, none⟩ = some (.int .i64 x.de) ∧ w'.cell? ⟨w.heap.size, 4, none⟩ = some (.int .i64 x.ho)) ∧ w'.cell? ⟨w.heap.size + 1, 0, none⟩ = some (.int .i64 y.ki) ∧ w'.cell? ⟨w.heap.size + 1, 1, none⟩ = some (.int .i64 y.sc) ∧ w'.cell? ⟨w.heap.size + 1, 2, none⟩ = some (.int .i64 y.qu) ∧ w'.cell? ⟨w.heap.size + 1, 3, none⟩ = some (.int .i64 y.de) ∧ w'.cell? ⟨w.heap.size + 1, 4, none⟩ = some (.int .i64 y.ho))) (by kernel_rfl) ?_ (fun hHeld => ?_)
      · (try dsimp only)
        first | done | go_keep
      refine wpAnyH_take (i := 0) (oi := ({ dst := some 7, op := Op.move (Operand.tmp 2), type := 81, pos := "l08_tests.go:263", after := #[], guard := none } : Oper)) (v := ?_) rfl (by kernel_rfl) (by kernel_rfl) (by kernel_rfl) (fun _ _ _ h => h) (Or.inl ⟨by kernel_rfl, ?_⟩) (by assumption) ?_
      rotate_left
      · (intro w hSw; (try dsimp only at hSw); go_simp <;> with_reducible rfl)
      try simp only [Act.put, List.setIfInBounds_toArray, List.set_cons_zero, List.set_cons_succ]
      refine wpAnyH_take (i := 1) (oi := ({ dst := some 8, op := Op.fieldAddr 35 (Operand.tmp 3) 3, type := 0, pos := "l08_tests.go:263", after := #[], guard := none } : Oper)) (v := ?_) rfl (by kernel_rfl) (by kernel_rfl) (by kernel_rfl) (fun _ _ _ h => h) (Or.inl ⟨by kernel_rfl, ?_⟩) (by assumption) ?_
      rotate_left
      · (intro w hSw; (try dsimp only at hSw); go_simp <;> with_reducible rfl)
      try simp only [Act.put, List.setIfInBounds_toArray, List.set_cons_zero, List.set_cons_succ]
      refine wpAnyH_take (i := 2) (oi := ({ dst := some 9, op := Op.load 2 (Operand.tmp 8), type := 2, pos := "l08_tests.go:263", after := #[{ on := 1, ground := Ground.data }], guard := none } : Oper)) (v := ?_) rfl (by kernel_rfl) (by kernel_rfl) (by kernel_rfl) (fun _ _ _ h => h) (Or.inl ⟨by kernel_rfl, ?_⟩) (by assumption) ?_
      rotate_left
      · (intro w hSw; (try dsimp only at hSw); go_simp <;> with_reducible rfl)
      try simp only [Act.put, List.setIfInBounds_toArray, List.set_cons_zero, List.set_cons_succ]
      refine wpAnyH_take (i := 3) (oi := ({ dst := some 10, op := Op.fieldAddr 35 (Operand.tmp 4) 3, type := 0, pos := "l08_tests.go:263", after := #[], guard := none } : Oper)) (v := ?_) rfl (by kernel_rfl) (by kernel_rfl) (by kernel_rfl) (fun _ _ _ h => h) (Or.inl ⟨by kernel_rfl, ?_⟩) (by assumption) ?_
      rotate_left
      · (intro w hSw; (try dsimp only at hSw); go_simp <;> with_reducible rfl)
      try simp only [Act.put, List.setIfInBounds_toArray, List.set_cons_zero, List.set_cons_succ]
      refine wpAnyH_take (i := 4) (oi := ({ dst := some 11, op := Op.load 2 (Operand.tmp 10), type := 2, pos := "l08_tests.go:263", after := #[{ on := 3, ground := Ground.data }], guard := none } : Oper)) (v := ?_) rfl (by kernel_rfl) (by kernel_rfl) (by kernel_rfl) (fun _ _ _ h => h) (Or.inl ⟨by kernel_rfl, ?_⟩) (by assumption) ?_
      rotate_left
      · (intro w hSw; (try dsimp only at hSw); go_simp <;> with_reducible rfl)
      try simp only [Act.put, List.setIfInBounds_toArray, List.set_cons_zero, List.set_cons_succ]
      refine wpAnyH_ready (rs := [5]) (by kernel_rfl) (by simp) ?_
      refine AllReadyH.cons (o := ({ dst := some 12, op := Op.call { callee := Callee.value (Operand.func 75), args := #[Operand.tmp 7, Operand.tmp 9, Operand.tmp 11], argTypes := #[81, 2, 2] }, type := 4, pos := "l08_tests.go:263", after := #[{ on := 0, ground := Ground.data }, { on := 2, ground := Ground.data }, { on := 4, ground := Ground.data }], guard := none } : Oper)) rfl (fun K hK => ?_) ?_
      · go_simp
        (go_at_call 75; refine (CJ.out _).mono ?_; rintro e w' ⟨rfl, rfl⟩)
        go_wp2_with fail
        refine hK.out _ _ ?_ (fun hHeld => ?_)
        · (try dsimp only)
          first | done | go_keep
        clear hK K
        try simp only [Act.put, List.setIfInBounds_toArray, List.set_cons_zero, List.set_cons_succ]
        refine wpAnyH_take (i := 6) (oi := ({ dst := some 13, op := Op.move (Operand.tmp 12), type := 4, pos := "l08_tests.go:263", after := #[{ on := 5, ground := Ground.data }, { on := 5, ground := Ground.chain }], guard := none } : Oper)) (v := ?_) rfl (by kernel_rfl) (by kernel_rfl) (by kernel_rfl) (fun _ _ _ h => h) (Or.inl ⟨by kernel_rfl, ?_⟩) (by assumption) ?_
        rotate_left
        · (intro w hSw; (try dsimp only at hSw); go_simp <;> with_reducible rfl)
        try simp only [Act.put, List.setIfInBounds_toArray, List.set_cons_zero, List.set_cons_succ]
        refine wpAnyH_take (i := 7) (oi := ({ dst := some 14, op := Op.load 35 (Operand.tmp 3), type := 35, pos := "l08_tests.go:263", after := #[{ on := 6, ground := Ground.guard }], guard := some (6, true) } : Oper)) (v := ?_) rfl (by kernel_rfl) (by kernel_rfl) (by kernel_rfl) (fun _ _ _ h => h) (Or.inl ⟨by kernel_rfl, ?_⟩) (by assumption) ?_
        rotate_left
        · (intro w hSw; (try dsimp only at hSw); go_simp <;> with_reducible rfl)
        try simp only [Act.put, List.setIfInBounds_toArray, List.set_cons_zero, List.set_cons_succ]
        refine wpAnyH_take (i := 9) (oi := ({ dst := some 16, op := Op.load 35 (Operand.tmp 4), type := 35, pos := "l08_tests.go:263", after := #[{ on := 6, ground := Ground.guard }], guard := some (6, true) } : Oper)) (v := ?_) rfl (by kernel_rfl) (by kernel_rfl) (by kernel_rfl) (fun _ _ _ h => h) (Or.inl ⟨by kernel_rfl, ?_⟩) (by assumption) ?_
        rotate_left
        · (intro w hSw; (try dsimp only at hSw); go_simp <;> with_reducible rfl)
        try simp only [Act.put, List.setIfInBounds_toArray, List.set_cons_zero, List.set_cons_succ]
        refine wpAnyH_ready (rs := [8]) (by kernel_rfl) (by simp) ?_
        refine AllReadyH.cons (o := ({ dst := some 15, op := Op.call { callee := Callee.value (Operand.func 55), args := #[Operand.tmp 14], argTypes := #[35] }, type := 2, pos := "l08_tests.go:263", after := #[{ on := 7, ground := Ground.data }, { on := 6, ground := Ground.chain }, { on := 6, ground := Ground.guard }], guard := some (6, true) } : Oper)) rfl (fun K hK => ?_) ?_
        · go_simp
          (go_at_call 55; refine (CX.out _ (below_drewW _ 1)).mono ?_; rintro e wA ⟨rfl, bA⟩; have bA0 := bt (below_drewW _ 1) bA; obtain ⟨ak0, ak1, ak2, ak3, ak4⟩ := K0.out wA bA0; obtain ⟨al0, al1, al2, al3, al4⟩ := P0.out wA bA0)
          go_wp2_with fail
          refine hK.out _ _ ?_ (fun hHeld => ?_)
          · (try dsimp only)
            first | done | go_keep
          clear hK K
          try simp only [Act.put, List.setIfInBounds_toArray, List.set_cons_zero, List.set_cons_succ]
          refine wpAnyH_ready (rs := [10]) (by kernel_rfl) (by simp) ?_
          refine AllReadyH.cons (o := ({ dst := some 17, op := Op.call { callee := Callee.value (Operand.func 55), args := #[Operand.tmp 16], argTypes := #[35] }, type := 2, pos := "l08_tests.go:263", after := #[{ on := 9, ground := Ground.data }, { on := 8, ground := Ground.chain }, { on := 6, ground := Ground.guard }], guard := some (6, true) } : Oper)) rfl (fun K hK => ?_) ?_
          · go_simp
            (go_at_call 55; refine (CY.out _ bA0).mono ?_; rintro e wB ⟨rfl, bB⟩; have bB0 := bt bA0 bB; obtain ⟨bk0, bk1, bk2, bk3, bk4⟩ := K0.out wB bB0; obtain ⟨bl0, bl1, bl2, bl3, bl4⟩ := P0.out wB bB0)
            go_wp2_with fail
            refine hK.out _ _ ?_ (fun hHeld => ?_)
            · (try dsimp only)
              first | done | go_keep
            clear hK K
            try simp only [Act.put, List.setIfInBounds_toArray, List.set_cons_zero, List.set_cons_succ]
            refine wpAnyH_ready (rs := [11]) (by kernel_rfl) (by simp) ?_
            refine AllReadyH.cons (o := ({ dst := some 18, op := Op.call { callee := Callee.value (Operand.func 94), args := #[Operand.tmp 15, Operand.tmp 17], argTypes := #[2, 2] }, type := 2, pos := "l08_tests.go:263", after := #[{ on := 8, ground := Ground.data }, { on := 10, ground := Ground.data }, { on := 10, ground := Ground.chain }, { on := 6, ground := Ground.guard }], guard := some (6, true) } : Oper)) rfl (fun K hK => ?_) ?_
            · go_simp
              (go_at_call 94; refine (CD.out _).mono ?_; rintro e w' ⟨rfl, rfl⟩)
              go_wp2_with fail
              refine hK.out _ _ ?_ (fun hHeld => ?_)
              · (try dsimp only)
                first | done | go_keep
              clear hK K
              try simp only [Act.put, List.setIfInBounds_toArray, List.set_cons_zero, List.set_cons_succ]
              refine wpAnyH_take (i := 12) (oi := ({ dst := some 19, op := Op.binOp BinOp.geq 2 (Operand.tmp 18) (Operand.const (Value.int IntKind.i64 2)) 2, type := 4, pos := "l08_tests.go:263", after := #[{ on := 11, ground := Ground.data }, { on := 6, ground := Ground.guard }], guard := some (6, true) } : Oper)) (v := ?_) rfl (by kernel_rfl) (by kernel_rfl) (by kernel_rfl) (fun _ _ _ h => h) (Or.inl ⟨by kernel_rfl, ?_⟩) (by assumption) ?_
              rotate_left
              · (intro w hSw; (try dsimp only at hSw); go_simp <;> with_reducible rfl)
              try simp only [Act.put, List.setIfInBounds_toArray, List.set_cons_zero, List.set_cons_succ]
              refine wpAnyH_take (i := 13) (oi := ({ dst := some 20, op := Op.pick (Operand.tmp 13) (Operand.tmp 19) (Operand.const (Value.bool false)), type := 4, pos := "l08_tests.go:263", after := #[{ on := 6, ground := Ground.data }, { on := 12, ground := Ground.data }], guard := none } : Oper)) (v := ?_) rfl (by kernel_rfl) (by kernel_rfl) (by kernel_rfl) (fun _ _ _ h => h) (Or.inl ⟨by kernel_rfl, ?_⟩) (by assumption) ?_
              rotate_left
              · (intro w hSw; (try dsimp only at hSw); go_simp <;> with_reducible rfl)
              try simp only [Act.put, List.setIfInBounds_toArray, List.set_cons_zero, List.set_cons_succ]
              refine wpAnyH_take (i := 14) (oi := ({ dst := some 6, op := Op.assign (Operand.tmp 20), type := 4, pos := "l08_tests.go:263", after := #[{ on := 13, ground := Ground.data }, { on := 11, ground := Ground.chain }, { on := 0, ground := Ground.phase }, { on := 1, ground := Ground.phase }, { on := 2, ground := Ground.phase }, { on := 3, ground := Ground.phase }, { on := 4, ground := Ground.phase }, { on := 5, ground := Ground.phase }, { on := 6, ground := Ground.phase }, { on := 7, ground := Ground.phase }, { on := 8, ground := Ground.phase }, { on := 9, ground := Ground.phase }, { on := 10, ground := Ground.phase }, { on := 11, ground := Ground.phase }, { on := 12, ground := Ground.phase }, { on := 13, ground := Ground.phase }], guard := none } : Oper)) (v := ?_) rfl (by kernel_rfl) (by kernel_rfl) (by kernel_rfl) (fun _ _ _ h => h) (Or.inl ⟨by kernel_rfl, ?_⟩) (by assumption) ?_
              rotate_left
              · (intro w hSw; (try dsimp only at hSw); go_simp <;> with_reducible rfl)
              try simp only [Act.put, List.setIfInBounds_toArray, List.set_cons_zero, List.set_cons_succ]
              refine wpAnyH_done (by kernel_rfl) ?_ _
              go_wp2_with fail
              go_ret
              exact ⟨rfl, bt HB.out bB0⟩
            exact AllReadyH.nil
          exact AllReadyH.nil
        exact AllReadyH.nil
      exact AllReadyH.nil
    | true =>
      rw [show Tq.cb n x y = true by unfold Tq.cb; rw [hr, hc]; rfl]
      rw [hr] at CJ
      clear hr
      generalize Ar.ab (Tq.cls y - Tq.cls x) = ac at *
      generalize Tq.cls x = c1 at *
      generalize Tq.cls y = c2 at *
      go_enter Tryd.func80, Tryd.ntmps80
      go_wp2_with fail
      rw [← hbx]
      clear hbx
      refine wp_region_held_drew (S := (fun w' => (w'.cell? ⟨w.heap.size, 0, none⟩ = some (.int .i64 x.ki) ∧ w'.cell? ⟨w.heap.size, 1, none⟩ = some (.int .i64 x.sc) ∧ w'.cell? ⟨w.heap.size, 2, none⟩ = some (.int .i64 x.qu) ∧ w'.cell? ⟨w.heap.size, 3, none⟩ = some (.int .i64 x.de) ∧ w'.cell? ⟨w.heap.size, 4, none⟩ = some (.int .i64 x.ho)) ∧ w'.cell? ⟨w.heap.size + 1, 0, none⟩ = some (.int .i64 y.ki) ∧ w'.cell? ⟨w.heap.size + 1, 1, none⟩ = some (.int .i64 y.sc) ∧ w'.cell? ⟨w.heap.size + 1, 2, none⟩ = some (.int .i64 y.qu) ∧ w'.cell? ⟨w.heap.size + 1, 3, none⟩ = some (.int .i64 y.de) ∧ w'.cell? ⟨w.heap.size + 1, 4, none⟩ = some (.int .i64 y.ho))) (by kernel_rfl) ?_ (fun hHeld => ?_)
      · (try dsimp only)
        first | done | go_keep
      refine wpAnyH_take (i := 0) (oi := ({ dst := some 7, op := Op.move (Operand.tmp 2), type := 81, pos := "l08_tests.go:263", after := #[], guard := none } : Oper)) (v := ?_) rfl (by kernel_rfl) (by kernel_rfl) (by kernel_rfl) (fun _ _ _ h => h) (Or.inl ⟨by kernel_rfl, ?_⟩) (by assumption) ?_
      rotate_left
      · (intro w hSw; (try dsimp only at hSw); go_simp <;> with_reducible rfl)
      try simp only [Act.put, List.setIfInBounds_toArray, List.set_cons_zero, List.set_cons_succ]
      refine wpAnyH_take (i := 1) (oi := ({ dst := some 8, op := Op.fieldAddr 35 (Operand.tmp 3) 3, type := 0, pos := "l08_tests.go:263", after := #[], guard := none } : Oper)) (v := ?_) rfl (by kernel_rfl) (by kernel_rfl) (by kernel_rfl) (fun _ _ _ h => h) (Or.inl ⟨by kernel_rfl, ?_⟩) (by assumption) ?_
      rotate_left
      · (intro w hSw; (try dsimp only at hSw); go_simp <;> with_reducible rfl)
      try simp only [Act.put, List.setIfInBounds_toArray, List.set_cons_zero, List.set_cons_succ]
      refine wpAnyH_take (i := 2) (oi := ({ dst := some 9, op := Op.load 2 (Operand.tmp 8), type := 2, pos := "l08_tests.go:263", after := #[{ on := 1, ground := Ground.data }], guard := none } : Oper)) (v := ?_) rfl (by kernel_rfl) (by kernel_rfl) (by kernel_rfl) (fun _ _ _ h => h) (Or.inl ⟨by kernel_rfl, ?_⟩) (by assumption) ?_
      rotate_left
      · (intro w hSw; (try dsimp only at hSw); go_simp <;> with_reducible rfl)
      try simp only [Act.put, List.setIfInBounds_toArray, List.set_cons_zero, List.set_cons_succ]
      refine wpAnyH_take (i := 3) (oi := ({ dst := some 10, op := Op.fieldAddr 35 (Operand.tmp 4) 3, type := 0, pos := "l08_tests.go:263", after := #[], guard := none } : Oper)) (v := ?_) rfl (by kernel_rfl) (by kernel_rfl) (by kernel_rfl) (fun _ _ _ h => h) (Or.inl ⟨by kernel_rfl, ?_⟩) (by assumption) ?_
      rotate_left
      · (intro w hSw; (try dsimp only at hSw); go_simp <;> with_reducible rfl)
      try simp only [Act.put, List.setIfInBounds_toArray, List.set_cons_zero, List.set_cons_succ]
      refine wpAnyH_take (i := 4) (oi := ({ dst := some 11, op := Op.load 2 (Operand.tmp 10), type := 2, pos := "l08_tests.go:263", after := #[{ on := 3, ground := Ground.data }], guard := none } : Oper)) (v := ?_) rfl (by kernel_rfl) (by kernel_rfl) (by kernel_rfl) (fun _ _ _ h => h) (Or.inl ⟨by kernel_rfl, ?_⟩) (by assumption) ?_
      rotate_left
      · (intro w hSw; (try dsimp only at hSw); go_simp <;> with_reducible rfl)
      try simp only [Act.put, List.setIfInBounds_toArray, List.set_cons_zero, List.set_cons_succ]
      refine wpAnyH_ready (rs := [5]) (by kernel_rfl) (by simp) ?_
      refine AllReadyH.cons (o := ({ dst := some 12, op := Op.call { callee := Callee.value (Operand.func 75), args := #[Operand.tmp 7, Operand.tmp 9, Operand.tmp 11], argTypes := #[81, 2, 2] }, type := 4, pos := "l08_tests.go:263", after := #[{ on := 0, ground := Ground.data }, { on := 2, ground := Ground.data }, { on := 4, ground := Ground.data }], guard := none } : Oper)) rfl (fun K hK => ?_) ?_
      · go_simp
        (go_at_call 75; refine (CJ.out _).mono ?_; rintro e w' ⟨rfl, rfl⟩)
        go_wp2_with fail
        refine hK.out _ _ ?_ (fun hHeld => ?_)
        · (try dsimp only)
          first | done | go_keep
        clear hK K
        try simp only [Act.put, List.setIfInBounds_toArray, List.set_cons_zero, List.set_cons_succ]
        refine wpAnyH_take (i := 6) (oi := ({ dst := some 13, op := Op.move (Operand.tmp 12), type := 4, pos := "l08_tests.go:263", after := #[{ on := 5, ground := Ground.data }, { on := 5, ground := Ground.chain }], guard := none } : Oper)) (v := ?_) rfl (by kernel_rfl) (by kernel_rfl) (by kernel_rfl) (fun _ _ _ h => h) (Or.inl ⟨by kernel_rfl, ?_⟩) (by assumption) ?_
        rotate_left
        · (intro w hSw; (try dsimp only at hSw); go_simp <;> with_reducible rfl)
        try simp only [Act.put, List.setIfInBounds_toArray, List.set_cons_zero, List.set_cons_succ]
        refine wpAnyH_take (i := 7) (oi := ({ dst := some 14, op := Op.load 35 (Operand.tmp 3), type := 35, pos := "l08_tests.go:263", after := #[{ on := 6, ground := Ground.guard }], guard := some (6, true) } : Oper)) (v := ?_) rfl (by kernel_rfl) (by kernel_rfl) (by kernel_rfl) (fun _ _ _ h => h) (Or.inl ⟨by kernel_rfl, ?_⟩) (by assumption) ?_
        rotate_left
        · (intro w hSw; (try dsimp only at hSw); go_simp <;> with_reducible rfl)
        try simp only [Act.put, List.setIfInBounds_toArray, List.set_cons_zero, List.set_cons_succ]
        refine wpAnyH_take (i := 9) (oi := ({ dst := some 16, op := Op.load 35 (Operand.tmp 4), type := 35, pos := "l08_tests.go:263", after := #[{ on := 6, ground := Ground.guard }], guard := some (6, true) } : Oper)) (v := ?_) rfl (by kernel_rfl) (by kernel_rfl) (by kernel_rfl) (fun _ _ _ h => h) (Or.inl ⟨by kernel_rfl, ?_⟩) (by assumption) ?_
        rotate_left
        · (intro w hSw; (try dsimp only at hSw); go_simp <;> with_reducible rfl)
        try simp only [Act.put, List.setIfInBounds_toArray, List.set_cons_zero, List.set_cons_succ]
        refine wpAnyH_ready (rs := [8]) (by kernel_rfl) (by simp) ?_
        refine AllReadyH.cons (o := ({ dst := some 15, op := Op.call { callee := Callee.value (Operand.func 55), args := #[Operand.tmp 14], argTypes := #[35] }, type := 2, pos := "l08_tests.go:263", after := #[{ on := 7, ground := Ground.data }, { on := 6, ground := Ground.chain }, { on := 6, ground := Ground.guard }], guard := some (6, true) } : Oper)) rfl (fun K hK => ?_) ?_
        · go_simp
          (go_at_call 55; refine (CX.out _ (below_drewW _ 1)).mono ?_; rintro e wA ⟨rfl, bA⟩; have bA0 := bt (below_drewW _ 1) bA; obtain ⟨ak0, ak1, ak2, ak3, ak4⟩ := K0.out wA bA0; obtain ⟨al0, al1, al2, al3, al4⟩ := P0.out wA bA0)
          go_wp2_with fail
          refine hK.out _ _ ?_ (fun hHeld => ?_)
          · (try dsimp only)
            first | done | go_keep
          clear hK K
          try simp only [Act.put, List.setIfInBounds_toArray, List.set_cons_zero, List.set_cons_succ]
          refine wpAnyH_ready (rs := [10]) (by kernel_rfl) (by simp) ?_
          refine AllReadyH.cons (o := ({ dst := some 17, op := Op.call { callee := Callee.value (Operand.func 55), args := #[Operand.tmp 16], argTypes := #[35] }, type := 2, pos := "l08_tests.go:263", after := #[{ on := 9, ground := Ground.data }, { on := 8, ground := Ground.chain }, { on := 6, ground := Ground.guard }], guard := some (6, true) } : Oper)) rfl (fun K hK => ?_) ?_
          · go_simp
            (go_at_call 55; refine (CY.out _ bA0).mono ?_; rintro e wB ⟨rfl, bB⟩; have bB0 := bt bA0 bB; obtain ⟨bk0, bk1, bk2, bk3, bk4⟩ := K0.out wB bB0; obtain ⟨bl0, bl1, bl2, bl3, bl4⟩ := P0.out wB bB0)
            go_wp2_with fail
            refine hK.out _ _ ?_ (fun hHeld => ?_)
            · (try dsimp only)
              first | done | go_keep
            clear hK K
            try simp only [Act.put, List.setIfInBounds_toArray, List.set_cons_zero, List.set_cons_succ]
            refine wpAnyH_ready (rs := [11]) (by kernel_rfl) (by simp) ?_
            refine AllReadyH.cons (o := ({ dst := some 18, op := Op.call { callee := Callee.value (Operand.func 94), args := #[Operand.tmp 15, Operand.tmp 17], argTypes := #[2, 2] }, type := 2, pos := "l08_tests.go:263", after := #[{ on := 8, ground := Ground.data }, { on := 10, ground := Ground.data }, { on := 10, ground := Ground.chain }, { on := 6, ground := Ground.guard }], guard := some (6, true) } : Oper)) rfl (fun K hK => ?_) ?_
            · go_simp
              (go_at_call 94; refine (CD.out _).mono ?_; rintro e w' ⟨rfl, rfl⟩)
              go_wp2_with fail
              refine hK.out _ _ ?_ (fun hHeld => ?_)
              · (try dsimp only)
                first | done | go_keep
              clear hK K
              try simp only [Act.put, List.setIfInBounds_toArray, List.set_cons_zero, List.set_cons_succ]
              refine wpAnyH_take (i := 12) (oi := ({ dst := some 19, op := Op.binOp BinOp.geq 2 (Operand.tmp 18) (Operand.const (Value.int IntKind.i64 2)) 2, type := 4, pos := "l08_tests.go:263", after := #[{ on := 11, ground := Ground.data }, { on := 6, ground := Ground.guard }], guard := some (6, true) } : Oper)) (v := ?_) rfl (by kernel_rfl) (by kernel_rfl) (by kernel_rfl) (fun _ _ _ h => h) (Or.inl ⟨by kernel_rfl, ?_⟩) (by assumption) ?_
              rotate_left
              · (intro w hSw; (try dsimp only at hSw); go_simp <;> with_reducible rfl)
              try simp only [Act.put, List.setIfInBounds_toArray, List.set_cons_zero, List.set_cons_succ]
              refine wpAnyH_take (i := 13) (oi := ({ dst := some 20, op := Op.pick (Operand.tmp 13) (Operand.tmp 19) (Operand.const (Value.bool false)), type := 4, pos := "l08_tests.go:263", after := #[{ on := 6, ground := Ground.data }, { on := 12, ground := Ground.data }], guard := none } : Oper)) (v := ?_) rfl (by kernel_rfl) (by kernel_rfl) (by kernel_rfl) (fun _ _ _ h => h) (Or.inl ⟨by kernel_rfl, ?_⟩) (by assumption) ?_
              rotate_left
              · (intro w hSw; (try dsimp only at hSw); go_simp <;> with_reducible rfl)
              try simp only [Act.put, List.setIfInBounds_toArray, List.set_cons_zero, List.set_cons_succ]
              refine wpAnyH_take (i := 14) (oi := ({ dst := some 6, op := Op.assign (Operand.tmp 20), type := 4, pos := "l08_tests.go:263", after := #[{ on := 13, ground := Ground.data }, { on := 11, ground := Ground.chain }, { on := 0, ground := Ground.phase }, { on := 1, ground := Ground.phase }, { on := 2, ground := Ground.phase }, { on := 3, ground := Ground.phase }, { on := 4, ground := Ground.phase }, { on := 5, ground := Ground.phase }, { on := 6, ground := Ground.phase }, { on := 7, ground := Ground.phase }, { on := 8, ground := Ground.phase }, { on := 9, ground := Ground.phase }, { on := 10, ground := Ground.phase }, { on := 11, ground := Ground.phase }, { on := 12, ground := Ground.phase }, { on := 13, ground := Ground.phase }], guard := none } : Oper)) (v := ?_) rfl (by kernel_rfl) (by kernel_rfl) (by kernel_rfl) (fun _ _ _ h => h) (Or.inl ⟨by kernel_rfl, ?_⟩) (by assumption) ?_
              rotate_left
              · (intro w hSw; (try dsimp only at hSw); go_simp <;> with_reducible rfl)
              try simp only [Act.put, List.setIfInBounds_toArray, List.set_cons_zero, List.set_cons_succ]
              refine wpAnyH_done (by kernel_rfl) ?_ _
              go_wp2_with fail
              go_ret
              exact ⟨rfl, bt HB.out bB0⟩
            exact AllReadyH.nil
          exact AllReadyH.nil
        exact AllReadyH.nil
      exact AllReadyH.nil
set_option maxHeartbeats 6400000 in
theorem implContradictTests_any (w : World) (v : Value) (xs : List Tst) (n : Int) (hv : TeSl w v xs) (hl : xs.length ≤ 1048576) (hR : RulesT w) :
    Calls Tryd.prog 40 #[v, .int .i64 n] w (RSS w (Tq.ctL xs n) (Tq.ctC xs n)) := by
  have hm : ∀ w : World, (method 245 81 (.int .i64 n) "loop.example/g01013/impl.isStated").run Tryd.prog w = .ok (135, .int .i64 n) w := fun _ => by kernel_rfl
  have C := Lib.hid (fun W (hb : Below w.heap.size w W) => testsCode_any W v xs 81 (.int .i64 n) 135 (Ar.inB 0 n 300) (hv.below hb) hl (hR.below hb) hm (enters_of Tryd.func135 (by kernel_rfl) rfl) (fun W => nearStated_any n W))
  obtain ⟨i0, hi, hz0, hz1, hz2⟩ := info_parts info_rows
  obtain ⟨a, cap, rfl⟩ := hv.form
  have HV := Lib.hid hv
  have HR := Lib.hid hR
  clear hv hR hm
  unfold Tq.ctL Tq.ctC
  cases hq : Tq.okS xs with
  | false =>
    rw [hq] at C
    rw [Cd.ls_f, Cd.cd_f]
    simp only [Cd.cd_f] at C
    clear hq
    go_enter Tryd.func40, Tryd.ntmps40
    go_wp2_with fail
    refine (C.out _ (Below.refl _ _)).mono ?_
    rintro e w1 ⟨rfl, b1⟩
    have B1 := Lib.hid b1
    clear b1
    go_wp2_with fail
    go_ret2
    exact RSS.no B1.out
  | true =>
    rw [hq] at C
    cases hs : Ar.inB 0 n 300 with
    | false =>
      rw [Cd.ls_tf, Cd.cd_tf]
      rw [hs] at C
      simp only [Cd.cd_tf] at C
      clear hq hs
      go_enter Tryd.func40, Tryd.ntmps40
      go_wp2_with fail
      refine (C.out _ (Below.refl _ _)).mono ?_
      rintro e w1 ⟨rfl, b1⟩
      have B1 := Lib.hid b1
      clear b1
      go_wp2_with fail
      go_ret2
      exact RSS.no B1.out
    | true =>
      rw [Cd.ls_t, Cd.cd_t]
      have HF := Lib.hid (fun k (hk : k < xs.length) => Tq.fits_at hq hk)
      have h16 := Lib.hid (Tq.len_ok hq)
      rw [hs] at C
      simp only [Cd.cd_t] at C
      clear hs hq
      go_enter Tryd.func40, Tryd.ntmps40
      go_wp2_with fail
      refine (C.out _ (Below.refl _ _)).mono ?_
      rintro e w1 ⟨rfl, b1⟩
      have B1 := Lib.hid b1
      clear b1
      have h16x := h16.out
      go_wp2_with (at_make; refine wpList_make_own _ rfl _ _ 51 rfl w.heap.size 41 i0 (.slice none 0 0) 1 Tryd.underlying51 hi hz0 hz1 .i64 .i64 _ xs.length rfl rfl rfl ?c1 ?c2 ?c3 ?_)
      case c1 => rw [hz2]; omega
      case c2 => unfold maxLen; omega
      case c3 => exact B1.out.size
      intro w2 hown hg
      have X1 : Hid (OSS w.heap.size w2 _ []) := Lib.hid ⟨hown, (fun t ht => by cases ht), List.nodup_nil⟩
      have B2 := Lib.hid (B1.out.grown hg B1.out.size (fun k hk => by cases hk))
      clear hown hg
      go_wp2_with fail
      go_loopw [7, 8, 9, 22] (fun u _ _ s7 wr => ∃ (i : Nat) (L : List Rw), i ≤ xs.length ∧ s7 = .int .i64 i ∧ Hid (OSS w.heap.size wr u L) ∧ Hid (L.map (·.2.2) = Tq.pa n xs i) ∧ Hid (Below w.heap.size w wr)) (fun _ _ _ s7 _ => xs.length - (intOf s7).toNat)
      case atStart => exact ⟨0, [], Nat.zero_le _, rfl, X1, Lib.hid rfl, B2⟩
      case round =>
        obtain ⟨i, L0, hi0, rfl, hX0, hN0, hb⟩ := hrel
        by_cases hlt : i < xs.length
        · have hltz : (i : Int) < (xs.length : Int) := by omega
          go_wp2_with fail
          go_loopw [7, 9] (fun u s8 wr => ∃ (k : Nat) (L : List Rw), i + 1 ≤ k ∧ k ≤ xs.length ∧ s8 = .int .i64 k ∧ Hid (OSS w.heap.size wr u L) ∧ Hid (L.map (·.2.2) = Tq.pa n xs i ++ Tq.pk n xs i k) ∧ Hid (Below w.heap.size w wr)) (fun _ s8 _ => xs.length - (intOf s8).toNat)
          case atStart => exact ⟨i + 1, L0, Nat.le_refl _, by omega, by go_num, hX0, Lib.hid (by rw [Tq.pk_start _ _ _ _ (Nat.le_refl _), List.append_nil]; exact hN0.out), hb⟩
          case round =>
            obtain ⟨k, L, hik, hk, rfl, hX, hN, hbk⟩ := hrel
            by_cases hlk : k < xs.length
            · have hlkz : (k : Int) < (xs.length : Int) := by omega
              have k0 : (0 : Int) ≤ (k : Int) := by omega
              have hltz : (i : Int) < (xs.length : Int) := by omega
              have i00 : (0 : Int) ≤ (i : Int) := by omega
              obtain ⟨b, off, cap1, hn1, hbl, hcc⟩ := (HV.out.below hbk.out).at_ hlk
              simp only [Value.slice.injEq] at hn1
              obtain ⟨rfl, -, rfl⟩ := hn1
              have hlb := hbl
              have KA := Lib.hid (fun W (h : Below wr.heap.size wr W) => by
                obtain ⟨b2, off2, cap2, hn2, -, hc2⟩ := (HV.out.below (bt hbk.out h)).at_ hlk
                simp only [Value.slice.injEq, Option.some.injEq, Addr.mk.injEq] at hn2
                obtain ⟨⟨rfl, rfl, -⟩, -, -⟩ := hn2
                have hi5 := hc2 i hlt
                have hk5 := hc2 k hlk
                exact (⟨⟨hi5.c0, hi5.c1, hi5.c2, hi5.c3, hi5.c4⟩, hk5.c0, hk5.c1, hk5.c2, hk5.c3, hk5.c4⟩ : (W.cell? ⟨b, off + i * 5, none⟩ = some (.int .i64 xs[i].ki) ∧ W.cell? ⟨b, off + i * 5 + 1, none⟩ = some (.int .i64 xs[i].sc) ∧ W.cell? ⟨b, off + i * 5 + 2, none⟩ = some (.int .i64 xs[i].qu) ∧ W.cell? ⟨b, off + i * 5 + 3, none⟩ = some (.int .i64 xs[i].de) ∧ W.cell? ⟨b, off + i * 5 + 4, none⟩ = some (.int .i64 xs[i].ho)) ∧ W.cell? ⟨b, off + k * 5, none⟩ = some (.int .i64 xs[k].ki) ∧ W.cell? ⟨b, off + k * 5 + 1, none⟩ = some (.int .i64 xs[k].sc) ∧ W.cell? ⟨b, off + k * 5 + 2, none⟩ = some (.int .i64 xs[k].qu) ∧ W.cell? ⟨b, off + k * 5 + 3, none⟩ = some (.int .i64 xs[k].de) ∧ W.cell? ⟨b, off + k * 5 + 4, none⟩ = some (.int .i64 xs[k].ho)))
              have CC := Lib.hid (fun W (h : Below wr.heap.size wr W) => contradicts_any xs[i] xs[k] n W (HF.out i hlt) (HF.out k hlk) (HR.out.below (bt hbk.out h)))
              obtain ⟨⟨c0, c1, c2, c3, c4⟩, d0, d1, d2, d3, d4⟩ := KA.out wr (Below.refl _ _)
              clear hcc
              cases hr : Tq.cb n xs[i] xs[k] with
              | false =>
                have hs : Hid (Tq.pk n xs i (k + 1) = Tq.pk n xs i k) := Lib.hid (Tq.pk_no (by omega) hlk hr)
                rw [hr] at CC
                clear hr
                go_wp2_with fail
                go_region_held3 (fun w' => (w'.cell? ⟨b, off + i * 5, none⟩ = some (.int .i64 xs[i].ki) ∧ w'.cell? ⟨b, off + i * 5 + 1, none⟩ = some (.int .i64 xs[i].sc) ∧ w'.cell? ⟨b, off + i * 5 + 2, none⟩ = some (.int .i64 xs[i].qu) ∧ w'.cell? ⟨b, off + i * 5 + 3, none⟩ = some (.int .i64 xs[i].de) ∧ w'.cell? ⟨b, off + i * 5 + 4, none⟩ = some (.int .i64 xs[i].ho)) ∧ w'.cell? ⟨b, off + k * 5, none⟩ = some (.int .i64 xs[k].ki) ∧ w'.cell? ⟨b, off + k * 5 + 1, none⟩ = some (.int .i64 xs[k].sc) ∧ w'.cell? ⟨b, off + k * 5 + 2, none⟩ = some (.int .i64 xs[k].qu) ∧ w'.cell? ⟨b, off + k * 5 + 3, none⟩ = some (.int .i64 xs[k].de) ∧ w'.cell? ⟨b, off + k * 5 + 4, none⟩ = some (.int .i64 xs[k].ho)) (go_keep)
                  (first | (go_at_call 80; refine (CC.out _ (below_drewW _ 1)).mono ?_; rintro e wB ⟨rfl, bA⟩; have bB0 := bt (below_drewW _ 1) bA; obtain ⟨⟨q0, q1, q2, q3, q4⟩, t0, t1, t2, t3, t4⟩ := KA.out wB bB0))
                have HQ := Lib.hid bB0
                clear bA bB0
                go_wp2_with fail
                exact ⟨⟨k + 1, L, by omega, by omega, by go_num, hidOSS hX HQ.out, Lib.hid (by rw [hs.out]; exact hN.out), Lib.hid (bt hbk.out HQ.out)⟩, by simp only [intOf]; omega⟩
              | true =>
                have hs : Hid (Tq.pk n xs i (k + 1) = Tq.pk n xs i k ++ [[(i : Int), (k : Int)]]) := Lib.hid (Tq.pk_yes (by omega) hlk hr)
                have hLl : L.length ≤ 300 := by
                  have h1 := congrArg List.length hN.out
                  have h2 := Tq.pa_16 (n := n) (i := i) h16.out (by omega)
                  have h3 := (Tq.pk_len n xs i k).1
                  have h4 := h16.out
                  rw [List.length_map, List.length_append] at h1
                  omega
                rw [hr] at CC
                clear hr
                go_wp2_with fail
                go_region_held3 (fun w' => (w'.cell? ⟨b, off + i * 5, none⟩ = some (.int .i64 xs[i].ki) ∧ w'.cell? ⟨b, off + i * 5 + 1, none⟩ = some (.int .i64 xs[i].sc) ∧ w'.cell? ⟨b, off + i * 5 + 2, none⟩ = some (.int .i64 xs[i].qu) ∧ w'.cell? ⟨b, off + i * 5 + 3, none⟩ = some (.int .i64 xs[i].de) ∧ w'.cell? ⟨b, off + i * 5 + 4, none⟩ = some (.int .i64 xs[i].ho)) ∧ w'.cell? ⟨b, off + k * 5, none⟩ = some (.int .i64 xs[k].ki) ∧ w'.cell? ⟨b, off + k * 5 + 1, none⟩ = some (.int .i64 xs[k].sc) ∧ w'.cell? ⟨b, off + k * 5 + 2, none⟩ = some (.int .i64 xs[k].qu) ∧ w'.cell? ⟨b, off + k * 5 + 3, none⟩ = some (.int .i64 xs[k].de) ∧ w'.cell? ⟨b, off + k * 5 + 4, none⟩ = some (.int .i64 xs[k].ho)) (go_keep)
                  (first | (go_at_call 80; refine (CC.out _ (below_drewW _ 1)).mono ?_; rintro e wB ⟨rfl, bA⟩; have bB0 := bt (below_drewW _ 1) bA; obtain ⟨⟨q0, q1, q2, q3, q4⟩, t0, t1, t2, t3, t4⟩ := KA.out wB bB0))
                have HQ := Lib.hid bB0
                have X4 := hidOSS hX HQ.out
                have B4 := Lib.hid (bt hbk.out HQ.out)
                clear bA bB0 hX hbk c0 c1 c2 c3 c4 d0 d1 d2 d3 d4 q0 q1 q2 q3 q4 t0 t1 t2 t3 t4
                go_wp2_with (at_builtin; refine wpList_append_own _ rfl _ _ 51 rfl w.heap.size 41 i0 (.slice none 0 0) 1 24 Tryd.underlying51 hi hz0 hz1 hz2 rfl (by decide) _ _ _ rfl (own_belowAll X4.out.outer (((Below.refl _ _).alloc (Nat.le_refl _) _).alloc (by simp) _)) ⟨wB.heap.size + 1, 0, none⟩ 1 1 [.slice (some ⟨wB.heap.size, 0, none⟩) 2 2] rfl rfl (row_new1 _ _ [_] _) (one_slice _ _ _) ?c3 ?c4 ?c5 ?_)
                case c3 => unfold maxLen; omega
                case c4 => omega
                case c5 => have := B4.out.size; first | omega | (simp; omega)
                intro v' w3 hown' hgrow _
                obtain ⟨o5, b5⟩ := X4.out.pair B4.out.size hown' hgrow
                have X5 := Lib.hid o5
                have B5 := Lib.hid (B4.out.trans b5)
                clear hown' hgrow o5 b5 X4 B4
                go_wp2
                exact ⟨⟨k + 1, _, by omega, by omega, by go_num, X5, Lib.hid (by rw [hs.out, List.map_append, hN.out, List.append_assoc]; rfl), B5⟩, by simp only [intOf]; omega⟩
            · have hlkz : ¬ (k : Int) < (xs.length : Int) := by omega
              have hkn : k = xs.length := by omega
              have hn2 : Hid (L.map (·.2.2) = Tq.pa n xs (i + 1)) := Lib.hid (by rw [hN.out, hkn]; rfl)
              clear hkn
              go_wp2_with fail
              exact ⟨⟨i + 1, L, by omega, by go_num, hX, hn2, hbk⟩, by simp only [intOf]; omega⟩
        · have hltz : ¬ (i : Int) < (xs.length : Int) := by omega
          have hin : i = xs.length := by omega
          subst hin
          go_wp2
          exact bodyPost_ret (by simp [results, Tryd.results40, go_sem]) rfl ⟨_, rfl, ⟨L0, hX0.out, hN0.out⟩, hb.out⟩
end Go.Proofs.YteileaeeiejonaaDoor
