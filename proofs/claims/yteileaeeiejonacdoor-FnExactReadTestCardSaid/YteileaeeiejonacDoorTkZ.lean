/-
  One test read back out of its text, by the program. No condition of its own.
-/
import Derived.Test.YteileaeeiejonacDoorTkY
import Derived.Test.YteileaeeiejonacDoorReadL
namespace Go.Proofs.YteileaeeiejonacDoor
open Go.RowKit Go.ChangeShapes Go.WideShapes Go.Deep
set_option linter.unusedVariables false
set_option maxRecDepth 100000

theorem own_rowT {B : Nat} {w : World} {u : Value} {zs : List Int} (h : Own B w u zs) (hn : 0 < zs.length) :
    ∃ g cap, u = .slice (some ⟨g, 0, none⟩) zs.length cap ∧ ∀ j x, zs[j]? = some x → w.cell? ⟨g, j, none⟩ = some (.int .i64 x) := by
  obtain ⟨g, cap, rfl⟩ := Go.Joins.ownsRow_form h hn
  refine ⟨g, cap, rfl, fun j x hx => ?_⟩
  have hj : j < zs.length := (List.getElem?_eq_some_iff.1 hx).1
  rw [World.ownsRow.cellAt h j (by omega)]
  unfold iv
  rw [List.getElem?_map, hx]
  rfl
set_option maxHeartbeats 6400000 in
theorem implReadTest_any (s : ByteArray) (w : World) (hs : s.size ≤ 1048576) (hR : RulesT w) (hpw : Pow w) (her : Errs w) (hml : MaxL w) :
    Calls Tryd.prog 25 #[.string s] w (RRt w (Tq.rt s.data.toList)) := by
  rw [Tq.rt_cut]
  have HB := Lib.hid (boxTst_below w Tq.tz 40)
  have C := Lib.hid (cut_any s 32 (boxTst w Tq.tz 40) hs (hml.below HB.out))
  have HK : Hid (∀ w1, Below (boxTst w Tq.tz 40).heap.size (boxTst w Tq.tz 40) w1 → Whole w1 w.heap.size 40 (qcs Tq.tz)) := Lib.hid (fun w1 h => (Whole.new w _ (qcs Tq.tz)).all h)
  have HR := Lib.hid hR
  have HP := Lib.hid hpw
  have HE := Lib.hid her
  have HM := Lib.hid hml
  have hl := cut_len 32 s.data.toList
  have hsz : s.data.toList.length = s.size := by simp
  rw [hsz] at hl
  generalize (Lib.cut s.data.toList [32]).1 = p at *
  generalize (Lib.cut s.data.toList [32]).2.1 = r at *
  generalize (Lib.cut s.data.toList [32]).2.2 = q at *
  have CR := Lib.hid (fun W (h : Below w.heap.size w W) => implReadList_any ⟨r.toArray⟩ W (by rw [sz_mk]; omega) (HP.out.below h) (HE.out.below h) (HM.out.below h))
  have hrr : (⟨r.toArray⟩ : ByteArray).data.toList = r := by simp
  rw [hrr] at CR
  clear hR hpw her hml hsz hrr
  generalize hrl : rl r = o at *
  cases o with
  | none =>
    have hr : Hid ((none : Option (List Int)).bind (Tq.t4 (Tq.kindOf p)) = none) := Lib.hid rfl
    clear hrl
    unfold boxTst Tq.tz at C HB HK
    go_enter Tryd.func25, Tryd.ntmps25
    go_wp2_with fail
    refine C.out.mono ?_
    rintro e w1 ⟨rfl, b1⟩
    have B1 := Lib.hid (bt HB.out b1)
    have K1 := Lib.hid (HK.out w1 b1)
    clear b1
    go_wp2_with fail
    refine (CR.out _ B1.out).mono ?_
    rintro e w2 ⟨u, rfl, ho, b2⟩
    have KW := Lib.hid (K1.out.all b2)
    have B2 := Lib.hid (bt B1.out b2)
    obtain ⟨ua, ucap, rfl⟩ := (Own.sl ho).form
    clear b2 ho
    have RW := Lib.hid (setQ_whole KW.out Tq.tz)
    have RB := Lib.hid (setQ_below B2.out (Nat.le_refl _) Tq.tz)
    obtain ⟨⟨z0, z1, z2, z3, z4⟩, f0, f1, f2, f3, f4⟩ := qcs_zero KW.out
    go_wp2_with fail
    change bodyPost _ _ _ _ _ (setQ w2 w.heap.size Tq.tz)
    generalize setQ w2 w.heap.size Tq.tz = WZ at *
    obtain ⟨⟨d0, d1, d2, d3, d4⟩, -⟩ := qcs_zero RW.out
    exact bodyPost_ret (v := .tuple #[.agg #[.int .i64 0, .int .i64 0, .int .i64 0, .int .i64 0, .int .i64 0], .bool false]) (by simp [results, Tryd.results25, go_sem, d0, d1, d2, d3, d4]) rfl (RRt.no hr.out RB.out)
  | some zs =>
    by_cases hz : zs.length = 4
    · obtain ⟨a, b, c, d, rfl⟩ := Tq.four hz
      clear hz
      have CW := Lib.hid (fun W (h : Below w.heap.size w W) => testWrong_any ⟨Tq.kindOf p, a, b, c, d⟩ W (HR.out.below h))
      have CN := Lib.hid (fun W (h : Below w.heap.size w W) => kindNamed_any p W (HR.out.below h))
      cases hx : Tq.okT ⟨Tq.kindOf p, a, b, c, d⟩ with
      | false =>
        have hr : Hid ((some [a, b, c, d]).bind (Tq.t4 (Tq.kindOf p)) = none) := Lib.hid (Tq.t4_bad hx)
        rw [hx] at CW
        clear hx hrl
        generalize Tq.kindOf p = kd at *
        unfold boxTst Tq.tz at C HB HK
        go_enter Tryd.func25, Tryd.ntmps25
        go_wp2_with fail
        refine C.out.mono ?_
        rintro e w1 ⟨rfl, b1⟩
        have B1 := Lib.hid (bt HB.out b1)
        have K1 := Lib.hid (HK.out w1 b1)
        clear b1
        go_wp2_with fail
        refine (CR.out _ B1.out).mono ?_
        rintro e w2 ⟨u, rfl, ho, b2⟩
        have K2 := Lib.hid (K1.out.all b2)
        have B2 := Lib.hid (bt B1.out b2)
        obtain ⟨g, cap, rfl, hc⟩ := own_rowT ho (by simp)
        have HC := Lib.hid hc
        have e0 : w2.cell? ⟨g, 0, none⟩ = some (.int .i64 a) := hc 0 _ rfl
        have e1 : w2.cell? ⟨g, 1, none⟩ = some (.int .i64 b) := hc 1 _ rfl
        have e2 : w2.cell? ⟨g, 2, none⟩ = some (.int .i64 c) := hc 2 _ rfl
        have e3 : w2.cell? ⟨g, 3, none⟩ = some (.int .i64 d) := hc 3 _ rfl
        have hln : ((some [a, b, c, d]).getD []).length = 4 := rfl
        rw [hln]
        have hg : g < w2.heap.size := World.block_lt_of_cell? w2 _ e0
        have KC := Lib.hid (fun W (h : Below w2.heap.size w2 W) => (show W.cell? ⟨g, 0, none⟩ = some (.int .i64 a) ∧ W.cell? ⟨g, 1, none⟩ = some (.int .i64 b) ∧ W.cell? ⟨g, 2, none⟩ = some (.int .i64 c) ∧ W.cell? ⟨g, 3, none⟩ = some (.int .i64 d) from ⟨(h.cell (p := ⟨g, 0, none⟩) hg).trans (HC.out 0 _ rfl), (h.cell (p := ⟨g, 1, none⟩) hg).trans (HC.out 1 _ rfl), (h.cell (p := ⟨g, 2, none⟩) hg).trans (HC.out 2 _ rfl), (h.cell (p := ⟨g, 3, none⟩) hg).trans (HC.out 3 _ rfl)⟩))
        clear b2 ho hc hln
        go_wp2_with fail
        have hne : w2.heap.size ≠ g := Nat.ne_of_gt hg
        have KX := Lib.hid (fun W (h : Below ((w2.drew).alloc (.cells (qcs Tq.tz) 40)).heap.size ((w2.drew).alloc (.cells (qcs Tq.tz) 40)) W) => (show Whole W w2.heap.size 40 (qcs Tq.tz) from (Whole.new w2.drew 40 (qcs Tq.tz)).all h))
        refine wp_region_held_drew (S := (fun w' => w'.cell? ⟨g, 0, none⟩ = some (.int .i64 a) ∧ w'.cell? ⟨g, 1, none⟩ = some (.int .i64 b) ∧ w'.cell? ⟨g, 2, none⟩ = some (.int .i64 c) ∧ w'.cell? ⟨g, 3, none⟩ = some (.int .i64 d))) (by kernel_rfl) ?_ (fun hHeld => ?_)
        · (try dsimp only)
          first | done | go_keep
        refine wpAnyH_take (i := 0) (oi := ({ dst := some 29, op := Op.move (Operand.tmp 4), type := 9, pos := "l08_tests.go:212", after := #[], guard := none } : Oper)) (v := ?_) rfl (by kernel_rfl) (by kernel_rfl) (by kernel_rfl) (fun _ _ _ h => h) (Or.inl ⟨by kernel_rfl, ?_⟩) (by assumption) ?_
        rotate_left
        · (intro w hSw; (try dsimp only at hSw); go_simp <;> with_reducible rfl)
        try simp only [Act.put, List.setIfInBounds_toArray, List.set_cons_zero, List.set_cons_succ]
        refine wpAnyH_take (i := 2) (oi := ({ dst := some 31, op := Op.move (Operand.tmp 7), type := 24, pos := "l08_tests.go:212", after := #[], guard := none } : Oper)) (v := ?_) rfl (by kernel_rfl) (by kernel_rfl) (by kernel_rfl) (fun _ _ _ h => h) (Or.inl ⟨by kernel_rfl, ?_⟩) (by assumption) ?_
        rotate_left
        · (intro w hSw; (try dsimp only at hSw); go_simp <;> with_reducible rfl)
        try simp only [Act.put, List.setIfInBounds_toArray, List.set_cons_zero, List.set_cons_succ]
        refine wpAnyH_take (i := 3) (oi := ({ dst := some 32, op := Op.indexAddr 24 (Operand.tmp 31) (Operand.const (Value.int IntKind.i64 0)), type := 0, pos := "l08_tests.go:212", after := #[{ on := 2, ground := Ground.data }], guard := none } : Oper)) (v := ?_) rfl (by kernel_rfl) (by kernel_rfl) (by kernel_rfl) (fun _ _ _ h => h) (Or.inl ⟨by kernel_rfl, ?_⟩) (by assumption) ?_
        rotate_left
        · (intro w hSw; (try dsimp only at hSw); go_simp <;> with_reducible rfl)
        try simp only [Act.put, List.setIfInBounds_toArray, List.set_cons_zero, List.set_cons_succ]
        refine wpAnyH_take (i := 4) (oi := ({ dst := some 33, op := Op.load 2 (Operand.tmp 32), type := 2, pos := "l08_tests.go:212", after := #[{ on := 3, ground := Ground.data }], guard := none } : Oper)) (v := ?_) rfl (by kernel_rfl) (by kernel_rfl) (by kernel_rfl) (fun _ _ _ h => h) (Or.inl ⟨by kernel_rfl, ?_⟩) (by assumption) ?_
        rotate_left
        · (intro w hSw; (try dsimp only at hSw); go_simp <;> with_reducible rfl)
        try simp only [Act.put, List.setIfInBounds_toArray, List.set_cons_zero, List.set_cons_succ]
        refine wpAnyH_take (i := 5) (oi := ({ dst := some 34, op := Op.move (Operand.tmp 7), type := 24, pos := "l08_tests.go:212", after := #[], guard := none } : Oper)) (v := ?_) rfl (by kernel_rfl) (by kernel_rfl) (by kernel_rfl) (fun _ _ _ h => h) (Or.inl ⟨by kernel_rfl, ?_⟩) (by assumption) ?_
        rotate_left
        · (intro w hSw; (try dsimp only at hSw); go_simp <;> with_reducible rfl)
        try simp only [Act.put, List.setIfInBounds_toArray, List.set_cons_zero, List.set_cons_succ]
        refine wpAnyH_take (i := 6) (oi := ({ dst := some 35, op := Op.indexAddr 24 (Operand.tmp 34) (Operand.const (Value.int IntKind.i64 1)), type := 0, pos := "l08_tests.go:212", after := #[{ on := 5, ground := Ground.data }], guard := none } : Oper)) (v := ?_) rfl (by kernel_rfl) (by kernel_rfl) (by kernel_rfl) (fun _ _ _ h => h) (Or.inl ⟨by kernel_rfl, ?_⟩) (by assumption) ?_
        rotate_left
        · (intro w hSw; (try dsimp only at hSw); go_simp <;> with_reducible rfl)
        try simp only [Act.put, List.setIfInBounds_toArray, List.set_cons_zero, List.set_cons_succ]
        refine wpAnyH_take (i := 7) (oi := ({ dst := some 36, op := Op.load 2 (Operand.tmp 35), type := 2, pos := "l08_tests.go:212", after := #[{ on := 6, ground := Ground.data }], guard := none } : Oper)) (v := ?_) rfl (by kernel_rfl) (by kernel_rfl) (by kernel_rfl) (fun _ _ _ h => h) (Or.inl ⟨by kernel_rfl, ?_⟩) (by assumption) ?_
        rotate_left
        · (intro w hSw; (try dsimp only at hSw); go_simp <;> with_reducible rfl)
        try simp only [Act.put, List.setIfInBounds_toArray, List.set_cons_zero, List.set_cons_succ]
        refine wpAnyH_take (i := 8) (oi := ({ dst := some 37, op := Op.move (Operand.tmp 7), type := 24, pos := "l08_tests.go:212", after := #[], guard := none } : Oper)) (v := ?_) rfl (by kernel_rfl) (by kernel_rfl) (by kernel_rfl) (fun _ _ _ h => h) (Or.inl ⟨by kernel_rfl, ?_⟩) (by assumption) ?_
        rotate_left
        · (intro w hSw; (try dsimp only at hSw); go_simp <;> with_reducible rfl)
        try simp only [Act.put, List.setIfInBounds_toArray, List.set_cons_zero, List.set_cons_succ]
        refine wpAnyH_take (i := 9) (oi := ({ dst := some 38, op := Op.indexAddr 24 (Operand.tmp 37) (Operand.const (Value.int IntKind.i64 2)), type := 0, pos := "l08_tests.go:212", after := #[{ on := 8, ground := Ground.data }], guard := none } : Oper)) (v := ?_) rfl (by kernel_rfl) (by kernel_rfl) (by kernel_rfl) (fun _ _ _ h => h) (Or.inl ⟨by kernel_rfl, ?_⟩) (by assumption) ?_
        rotate_left
        · (intro w hSw; (try dsimp only at hSw); go_simp <;> with_reducible rfl)
        try simp only [Act.put, List.setIfInBounds_toArray, List.set_cons_zero, List.set_cons_succ]
        refine wpAnyH_take (i := 10) (oi := ({ dst := some 39, op := Op.load 2 (Operand.tmp 38), type := 2, pos := "l08_tests.go:212", after := #[{ on := 9, ground := Ground.data }], guard := none } : Oper)) (v := ?_) rfl (by kernel_rfl) (by kernel_rfl) (by kernel_rfl) (fun _ _ _ h => h) (Or.inl ⟨by kernel_rfl, ?_⟩) (by assumption) ?_
        rotate_left
        · (intro w hSw; (try dsimp only at hSw); go_simp <;> with_reducible rfl)
        try simp only [Act.put, List.setIfInBounds_toArray, List.set_cons_zero, List.set_cons_succ]
        refine wpAnyH_take (i := 11) (oi := ({ dst := some 40, op := Op.move (Operand.tmp 7), type := 24, pos := "l08_tests.go:212", after := #[], guard := none } : Oper)) (v := ?_) rfl (by kernel_rfl) (by kernel_rfl) (by kernel_rfl) (fun _ _ _ h => h) (Or.inl ⟨by kernel_rfl, ?_⟩) (by assumption) ?_
        rotate_left
        · (intro w hSw; (try dsimp only at hSw); go_simp <;> with_reducible rfl)
        try simp only [Act.put, List.setIfInBounds_toArray, List.set_cons_zero, List.set_cons_succ]
        refine wpAnyH_take (i := 12) (oi := ({ dst := some 41, op := Op.indexAddr 24 (Operand.tmp 40) (Operand.const (Value.int IntKind.i64 3)), type := 0, pos := "l08_tests.go:212", after := #[{ on := 11, ground := Ground.data }], guard := none } : Oper)) (v := ?_) rfl (by kernel_rfl) (by kernel_rfl) (by kernel_rfl) (fun _ _ _ h => h) (Or.inl ⟨by kernel_rfl, ?_⟩) (by assumption) ?_
        rotate_left
        · (intro w hSw; (try dsimp only at hSw); go_simp <;> with_reducible rfl)
        try simp only [Act.put, List.setIfInBounds_toArray, List.set_cons_zero, List.set_cons_succ]
        refine wpAnyH_take (i := 13) (oi := ({ dst := some 42, op := Op.load 2 (Operand.tmp 41), type := 2, pos := "l08_tests.go:212", after := #[{ on := 12, ground := Ground.data }], guard := none } : Oper)) (v := ?_) rfl (by kernel_rfl) (by kernel_rfl) (by kernel_rfl) (fun _ _ _ h => h) (Or.inl ⟨by kernel_rfl, ?_⟩) (by assumption) ?_
        rotate_left
        · (intro w hSw; (try dsimp only at hSw); go_simp <;> with_reducible rfl)
        try simp only [Act.put, List.setIfInBounds_toArray, List.set_cons_zero, List.set_cons_succ]
        refine wpAnyH_ready (rs := [1, 15]) (by kernel_rfl) (by simp) ?_
        refine AllReadyH.cons (o := ({ dst := some 30, op := Op.call { callee := Callee.value (Operand.func 64), args := #[Operand.tmp 29], argTypes := #[9] }, type := 2, pos := "l08_tests.go:212", after := #[{ on := 0, ground := Ground.data }], guard := none } : Oper)) rfl (fun K hK => ?_) ?_
        · go_simp
          (go_at_call 64; refine (CN.out _ (bt B2.out (below_drewW _ 1))).mono ?_; rintro e wA ⟨rfl, bA⟩; have bA0 := bt (below_drewW _ 1) bA; obtain ⟨v0, v1, v2, v3⟩ := KC.out wA bA0; have hneA : wA.heap.size ≠ g := Nat.ne_of_gt (Nat.lt_of_lt_of_le hg bA0.size))
          go_wp2_with fail
          refine hK.out _ _ ?_ (fun hHeld => ?_)
          · (try dsimp only)
            first | done | go_keep
          clear hK K
          try simp only [Act.put, List.setIfInBounds_toArray, List.set_cons_zero, List.set_cons_succ]
          refine wpAnyH_take (i := 14) (oi := ({ dst := some 43, op := Op.build 40 #[(0, Operand.tmp 30), (1, Operand.tmp 33), (2, Operand.tmp 36), (3, Operand.tmp 39), (4, Operand.tmp 42)], type := 40, pos := "l08_tests.go:212", after := #[{ on := 1, ground := Ground.data }, { on := 4, ground := Ground.data }, { on := 7, ground := Ground.data }, { on := 10, ground := Ground.data }, { on := 13, ground := Ground.data }], guard := none } : Oper)) (v := ?_) rfl (by kernel_rfl) (by kernel_rfl) (by kernel_rfl) (fun _ _ _ h => h) (Or.inl ⟨by kernel_rfl, ?_⟩) (by assumption) ?_
          rotate_left
          · (intro w hSw; (try dsimp only at hSw); go_simp <;> with_reducible rfl)
          try simp only [Act.put, List.setIfInBounds_toArray, List.set_cons_zero, List.set_cons_succ]
          refine wpAnyH_ready (rs := [15]) (by kernel_rfl) (by simp) ?_
          refine AllReadyH.cons (o := ({ dst := some 9, op := Op.alloc 40, type := 0, pos := "l08_tests.go:212", after := #[], guard := none } : Oper)) rfl (fun K hK => ?_) ?_
          · go_simp
            refine hK.out _ _ ?_ (fun hHeld => ?_)
            · (try dsimp only)
              first | done | go_keep
            clear hK K
            try simp only [Act.put, List.setIfInBounds_toArray, List.set_cons_zero, List.set_cons_succ]
            refine wpAnyH_ready (rs := [16]) (by kernel_rfl) (by simp) ?_
            refine AllReadyH.cons (o := ({ dst := none, op := Op.store 40 (Operand.tmp 9) (Operand.tmp 43), type := 0, pos := "l08_tests.go:212", after := #[{ on := 15, ground := Ground.data }, { on := 14, ground := Ground.data }, { on := 1, ground := Ground.chain }, { on := 0, ground := Ground.phase }, { on := 1, ground := Ground.phase }, { on := 2, ground := Ground.phase }, { on := 3, ground := Ground.phase }, { on := 4, ground := Ground.phase }, { on := 5, ground := Ground.phase }, { on := 6, ground := Ground.phase }, { on := 7, ground := Ground.phase }, { on := 8, ground := Ground.phase }, { on := 9, ground := Ground.phase }, { on := 10, ground := Ground.phase }, { on := 11, ground := Ground.phase }, { on := 12, ground := Ground.phase }, { on := 13, ground := Ground.phase }, { on := 14, ground := Ground.phase }, { on := 15, ground := Ground.phase }], guard := none } : Oper)) rfl (fun K hK => ?_) ?_
            · go_simp
              refine hK.out _ _ ?_ (fun hHeld => ?_)
              · (try dsimp only)
                first | done | go_keep
              clear hK K
              try simp only [Act.put, List.setIfInBounds_toArray, List.set_cons_zero, List.set_cons_succ]
              refine wpAnyH_done (by kernel_rfl) ?_ _
              have XW := Lib.hid (Whole.new wA 40 (qcs (⟨kd, a, b, c, d⟩ : Tst)))
              have B4 := Lib.hid ((bt B2.out bA0).alloc (bt B2.out bA0).size (.cells (qcs (⟨kd, a, b, c, d⟩ : Tst)) 40))
              have KW := Lib.hid ((K2.out.all bA0).alloc (.cells (qcs (⟨kd, a, b, c, d⟩ : Tst)) 40))
              change Exit.then _ _ _ _ (wA.alloc (.cells (qcs (⟨kd, a, b, c, d⟩ : Tst)) 40))
              generalize wA.alloc (.cells (qcs (⟨kd, a, b, c, d⟩ : Tst)) 40) = W4 at *
              generalize wA.heap.size = gX at *
              obtain ⟨⟨x0, x1, x2, x3, x4⟩, -⟩ := qcs_five XW.out
              have CW1 := Lib.hid (CW.out W4 B4.out)
              go_wp2_with fail
              refine CW1.out.mono ?_
              rintro e w5 ⟨rfl, b5⟩
              have XW5 := Lib.hid (XW.out.all b5)
              have KW5 := Lib.hid (KW.out.all b5)
              have B5 := Lib.hid (bt B4.out b5)
              clear b5 x0 x1 x2 x3 x4
              have RW := Lib.hid (setQ_whole KW5.out Tq.tz)
              have RB := Lib.hid (setQ_below B5.out (Nat.le_refl _) Tq.tz)
              obtain ⟨⟨z0, z1, z2, z3, z4⟩, f0, f1, f2, f3, f4⟩ := qcs_zero KW5.out
              go_wp2_with fail
              change bodyPost _ _ _ _ _ (setQ w5 w.heap.size Tq.tz)
              generalize setQ w5 w.heap.size Tq.tz = WZ at *
              obtain ⟨⟨d0, d1, d2, d3, d4⟩, -⟩ := qcs_zero RW.out
              exact bodyPost_ret (v := .tuple #[.agg #[.int .i64 0, .int .i64 0, .int .i64 0, .int .i64 0, .int .i64 0], .bool false]) (by simp [results, Tryd.results25, go_sem, d0, d1, d2, d3, d4]) rfl (RRt.no hr.out RB.out)
            exact AllReadyH.nil
          exact AllReadyH.nil
        refine AllReadyH.cons (o := ({ dst := some 9, op := Op.alloc 40, type := 0, pos := "l08_tests.go:212", after := #[], guard := none } : Oper)) rfl (fun K hK => ?_) ?_
        · go_simp
          refine hK.out _ _ ?_ (fun hHeld => ?_)
          · (try dsimp only)
            first | done | go_keep
          clear hK K
          try simp only [Act.put, List.setIfInBounds_toArray, List.set_cons_zero, List.set_cons_succ]
          refine wpAnyH_ready (rs := [1]) (by kernel_rfl) (by simp) ?_
          refine AllReadyH.cons (o := ({ dst := some 30, op := Op.call { callee := Callee.value (Operand.func 64), args := #[Operand.tmp 29], argTypes := #[9] }, type := 2, pos := "l08_tests.go:212", after := #[{ on := 0, ground := Ground.data }], guard := none } : Oper)) rfl (fun K hK => ?_) ?_
          · go_simp
            (go_at_call 64; refine (CN.out _ (bt B2.out (bt (below_drewW _ 1) ((Below.refl _ _).alloc (Nat.le_refl _) _)))).mono ?_; rintro e wA ⟨rfl, bA⟩; have bA0 := bt (bt (below_drewW _ 1) ((Below.refl _ _).alloc (Nat.le_refl _) _)) bA; obtain ⟨v0, v1, v2, v3⟩ := KC.out wA bA0)
            have XA := Lib.hid (KX.out wA bA)
            obtain ⟨⟨y0, y1, y2, y3, y4⟩, t0, t1, t2, t3, t4⟩ := qcs_zero XA.out
            go_wp2_with fail
            refine hK.out _ _ ?_ (fun hHeld => ?_)
            · (try dsimp only)
              first | done | go_keep
            clear hK K
            try simp only [Act.put, List.setIfInBounds_toArray, List.set_cons_zero, List.set_cons_succ]
            refine wpAnyH_take (i := 14) (oi := ({ dst := some 43, op := Op.build 40 #[(0, Operand.tmp 30), (1, Operand.tmp 33), (2, Operand.tmp 36), (3, Operand.tmp 39), (4, Operand.tmp 42)], type := 40, pos := "l08_tests.go:212", after := #[{ on := 1, ground := Ground.data }, { on := 4, ground := Ground.data }, { on := 7, ground := Ground.data }, { on := 10, ground := Ground.data }, { on := 13, ground := Ground.data }], guard := none } : Oper)) (v := ?_) rfl (by kernel_rfl) (by kernel_rfl) (by kernel_rfl) (fun _ _ _ h => h) (Or.inl ⟨by kernel_rfl, ?_⟩) (by assumption) ?_
            rotate_left
            · (intro w hSw; (try dsimp only at hSw); go_simp <;> with_reducible rfl)
            try simp only [Act.put, List.setIfInBounds_toArray, List.set_cons_zero, List.set_cons_succ]
            refine wpAnyH_ready (rs := [16]) (by kernel_rfl) (by simp) ?_
            refine AllReadyH.cons (o := ({ dst := none, op := Op.store 40 (Operand.tmp 9) (Operand.tmp 43), type := 0, pos := "l08_tests.go:212", after := #[{ on := 15, ground := Ground.data }, { on := 14, ground := Ground.data }, { on := 1, ground := Ground.chain }, { on := 0, ground := Ground.phase }, { on := 1, ground := Ground.phase }, { on := 2, ground := Ground.phase }, { on := 3, ground := Ground.phase }, { on := 4, ground := Ground.phase }, { on := 5, ground := Ground.phase }, { on := 6, ground := Ground.phase }, { on := 7, ground := Ground.phase }, { on := 8, ground := Ground.phase }, { on := 9, ground := Ground.phase }, { on := 10, ground := Ground.phase }, { on := 11, ground := Ground.phase }, { on := 12, ground := Ground.phase }, { on := 13, ground := Ground.phase }, { on := 14, ground := Ground.phase }, { on := 15, ground := Ground.phase }], guard := none } : Oper)) rfl (fun K hK => ?_) ?_
            · go_simp
              refine hK.out _ _ ?_ (fun hHeld => ?_)
              · (try dsimp only)
                first | done | go_keep
              clear hK K
              try simp only [Act.put, List.setIfInBounds_toArray, List.set_cons_zero, List.set_cons_succ]
              refine wpAnyH_done (by kernel_rfl) ?_ _
              have XW := Lib.hid (setQ_whole XA.out (⟨kd, a, b, c, d⟩ : Tst))
              have B4 := Lib.hid (setQ_below (bt B2.out bA0) (show w.heap.size ≤ w2.heap.size from B2.out.size) (⟨kd, a, b, c, d⟩ : Tst))
              have KW := Lib.hid ((K2.out.all bA0).far (setQ_only wA w2.heap.size (⟨kd, a, b, c, d⟩ : Tst)) (Nat.ne_of_lt K2.out.lt))
              change Exit.then _ _ _ _ (setQ wA w2.heap.size (⟨kd, a, b, c, d⟩ : Tst))
              generalize setQ wA w2.heap.size (⟨kd, a, b, c, d⟩ : Tst) = W4 at *
              generalize w2.heap.size = gX at *
              obtain ⟨⟨x0, x1, x2, x3, x4⟩, -⟩ := qcs_five XW.out
              have CW1 := Lib.hid (CW.out W4 B4.out)
              go_wp2_with fail
              refine CW1.out.mono ?_
              rintro e w5 ⟨rfl, b5⟩
              have XW5 := Lib.hid (XW.out.all b5)
              have KW5 := Lib.hid (KW.out.all b5)
              have B5 := Lib.hid (bt B4.out b5)
              clear b5 x0 x1 x2 x3 x4
              have RW := Lib.hid (setQ_whole KW5.out Tq.tz)
              have RB := Lib.hid (setQ_below B5.out (Nat.le_refl _) Tq.tz)
              obtain ⟨⟨z0, z1, z2, z3, z4⟩, f0, f1, f2, f3, f4⟩ := qcs_zero KW5.out
              go_wp2_with fail
              change bodyPost _ _ _ _ _ (setQ w5 w.heap.size Tq.tz)
              generalize setQ w5 w.heap.size Tq.tz = WZ at *
              obtain ⟨⟨d0, d1, d2, d3, d4⟩, -⟩ := qcs_zero RW.out
              exact bodyPost_ret (v := .tuple #[.agg #[.int .i64 0, .int .i64 0, .int .i64 0, .int .i64 0, .int .i64 0], .bool false]) (by simp [results, Tryd.results25, go_sem, d0, d1, d2, d3, d4]) rfl (RRt.no hr.out RB.out)
            exact AllReadyH.nil
          exact AllReadyH.nil
        exact AllReadyH.nil
      | true =>
        have hr : Hid ((some [a, b, c, d]).bind (Tq.t4 (Tq.kindOf p)) = some ⟨Tq.kindOf p, a, b, c, d⟩) := Lib.hid (Tq.t4_ok hx)
        rw [hx] at CW
        clear hx hrl
        generalize Tq.kindOf p = kd at *
        unfold boxTst Tq.tz at C HB HK
        go_enter Tryd.func25, Tryd.ntmps25
        go_wp2_with fail
        refine C.out.mono ?_
        rintro e w1 ⟨rfl, b1⟩
        have B1 := Lib.hid (bt HB.out b1)
        have K1 := Lib.hid (HK.out w1 b1)
        clear b1
        go_wp2_with fail
        refine (CR.out _ B1.out).mono ?_
        rintro e w2 ⟨u, rfl, ho, b2⟩
        have K2 := Lib.hid (K1.out.all b2)
        have B2 := Lib.hid (bt B1.out b2)
        obtain ⟨g, cap, rfl, hc⟩ := own_rowT ho (by simp)
        have HC := Lib.hid hc
        have e0 : w2.cell? ⟨g, 0, none⟩ = some (.int .i64 a) := hc 0 _ rfl
        have e1 : w2.cell? ⟨g, 1, none⟩ = some (.int .i64 b) := hc 1 _ rfl
        have e2 : w2.cell? ⟨g, 2, none⟩ = some (.int .i64 c) := hc 2 _ rfl
        have e3 : w2.cell? ⟨g, 3, none⟩ = some (.int .i64 d) := hc 3 _ rfl
        have hln : ((some [a, b, c, d]).getD []).length = 4 := rfl
        rw [hln]
        have hg : g < w2.heap.size := World.block_lt_of_cell? w2 _ e0
        have KC := Lib.hid (fun W (h : Below w2.heap.size w2 W) => (show W.cell? ⟨g, 0, none⟩ = some (.int .i64 a) ∧ W.cell? ⟨g, 1, none⟩ = some (.int .i64 b) ∧ W.cell? ⟨g, 2, none⟩ = some (.int .i64 c) ∧ W.cell? ⟨g, 3, none⟩ = some (.int .i64 d) from ⟨(h.cell (p := ⟨g, 0, none⟩) hg).trans (HC.out 0 _ rfl), (h.cell (p := ⟨g, 1, none⟩) hg).trans (HC.out 1 _ rfl), (h.cell (p := ⟨g, 2, none⟩) hg).trans (HC.out 2 _ rfl), (h.cell (p := ⟨g, 3, none⟩) hg).trans (HC.out 3 _ rfl)⟩))
        clear b2 ho hc hln
        go_wp2_with fail
        have hne : w2.heap.size ≠ g := Nat.ne_of_gt hg
        have KX := Lib.hid (fun W (h : Below ((w2.drew).alloc (.cells (qcs Tq.tz) 40)).heap.size ((w2.drew).alloc (.cells (qcs Tq.tz) 40)) W) => (show Whole W w2.heap.size 40 (qcs Tq.tz) from (Whole.new w2.drew 40 (qcs Tq.tz)).all h))
        refine wp_region_held_drew (S := (fun w' => w'.cell? ⟨g, 0, none⟩ = some (.int .i64 a) ∧ w'.cell? ⟨g, 1, none⟩ = some (.int .i64 b) ∧ w'.cell? ⟨g, 2, none⟩ = some (.int .i64 c) ∧ w'.cell? ⟨g, 3, none⟩ = some (.int .i64 d))) (by kernel_rfl) ?_ (fun hHeld => ?_)
        · (try dsimp only)
          first | done | go_keep
        refine wpAnyH_take (i := 0) (oi := ({ dst := some 29, op := Op.move (Operand.tmp 4), type := 9, pos := "l08_tests.go:212", after := #[], guard := none } : Oper)) (v := ?_) rfl (by kernel_rfl) (by kernel_rfl) (by kernel_rfl) (fun _ _ _ h => h) (Or.inl ⟨by kernel_rfl, ?_⟩) (by assumption) ?_
        rotate_left
        · (intro w hSw; (try dsimp only at hSw); go_simp <;> with_reducible rfl)
        try simp only [Act.put, List.setIfInBounds_toArray, List.set_cons_zero, List.set_cons_succ]
        refine wpAnyH_take (i := 2) (oi := ({ dst := some 31, op := Op.move (Operand.tmp 7), type := 24, pos := "l08_tests.go:212", after := #[], guard := none } : Oper)) (v := ?_) rfl (by kernel_rfl) (by kernel_rfl) (by kernel_rfl) (fun _ _ _ h => h) (Or.inl ⟨by kernel_rfl, ?_⟩) (by assumption) ?_
        rotate_left
        · (intro w hSw; (try dsimp only at hSw); go_simp <;> with_reducible rfl)
        try simp only [Act.put, List.setIfInBounds_toArray, List.set_cons_zero, List.set_cons_succ]
        refine wpAnyH_take (i := 3) (oi := ({ dst := some 32, op := Op.indexAddr 24 (Operand.tmp 31) (Operand.const (Value.int IntKind.i64 0)), type := 0, pos := "l08_tests.go:212", after := #[{ on := 2, ground := Ground.data }], guard := none } : Oper)) (v := ?_) rfl (by kernel_rfl) (by kernel_rfl) (by kernel_rfl) (fun _ _ _ h => h) (Or.inl ⟨by kernel_rfl, ?_⟩) (by assumption) ?_
        rotate_left
        · (intro w hSw; (try dsimp only at hSw); go_simp <;> with_reducible rfl)
        try simp only [Act.put, List.setIfInBounds_toArray, List.set_cons_zero, List.set_cons_succ]
        refine wpAnyH_take (i := 4) (oi := ({ dst := some 33, op := Op.load 2 (Operand.tmp 32), type := 2, pos := "l08_tests.go:212", after := #[{ on := 3, ground := Ground.data }], guard := none } : Oper)) (v := ?_) rfl (by kernel_rfl) (by kernel_rfl) (by kernel_rfl) (fun _ _ _ h => h) (Or.inl ⟨by kernel_rfl, ?_⟩) (by assumption) ?_
        rotate_left
        · (intro w hSw; (try dsimp only at hSw); go_simp <;> with_reducible rfl)
        try simp only [Act.put, List.setIfInBounds_toArray, List.set_cons_zero, List.set_cons_succ]
        refine wpAnyH_take (i := 5) (oi := ({ dst := some 34, op := Op.move (Operand.tmp 7), type := 24, pos := "l08_tests.go:212", after := #[], guard := none } : Oper)) (v := ?_) rfl (by kernel_rfl) (by kernel_rfl) (by kernel_rfl) (fun _ _ _ h => h) (Or.inl ⟨by kernel_rfl, ?_⟩) (by assumption) ?_
        rotate_left
        · (intro w hSw; (try dsimp only at hSw); go_simp <;> with_reducible rfl)
        try simp only [Act.put, List.setIfInBounds_toArray, List.set_cons_zero, List.set_cons_succ]
        refine wpAnyH_take (i := 6) (oi := ({ dst := some 35, op := Op.indexAddr 24 (Operand.tmp 34) (Operand.const (Value.int IntKind.i64 1)), type := 0, pos := "l08_tests.go:212", after := #[{ on := 5, ground := Ground.data }], guard := none } : Oper)) (v := ?_) rfl (by kernel_rfl) (by kernel_rfl) (by kernel_rfl) (fun _ _ _ h => h) (Or.inl ⟨by kernel_rfl, ?_⟩) (by assumption) ?_
        rotate_left
        · (intro w hSw; (try dsimp only at hSw); go_simp <;> with_reducible rfl)
        try simp only [Act.put, List.setIfInBounds_toArray, List.set_cons_zero, List.set_cons_succ]
        refine wpAnyH_take (i := 7) (oi := ({ dst := some 36, op := Op.load 2 (Operand.tmp 35), type := 2, pos := "l08_tests.go:212", after := #[{ on := 6, ground := Ground.data }], guard := none } : Oper)) (v := ?_) rfl (by kernel_rfl) (by kernel_rfl) (by kernel_rfl) (fun _ _ _ h => h) (Or.inl ⟨by kernel_rfl, ?_⟩) (by assumption) ?_
        rotate_left
        · (intro w hSw; (try dsimp only at hSw); go_simp <;> with_reducible rfl)
        try simp only [Act.put, List.setIfInBounds_toArray, List.set_cons_zero, List.set_cons_succ]
        refine wpAnyH_take (i := 8) (oi := ({ dst := some 37, op := Op.move (Operand.tmp 7), type := 24, pos := "l08_tests.go:212", after := #[], guard := none } : Oper)) (v := ?_) rfl (by kernel_rfl) (by kernel_rfl) (by kernel_rfl) (fun _ _ _ h => h) (Or.inl ⟨by kernel_rfl, ?_⟩) (by assumption) ?_
        rotate_left
        · (intro w hSw; (try dsimp only at hSw); go_simp <;> with_reducible rfl)
        try simp only [Act.put, List.setIfInBounds_toArray, List.set_cons_zero, List.set_cons_succ]
        refine wpAnyH_take (i := 9) (oi := ({ dst := some 38, op := Op.indexAddr 24 (Operand.tmp 37) (Operand.const (Value.int IntKind.i64 2)), type := 0, pos := "l08_tests.go:212", after := #[{ on := 8, ground := Ground.data }], guard := none } : Oper)) (v := ?_) rfl (by kernel_rfl) (by kernel_rfl) (by kernel_rfl) (fun _ _ _ h => h) (Or.inl ⟨by kernel_rfl, ?_⟩) (by assumption) ?_
        rotate_left
        · (intro w hSw; (try dsimp only at hSw); go_simp <;> with_reducible rfl)
        try simp only [Act.put, List.setIfInBounds_toArray, List.set_cons_zero, List.set_cons_succ]
        refine wpAnyH_take (i := 10) (oi := ({ dst := some 39, op := Op.load 2 (Operand.tmp 38), type := 2, pos := "l08_tests.go:212", after := #[{ on := 9, ground := Ground.data }], guard := none } : Oper)) (v := ?_) rfl (by kernel_rfl) (by kernel_rfl) (by kernel_rfl) (fun _ _ _ h => h) (Or.inl ⟨by kernel_rfl, ?_⟩) (by assumption) ?_
        rotate_left
        · (intro w hSw; (try dsimp only at hSw); go_simp <;> with_reducible rfl)
        try simp only [Act.put, List.setIfInBounds_toArray, List.set_cons_zero, List.set_cons_succ]
        refine wpAnyH_take (i := 11) (oi := ({ dst := some 40, op := Op.move (Operand.tmp 7), type := 24, pos := "l08_tests.go:212", after := #[], guard := none } : Oper)) (v := ?_) rfl (by kernel_rfl) (by kernel_rfl) (by kernel_rfl) (fun _ _ _ h => h) (Or.inl ⟨by kernel_rfl, ?_⟩) (by assumption) ?_
        rotate_left
        · (intro w hSw; (try dsimp only at hSw); go_simp <;> with_reducible rfl)
        try simp only [Act.put, List.setIfInBounds_toArray, List.set_cons_zero, List.set_cons_succ]
        refine wpAnyH_take (i := 12) (oi := ({ dst := some 41, op := Op.indexAddr 24 (Operand.tmp 40) (Operand.const (Value.int IntKind.i64 3)), type := 0, pos := "l08_tests.go:212", after := #[{ on := 11, ground := Ground.data }], guard := none } : Oper)) (v := ?_) rfl (by kernel_rfl) (by kernel_rfl) (by kernel_rfl) (fun _ _ _ h => h) (Or.inl ⟨by kernel_rfl, ?_⟩) (by assumption) ?_
        rotate_left
        · (intro w hSw; (try dsimp only at hSw); go_simp <;> with_reducible rfl)
        try simp only [Act.put, List.setIfInBounds_toArray, List.set_cons_zero, List.set_cons_succ]
        refine wpAnyH_take (i := 13) (oi := ({ dst := some 42, op := Op.load 2 (Operand.tmp 41), type := 2, pos := "l08_tests.go:212", after := #[{ on := 12, ground := Ground.data }], guard := none } : Oper)) (v := ?_) rfl (by kernel_rfl) (by kernel_rfl) (by kernel_rfl) (fun _ _ _ h => h) (Or.inl ⟨by kernel_rfl, ?_⟩) (by assumption) ?_
        rotate_left
        · (intro w hSw; (try dsimp only at hSw); go_simp <;> with_reducible rfl)
        try simp only [Act.put, List.setIfInBounds_toArray, List.set_cons_zero, List.set_cons_succ]
        refine wpAnyH_ready (rs := [1, 15]) (by kernel_rfl) (by simp) ?_
        refine AllReadyH.cons (o := ({ dst := some 30, op := Op.call { callee := Callee.value (Operand.func 64), args := #[Operand.tmp 29], argTypes := #[9] }, type := 2, pos := "l08_tests.go:212", after := #[{ on := 0, ground := Ground.data }], guard := none } : Oper)) rfl (fun K hK => ?_) ?_
        · go_simp
          (go_at_call 64; refine (CN.out _ (bt B2.out (below_drewW _ 1))).mono ?_; rintro e wA ⟨rfl, bA⟩; have bA0 := bt (below_drewW _ 1) bA; obtain ⟨v0, v1, v2, v3⟩ := KC.out wA bA0; have hneA : wA.heap.size ≠ g := Nat.ne_of_gt (Nat.lt_of_lt_of_le hg bA0.size))
          go_wp2_with fail
          refine hK.out _ _ ?_ (fun hHeld => ?_)
          · (try dsimp only)
            first | done | go_keep
          clear hK K
          try simp only [Act.put, List.setIfInBounds_toArray, List.set_cons_zero, List.set_cons_succ]
          refine wpAnyH_take (i := 14) (oi := ({ dst := some 43, op := Op.build 40 #[(0, Operand.tmp 30), (1, Operand.tmp 33), (2, Operand.tmp 36), (3, Operand.tmp 39), (4, Operand.tmp 42)], type := 40, pos := "l08_tests.go:212", after := #[{ on := 1, ground := Ground.data }, { on := 4, ground := Ground.data }, { on := 7, ground := Ground.data }, { on := 10, ground := Ground.data }, { on := 13, ground := Ground.data }], guard := none } : Oper)) (v := ?_) rfl (by kernel_rfl) (by kernel_rfl) (by kernel_rfl) (fun _ _ _ h => h) (Or.inl ⟨by kernel_rfl, ?_⟩) (by assumption) ?_
          rotate_left
          · (intro w hSw; (try dsimp only at hSw); go_simp <;> with_reducible rfl)
          try simp only [Act.put, List.setIfInBounds_toArray, List.set_cons_zero, List.set_cons_succ]
          refine wpAnyH_ready (rs := [15]) (by kernel_rfl) (by simp) ?_
          refine AllReadyH.cons (o := ({ dst := some 9, op := Op.alloc 40, type := 0, pos := "l08_tests.go:212", after := #[], guard := none } : Oper)) rfl (fun K hK => ?_) ?_
          · go_simp
            refine hK.out _ _ ?_ (fun hHeld => ?_)
            · (try dsimp only)
              first | done | go_keep
            clear hK K
            try simp only [Act.put, List.setIfInBounds_toArray, List.set_cons_zero, List.set_cons_succ]
            refine wpAnyH_ready (rs := [16]) (by kernel_rfl) (by simp) ?_
            refine AllReadyH.cons (o := ({ dst := none, op := Op.store 40 (Operand.tmp 9) (Operand.tmp 43), type := 0, pos := "l08_tests.go:212", after := #[{ on := 15, ground := Ground.data }, { on := 14, ground := Ground.data }, { on := 1, ground := Ground.chain }, { on := 0, ground := Ground.phase }, { on := 1, ground := Ground.phase }, { on := 2, ground := Ground.phase }, { on := 3, ground := Ground.phase }, { on := 4, ground := Ground.phase }, { on := 5, ground := Ground.phase }, { on := 6, ground := Ground.phase }, { on := 7, ground := Ground.phase }, { on := 8, ground := Ground.phase }, { on := 9, ground := Ground.phase }, { on := 10, ground := Ground.phase }, { on := 11, ground := Ground.phase }, { on := 12, ground := Ground.phase }, { on := 13, ground := Ground.phase }, { on := 14, ground := Ground.phase }, { on := 15, ground := Ground.phase }], guard := none } : Oper)) rfl (fun K hK => ?_) ?_
            · go_simp
              refine hK.out _ _ ?_ (fun hHeld => ?_)
              · (try dsimp only)
                first | done | go_keep
              clear hK K
              try simp only [Act.put, List.setIfInBounds_toArray, List.set_cons_zero, List.set_cons_succ]
              refine wpAnyH_done (by kernel_rfl) ?_ _
              have XW := Lib.hid (Whole.new wA 40 (qcs (⟨kd, a, b, c, d⟩ : Tst)))
              have B4 := Lib.hid ((bt B2.out bA0).alloc (bt B2.out bA0).size (.cells (qcs (⟨kd, a, b, c, d⟩ : Tst)) 40))
              have KW := Lib.hid ((K2.out.all bA0).alloc (.cells (qcs (⟨kd, a, b, c, d⟩ : Tst)) 40))
              change Exit.then _ _ _ _ (wA.alloc (.cells (qcs (⟨kd, a, b, c, d⟩ : Tst)) 40))
              generalize wA.alloc (.cells (qcs (⟨kd, a, b, c, d⟩ : Tst)) 40) = W4 at *
              generalize wA.heap.size = gX at *
              obtain ⟨⟨x0, x1, x2, x3, x4⟩, -⟩ := qcs_five XW.out
              have CW1 := Lib.hid (CW.out W4 B4.out)
              go_wp2_with fail
              refine CW1.out.mono ?_
              rintro e w5 ⟨rfl, b5⟩
              have XW5 := Lib.hid (XW.out.all b5)
              have KW5 := Lib.hid (KW.out.all b5)
              have B5 := Lib.hid (bt B4.out b5)
              clear b5 x0 x1 x2 x3 x4
              obtain ⟨⟨x0, x1, x2, x3, x4⟩, -⟩ := qcs_five XW5.out
              obtain ⟨⟨z0, z1, z2, z3, z4⟩, f0, f1, f2, f3, f4⟩ := qcs_zero KW5.out
              have RW := Lib.hid (setQ_whole KW5.out (⟨kd, a, b, c, d⟩ : Tst))
              have RB := Lib.hid (setQ_below B5.out (Nat.le_refl _) (⟨kd, a, b, c, d⟩ : Tst))
              go_wp2_with fail
              change bodyPost _ _ _ _ _ (setQ w5 w.heap.size (⟨kd, a, b, c, d⟩ : Tst))
              generalize setQ w5 w.heap.size (⟨kd, a, b, c, d⟩ : Tst) = WZ at *
              obtain ⟨⟨d0, d1, d2, d3, d4⟩, -⟩ := qcs_five RW.out
              simp only [] at d0 d1 d2 d3 d4
              exact bodyPost_ret (v := .tuple #[.agg #[.int .i64 kd, .int .i64 a, .int .i64 b, .int .i64 c, .int .i64 d], .bool true]) (by simp [results, Tryd.results25, go_sem, d0, d1, d2, d3, d4]) rfl (RRt.yes hr.out RB.out)
            exact AllReadyH.nil
          exact AllReadyH.nil
        refine AllReadyH.cons (o := ({ dst := some 9, op := Op.alloc 40, type := 0, pos := "l08_tests.go:212", after := #[], guard := none } : Oper)) rfl (fun K hK => ?_) ?_
        · go_simp
          refine hK.out _ _ ?_ (fun hHeld => ?_)
          · (try dsimp only)
            first | done | go_keep
          clear hK K
          try simp only [Act.put, List.setIfInBounds_toArray, List.set_cons_zero, List.set_cons_succ]
          refine wpAnyH_ready (rs := [1]) (by kernel_rfl) (by simp) ?_
          refine AllReadyH.cons (o := ({ dst := some 30, op := Op.call { callee := Callee.value (Operand.func 64), args := #[Operand.tmp 29], argTypes := #[9] }, type := 2, pos := "l08_tests.go:212", after := #[{ on := 0, ground := Ground.data }], guard := none } : Oper)) rfl (fun K hK => ?_) ?_
          · go_simp
            (go_at_call 64; refine (CN.out _ (bt B2.out (bt (below_drewW _ 1) ((Below.refl _ _).alloc (Nat.le_refl _) _)))).mono ?_; rintro e wA ⟨rfl, bA⟩; have bA0 := bt (bt (below_drewW _ 1) ((Below.refl _ _).alloc (Nat.le_refl _) _)) bA; obtain ⟨v0, v1, v2, v3⟩ := KC.out wA bA0)
            have XA := Lib.hid (KX.out wA bA)
            obtain ⟨⟨y0, y1, y2, y3, y4⟩, t0, t1, t2, t3, t4⟩ := qcs_zero XA.out
            go_wp2_with fail
            refine hK.out _ _ ?_ (fun hHeld => ?_)
            · (try dsimp only)
              first | done | go_keep
            clear hK K
            try simp only [Act.put, List.setIfInBounds_toArray, List.set_cons_zero, List.set_cons_succ]
            refine wpAnyH_take (i := 14) (oi := ({ dst := some 43, op := Op.build 40 #[(0, Operand.tmp 30), (1, Operand.tmp 33), (2, Operand.tmp 36), (3, Operand.tmp 39), (4, Operand.tmp 42)], type := 40, pos := "l08_tests.go:212", after := #[{ on := 1, ground := Ground.data }, { on := 4, ground := Ground.data }, { on := 7, ground := Ground.data }, { on := 10, ground := Ground.data }, { on := 13, ground := Ground.data }], guard := none } : Oper)) (v := ?_) rfl (by kernel_rfl) (by kernel_rfl) (by kernel_rfl) (fun _ _ _ h => h) (Or.inl ⟨by kernel_rfl, ?_⟩) (by assumption) ?_
            rotate_left
            · (intro w hSw; (try dsimp only at hSw); go_simp <;> with_reducible rfl)
            try simp only [Act.put, List.setIfInBounds_toArray, List.set_cons_zero, List.set_cons_succ]
            refine wpAnyH_ready (rs := [16]) (by kernel_rfl) (by simp) ?_
            refine AllReadyH.cons (o := ({ dst := none, op := Op.store 40 (Operand.tmp 9) (Operand.tmp 43), type := 0, pos := "l08_tests.go:212", after := #[{ on := 15, ground := Ground.data }, { on := 14, ground := Ground.data }, { on := 1, ground := Ground.chain }, { on := 0, ground := Ground.phase }, { on := 1, ground := Ground.phase }, { on := 2, ground := Ground.phase }, { on := 3, ground := Ground.phase }, { on := 4, ground := Ground.phase }, { on := 5, ground := Ground.phase }, { on := 6, ground := Ground.phase }, { on := 7, ground := Ground.phase }, { on := 8, ground := Ground.phase }, { on := 9, ground := Ground.phase }, { on := 10, ground := Ground.phase }, { on := 11, ground := Ground.phase }, { on := 12, ground := Ground.phase }, { on := 13, ground := Ground.phase }, { on := 14, ground := Ground.phase }, { on := 15, ground := Ground.phase }], guard := none } : Oper)) rfl (fun K hK => ?_) ?_
            · go_simp
              refine hK.out _ _ ?_ (fun hHeld => ?_)
              · (try dsimp only)
                first | done | go_keep
              clear hK K
              try simp only [Act.put, List.setIfInBounds_toArray, List.set_cons_zero, List.set_cons_succ]
              refine wpAnyH_done (by kernel_rfl) ?_ _
              have XW := Lib.hid (setQ_whole XA.out (⟨kd, a, b, c, d⟩ : Tst))
              have B4 := Lib.hid (setQ_below (bt B2.out bA0) (show w.heap.size ≤ w2.heap.size from B2.out.size) (⟨kd, a, b, c, d⟩ : Tst))
              have KW := Lib.hid ((K2.out.all bA0).far (setQ_only wA w2.heap.size (⟨kd, a, b, c, d⟩ : Tst)) (Nat.ne_of_lt K2.out.lt))
              change Exit.then _ _ _ _ (setQ wA w2.heap.size (⟨kd, a, b, c, d⟩ : Tst))
              generalize setQ wA w2.heap.size (⟨kd, a, b, c, d⟩ : Tst) = W4 at *
              generalize w2.heap.size = gX at *
              obtain ⟨⟨x0, x1, x2, x3, x4⟩, -⟩ := qcs_five XW.out
              have CW1 := Lib.hid (CW.out W4 B4.out)
              go_wp2_with fail
              refine CW1.out.mono ?_
              rintro e w5 ⟨rfl, b5⟩
              have XW5 := Lib.hid (XW.out.all b5)
              have KW5 := Lib.hid (KW.out.all b5)
              have B5 := Lib.hid (bt B4.out b5)
              clear b5 x0 x1 x2 x3 x4
              obtain ⟨⟨x0, x1, x2, x3, x4⟩, -⟩ := qcs_five XW5.out
              obtain ⟨⟨z0, z1, z2, z3, z4⟩, f0, f1, f2, f3, f4⟩ := qcs_zero KW5.out
              have RW := Lib.hid (setQ_whole KW5.out (⟨kd, a, b, c, d⟩ : Tst))
              have RB := Lib.hid (setQ_below B5.out (Nat.le_refl _) (⟨kd, a, b, c, d⟩ : Tst))
              go_wp2_with fail
              change bodyPost _ _ _ _ _ (setQ w5 w.heap.size (⟨kd, a, b, c, d⟩ : Tst))
              generalize setQ w5 w.heap.size (⟨kd, a, b, c, d⟩ : Tst) = WZ at *
              obtain ⟨⟨d0, d1, d2, d3, d4⟩, -⟩ := qcs_five RW.out
              simp only [] at d0 d1 d2 d3 d4
              exact bodyPost_ret (v := .tuple #[.agg #[.int .i64 kd, .int .i64 a, .int .i64 b, .int .i64 c, .int .i64 d], .bool true]) (by simp [results, Tryd.results25, go_sem, d0, d1, d2, d3, d4]) rfl (RRt.yes hr.out RB.out)
            exact AllReadyH.nil
          exact AllReadyH.nil
        exact AllReadyH.nil
    · have hr : Hid ((some zs).bind (Tq.t4 (Tq.kindOf p)) = none) := Lib.hid (Tq.t4_len hz)
      have hz2 : ((zs.length : Int) != 4) = true := by rw [bne_iff_ne]; omega
      clear hrl hz
      unfold boxTst Tq.tz at C HB HK
      go_enter Tryd.func25, Tryd.ntmps25
      go_wp2_with fail
      refine C.out.mono ?_
      rintro e w1 ⟨rfl, b1⟩
      have B1 := Lib.hid (bt HB.out b1)
      have K1 := Lib.hid (HK.out w1 b1)
      clear b1
      go_wp2_with fail
      refine (CR.out _ B1.out).mono ?_
      rintro e w2 ⟨u, rfl, ho, b2⟩
      have KW := Lib.hid (K1.out.all b2)
      have B2 := Lib.hid (bt B1.out b2)
      have hln : ((some zs).getD []).length = zs.length := rfl
      obtain ⟨ua, ucap, rfl⟩ := (Own.sl ho).form
      rw [hln]
      clear b2 ho hln
      have RW := Lib.hid (setQ_whole KW.out Tq.tz)
      have RB := Lib.hid (setQ_below B2.out (Nat.le_refl _) Tq.tz)
      obtain ⟨⟨z0, z1, z2, z3, z4⟩, f0, f1, f2, f3, f4⟩ := qcs_zero KW.out
      go_wp2_with fail
      change bodyPost _ _ _ _ _ (setQ w2 w.heap.size Tq.tz)
      generalize setQ w2 w.heap.size Tq.tz = WZ at *
      obtain ⟨⟨d0, d1, d2, d3, d4⟩, -⟩ := qcs_zero RW.out
      exact bodyPost_ret (v := .tuple #[.agg #[.int .i64 0, .int .i64 0, .int .i64 0, .int .i64 0, .int .i64 0], .bool false]) (by simp [results, Tryd.results25, go_sem, d0, d1, d2, d3, d4]) rfl (RRt.no hr.out RB.out)
end Go.Proofs.YteileaeeiejonacDoor
