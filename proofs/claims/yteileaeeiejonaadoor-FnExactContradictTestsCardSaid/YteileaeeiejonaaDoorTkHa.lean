/-
  Tests that contradict each other, by the model. No condition of its own.
-/
import Derived.Test.YteileaeeiejonaaDoorTkH
import Derived.Test.YteileaeeiejonaaDoorTkGa
import Derived.Deep.RegionHeld3
namespace Go.Proofs.YteileaeeiejonaaDoor
open Go.RowKit Go.Shelf Go.Deep
set_option linter.unusedVariables false
set_option maxRecDepth 100000

theorem hidOSS {B : Nat} {w w1 : World} {v : Value} {L : List Rw} (h : Hid (OSS B w v L)) (hb : Below w.heap.size w w1) : Hid (OSS B w1 v L) := Lib.hid (h.out.belowAll hb)
set_option maxHeartbeats 6400000 in
theorem specContradictTests_any (w : World) (v : Value) (xs : List Tst) (n : Int) (hv : TeSl w v xs) (hl : xs.length ≤ 1048576) :
    Calls Tryd.prog 39 #[v, .int .i64 n] w (RSS w (Tq.ctL xs n) (Tq.ctC xs n)) := by
  obtain ⟨i0, hi, hz0, hz1, hz2⟩ := info_parts info_rows
  have C := Lib.hid (l08Ok_any w v xs hv hl)
  have CN := fun W => Lib.hid (l08Near_any n W)
  obtain ⟨a, cap, rfl⟩ := hv.form
  have HV := Lib.hid hv
  clear hv
  unfold Tq.ctL Tq.ctC
  cases hq : Tq.okS xs with
  | false =>
    rw [hq] at C
    rw [Cd.ls_f, Cd.cd_f]
    clear hq
    go_enter Tryd.func39, Tryd.ntmps39
    go_wp2_with fail
    refine C.out.mono ?_
    rintro e w1 ⟨rfl, b1⟩
    have B1 := Lib.hid b1
    clear b1
    go_wp2_with fail
    go_ret2
    exact RSS.no B1.out
  | true =>
    rw [hq] at C
    cases hs : Ar.inB 0 n 300 with
    | false =>
      rw [Cd.ls_tf, Cd.cd_tf]
      rw [hs] at CN
      clear hq hs
      go_enter Tryd.func39, Tryd.ntmps39
      go_wp2_with fail
      refine C.out.mono ?_
      rintro e w1 ⟨rfl, b1⟩
      have B1 := Lib.hid b1
      clear b1
      go_wp2_with fail
      refine (CN _).out.mono ?_
      rintro e w2 ⟨rfl, rfl⟩
      go_wp2_with fail
      go_ret2
      exact RSS.no B1.out
    | true =>
      rw [Cd.ls_t, Cd.cd_t]
      have HF := Lib.hid (fun k (hk : k < xs.length) => Tq.fits_at hq hk)
      have h16 := Lib.hid (Tq.len_ok hq)
      rw [hs] at CN
      clear hs hq
      go_enter Tryd.func39, Tryd.ntmps39
      go_wp2_with fail
      refine C.out.mono ?_
      rintro e w1 ⟨rfl, b1⟩
      have B1 := Lib.hid b1
      clear b1
      go_wp2_with fail
      refine (CN _).out.mono ?_
      rintro e w2 ⟨rfl, rfl⟩
      go_wp2_with fail
      have X1 : Hid (OSS w.heap.size (w1.alloc (.cells #[] 41)) (.slice (some ⟨w1.heap.size, 0, none⟩) 0 0) []) := Lib.hid ⟨World.ownsRow_lit _ _ 0 B1.out.size (by decide) rfl, (fun t ht => by cases ht), List.nodup_nil⟩
      have B2 := Lib.hid (B1.out.alloc B1.out.size (.cells #[] 41))
      go_loopw [6, 7, 8] (fun u s7 _ wr => ∃ (i : Nat) (L : List Rw), i ≤ xs.length ∧ s7 = .int .i64 i ∧ Hid (OSS w.heap.size wr u L) ∧ Hid (L.map (·.2.2) = Tq.pa n xs i) ∧ Hid (Below w.heap.size w wr)) (fun _ s7 _ _ => xs.length - (intOf s7).toNat)
      case atStart => exact ⟨0, [], Nat.zero_le _, rfl, X1, Lib.hid rfl, B2⟩
      case round =>
        obtain ⟨i, L0, hi0, rfl, hX0, hN0, hb⟩ := hrel
        by_cases hlt : i < xs.length
        · have hltz : (i : Int) < (xs.length : Int) := by omega
          go_wp2_with fail
          go_loopw [6, 8] (fun u s8 wr => ∃ (k : Nat) (L : List Rw), i + 1 ≤ k ∧ k ≤ xs.length ∧ s8 = .int .i64 k ∧ Hid (OSS w.heap.size wr u L) ∧ Hid (L.map (·.2.2) = Tq.pa n xs i ++ Tq.pk n xs i k) ∧ Hid (Below w.heap.size w wr)) (fun _ s8 _ => xs.length - (intOf s8).toNat)
          case atStart => exact ⟨i + 1, L0, Nat.le_refl _, by omega, by go_num, hX0, Lib.hid (by rw [Tq.pk_start _ _ _ _ (Nat.le_refl _), List.append_nil]; exact hN0.out), hb⟩
          case round =>
            obtain ⟨k, L, hik, hk, rfl, hX, hN, hbk⟩ := hrel
            by_cases hlk : k < xs.length
            · have hlkz : (k : Int) < (xs.length : Int) := by omega
              have k0 : (0 : Int) ≤ (k : Int) := by omega
              have hltz : (i : Int) < (xs.length : Int) := by omega
              have i00 : (0 : Int) ≤ (i : Int) := by omega
              obtain ⟨b, off, cap1, hn1, hbl, hcc⟩ := (HV.out.below hbk.out).at_ hlk
              simp only [Value.slice.injEq] at hn1
              obtain ⟨rfl, -, rfl⟩ := hn1
              have hlb := hbl
              have KA := Lib.hid (fun W (h : Below wr.heap.size wr W) => by
                obtain ⟨b2, off2, cap2, hn2, -, hc2⟩ := (HV.out.below (bt hbk.out h)).at_ hlk
                simp only [Value.slice.injEq, Option.some.injEq, Addr.mk.injEq] at hn2
                obtain ⟨⟨rfl, rfl, -⟩, -, -⟩ := hn2
                exact (⟨(hc2 i hlt).c3, (hc2 k hlk).c3⟩ : W.cell? ⟨b, off + i * 5 + 3, none⟩ = some (.int .i64 xs[i].de) ∧ W.cell? ⟨b, off + k * 5 + 3, none⟩ = some (.int .i64 xs[k].de)))
              have CI := Lib.hid (fun W (h : Below wr.heap.size wr W) => by
                obtain ⟨b2, off2, cap2, hn2, -, hc2⟩ := (HV.out.below (bt hbk.out h)).at_ hlk
                simp only [Value.slice.injEq, Option.some.injEq, Addr.mk.injEq] at hn2
                obtain ⟨⟨rfl, rfl, -⟩, -, -⟩ := hn2
                exact l08Class_any xs[i] b (off + i * 5) W (hc2 i hlt) (HF.out i hlt).q1 (HF.out i hlt).q2)
              have CK := Lib.hid (fun W (h : Below wr.heap.size wr W) => by
                obtain ⟨b2, off2, cap2, hn2, -, hc2⟩ := (HV.out.below (bt hbk.out h)).at_ hlk
                simp only [Value.slice.injEq, Option.some.injEq, Addr.mk.injEq] at hn2
                obtain ⟨⟨rfl, rfl, -⟩, -, -⟩ := hn2
                exact l08Class_any xs[k] b (off + k * 5) W (hc2 k hlk) (HF.out k hlk).q1 (HF.out k hlk).q2)
              have F1 := HF.out i hlt
              have F2 := HF.out k hlk
              obtain ⟨a1, a2⟩ : 1 ≤ xs[i].de ∧ xs[i].de ≤ 300 := ⟨F1.d1, F1.d2⟩
              obtain ⟨a3, a4⟩ : 1 ≤ xs[k].de ∧ xs[k].de ≤ 300 := ⟨F2.d1, F2.d2⟩
              have g1 := Tq.cls_bd xs[i]
              have g2 := Tq.cls_bd xs[k]
              have hwr : IntKind.i64.wrap (xs[i].de - xs[k].de) = xs[i].de - xs[k].de := IntWalk.i64_in _ ⟨by omega, by omega⟩
              have hwc : IntKind.i64.wrap (Tq.cls xs[i] - Tq.cls xs[k]) = Tq.cls xs[i] - Tq.cls xs[k] := IntWalk.i64_in _ ⟨by omega, by omega⟩
              have CA := Lib.hid (fun W => l04AbsT_any (xs[i].de - xs[k].de) W (by omega) (by omega))
              have CD := Lib.hid (fun W => l04AbsT_any (Tq.cls xs[i] - Tq.cls xs[k]) W (by omega) (by omega))
              rw [Tq.ab_sub (xs[i].de)] at CA
              rw [Tq.ab_sub (Tq.cls xs[i])] at CD
              obtain ⟨d3, e3⟩ := KA.out wr (Below.refl _ _)
              clear hcc F1 F2 a1 a2 a3 a4 g1 g2
              cases hr : Tq.nr n xs[i].de xs[k].de with
              | false =>
                have hs : Hid (Tq.pk n xs i (k + 1) = Tq.pk n xs i k) := Lib.hid (Tq.pk_no (by omega) hlk (by unfold Tq.cb; rw [hr]; rfl))
                have hrw : decide (Ar.ab (xs[k].de - xs[i].de) ≤ n) = false := by unfold Tq.nr at hr; exact hr
                clear hr CI CK CD hwc
                generalize Ar.ab (xs[k].de - xs[i].de) = ad at *
                generalize xs[i].de = di at *
                generalize xs[k].de = dk at *
                go_wp2_with fail
                refine wp_region_held_drew (S := (fun w' => w'.cell? ⟨b, off + i * 5 + 3, none⟩ = some (.int .i64 di) ∧ w'.cell? ⟨b, off + k * 5 + 3, none⟩ = some (.int .i64 dk))) (by kernel_rfl) ?_ (fun hHeld => ?_)
                · (try dsimp only)
                  first | done | go_keep
                refine wpAnyH_take (i := 0) (oi := ({ dst := some 30, op := Op.move (Operand.tmp 0), type := 27, pos := "l08_tests.go:188", after := #[], guard := none } : Oper)) (v := ?_) rfl (by kernel_rfl) (by kernel_rfl) (by kernel_rfl) (fun _ _ _ h => h) (Or.inl ⟨by kernel_rfl, ?_⟩) (by assumption) ?_
                rotate_left
                · (intro w hSw; (try dsimp only at hSw); go_simp <;> with_reducible rfl)
                try simp only [Act.put, List.setIfInBounds_toArray, List.set_cons_zero, List.set_cons_succ]
                refine wpAnyH_take (i := 1) (oi := ({ dst := some 31, op := Op.move (Operand.tmp 7), type := 3, pos := "l08_tests.go:188", after := #[], guard := none } : Oper)) (v := ?_) rfl (by kernel_rfl) (by kernel_rfl) (by kernel_rfl) (fun _ _ _ h => h) (Or.inl ⟨by kernel_rfl, ?_⟩) (by assumption) ?_
                rotate_left
                · (intro w hSw; (try dsimp only at hSw); go_simp <;> with_reducible rfl)
                try simp only [Act.put, List.setIfInBounds_toArray, List.set_cons_zero, List.set_cons_succ]
                refine wpAnyH_take (i := 2) (oi := ({ dst := some 32, op := Op.indexAddr 27 (Operand.tmp 30) (Operand.tmp 31), type := 0, pos := "l08_tests.go:188", after := #[{ on := 0, ground := Ground.data }, { on := 1, ground := Ground.data }], guard := none } : Oper)) (v := ?_) rfl (by kernel_rfl) (by kernel_rfl) (by kernel_rfl) (fun _ _ _ h => h) (Or.inl ⟨by kernel_rfl, ?_⟩) (by assumption) ?_
                rotate_left
                · (intro w hSw; (try dsimp only at hSw); go_simp <;> with_reducible rfl)
                try simp only [Act.put, List.setIfInBounds_toArray, List.set_cons_zero, List.set_cons_succ]
                refine wpAnyH_take (i := 3) (oi := ({ dst := some 33, op := Op.fieldAddr 35 (Operand.tmp 32) 3, type := 0, pos := "l08_tests.go:188", after := #[{ on := 2, ground := Ground.data }], guard := none } : Oper)) (v := ?_) rfl (by kernel_rfl) (by kernel_rfl) (by kernel_rfl) (fun _ _ _ h => h) (Or.inl ⟨by kernel_rfl, ?_⟩) (by assumption) ?_
                rotate_left
                · (intro w hSw; (try dsimp only at hSw); go_simp <;> with_reducible rfl)
                try simp only [Act.put, List.setIfInBounds_toArray, List.set_cons_zero, List.set_cons_succ]
                refine wpAnyH_take (i := 4) (oi := ({ dst := some 34, op := Op.load 2 (Operand.tmp 33), type := 2, pos := "l08_tests.go:188", after := #[{ on := 3, ground := Ground.data }], guard := none } : Oper)) (v := ?_) rfl (by kernel_rfl) (by kernel_rfl) (by kernel_rfl) (fun _ _ _ h => h) (Or.inl ⟨by kernel_rfl, ?_⟩) (by assumption) ?_
                rotate_left
                · (intro w hSw; (try dsimp only at hSw); go_simp <;> with_reducible rfl)
                try simp only [Act.put, List.setIfInBounds_toArray, List.set_cons_zero, List.set_cons_succ]
                refine wpAnyH_take (i := 5) (oi := ({ dst := some 35, op := Op.move (Operand.tmp 0), type := 27, pos := "l08_tests.go:188", after := #[], guard := none } : Oper)) (v := ?_) rfl (by kernel_rfl) (by kernel_rfl) (by kernel_rfl) (fun _ _ _ h => h) (Or.inl ⟨by kernel_rfl, ?_⟩) (by assumption) ?_
                rotate_left
                · (intro w hSw; (try dsimp only at hSw); go_simp <;> with_reducible rfl)
                try simp only [Act.put, List.setIfInBounds_toArray, List.set_cons_zero, List.set_cons_succ]
                refine wpAnyH_take (i := 6) (oi := ({ dst := some 36, op := Op.move (Operand.tmp 8), type := 3, pos := "l08_tests.go:188", after := #[], guard := none } : Oper)) (v := ?_) rfl (by kernel_rfl) (by kernel_rfl) (by kernel_rfl) (fun _ _ _ h => h) (Or.inl ⟨by kernel_rfl, ?_⟩) (by assumption) ?_
                rotate_left
                · (intro w hSw; (try dsimp only at hSw); go_simp <;> with_reducible rfl)
                try simp only [Act.put, List.setIfInBounds_toArray, List.set_cons_zero, List.set_cons_succ]
                refine wpAnyH_take (i := 7) (oi := ({ dst := some 37, op := Op.indexAddr 27 (Operand.tmp 35) (Operand.tmp 36), type := 0, pos := "l08_tests.go:188", after := #[{ on := 5, ground := Ground.data }, { on := 6, ground := Ground.data }], guard := none } : Oper)) (v := ?_) rfl (by kernel_rfl) (by kernel_rfl) (by kernel_rfl) (fun _ _ _ h => h) (Or.inl ⟨by kernel_rfl, ?_⟩) (by assumption) ?_
                rotate_left
                · (intro w hSw; (try dsimp only at hSw); go_simp <;> with_reducible rfl)
                try simp only [Act.put, List.setIfInBounds_toArray, List.set_cons_zero, List.set_cons_succ]
                refine wpAnyH_take (i := 8) (oi := ({ dst := some 38, op := Op.fieldAddr 35 (Operand.tmp 37) 3, type := 0, pos := "l08_tests.go:188", after := #[{ on := 7, ground := Ground.data }], guard := none } : Oper)) (v := ?_) rfl (by kernel_rfl) (by kernel_rfl) (by kernel_rfl) (fun _ _ _ h => h) (Or.inl ⟨by kernel_rfl, ?_⟩) (by assumption) ?_
                rotate_left
                · (intro w hSw; (try dsimp only at hSw); go_simp <;> with_reducible rfl)
                try simp only [Act.put, List.setIfInBounds_toArray, List.set_cons_zero, List.set_cons_succ]
                refine wpAnyH_take (i := 9) (oi := ({ dst := some 39, op := Op.load 2 (Operand.tmp 38), type := 2, pos := "l08_tests.go:188", after := #[{ on := 8, ground := Ground.data }], guard := none } : Oper)) (v := ?_) rfl (by kernel_rfl) (by kernel_rfl) (by kernel_rfl) (fun _ _ _ h => h) (Or.inl ⟨by kernel_rfl, ?_⟩) (by assumption) ?_
                rotate_left
                · (intro w hSw; (try dsimp only at hSw); go_simp <;> with_reducible rfl)
                try simp only [Act.put, List.setIfInBounds_toArray, List.set_cons_zero, List.set_cons_succ]
                refine wpAnyH_take (i := 10) (oi := ({ dst := some 40, op := Op.binOp BinOp.sub 2 (Operand.tmp 34) (Operand.tmp 39) 2, type := 2, pos := "l08_tests.go:188", after := #[{ on := 4, ground := Ground.data }, { on := 9, ground := Ground.data }], guard := none } : Oper)) (v := ?_) rfl (by kernel_rfl) (by kernel_rfl) (by kernel_rfl) (fun _ _ _ h => h) (Or.inl ⟨by kernel_rfl, ?_⟩) (by assumption) ?_
                rotate_left
                · (intro w hSw; (try dsimp only at hSw); go_simp <;> with_reducible rfl)
                try simp only [Act.put, List.setIfInBounds_toArray, List.set_cons_zero, List.set_cons_succ]
                refine wpAnyH_take (i := 12) (oi := ({ dst := some 42, op := Op.move (Operand.tmp 1), type := 2, pos := "l08_tests.go:188", after := #[], guard := none } : Oper)) (v := ?_) rfl (by kernel_rfl) (by kernel_rfl) (by kernel_rfl) (fun _ _ _ h => h) (Or.inl ⟨by kernel_rfl, ?_⟩) (by assumption) ?_
                rotate_left
                · (intro w hSw; (try dsimp only at hSw); go_simp <;> with_reducible rfl)
                try simp only [Act.put, List.setIfInBounds_toArray, List.set_cons_zero, List.set_cons_succ]
                refine wpAnyH_ready (rs := [11]) (by kernel_rfl) (by simp) ?_
                refine AllReadyH.cons (o := ({ dst := some 41, op := Op.call { callee := Callee.value (Operand.func 71), args := #[Operand.tmp 40], argTypes := #[2] }, type := 2, pos := "l08_tests.go:188", after := #[{ on := 10, ground := Ground.data }], guard := none } : Oper)) rfl (fun K hK => ?_) ?_
                · go_simp
                  (go_at_call 71; refine (CA.out _).mono ?_; rintro e w' ⟨rfl, rfl⟩)
                  go_wp2_with fail
                  refine hK.out _ _ ?_ (fun hHeld => ?_)
                  · (try dsimp only)
                    first | done | go_keep
                  clear hK K
                  try simp only [Act.put, List.setIfInBounds_toArray, List.set_cons_zero, List.set_cons_succ]
                  refine wpAnyH_take (i := 13) (oi := ({ dst := some 43, op := Op.binOp BinOp.leq 2 (Operand.tmp 41) (Operand.tmp 42) 2, type := 4, pos := "l08_tests.go:188", after := #[{ on := 11, ground := Ground.data }, { on := 12, ground := Ground.data }], guard := none } : Oper)) (v := ?_) rfl (by kernel_rfl) (by kernel_rfl) (by kernel_rfl) (fun _ _ _ h => h) (Or.inl ⟨by kernel_rfl, ?_⟩) (by assumption) ?_
                  rotate_left
                  · (intro w hSw; (try dsimp only at hSw); go_simp <;> with_reducible rfl)
                  try simp only [Act.put, List.setIfInBounds_toArray, List.set_cons_zero, List.set_cons_succ]
                  refine wpAnyH_take (i := 14) (oi := ({ dst := some 44, op := Op.move (Operand.tmp 43), type := 4, pos := "l08_tests.go:188", after := #[{ on := 13, ground := Ground.data }, { on := 11, ground := Ground.chain }], guard := none } : Oper)) (v := ?_) rfl (by kernel_rfl) (by kernel_rfl) (by kernel_rfl) (fun _ _ _ h => h) (Or.inl ⟨by kernel_rfl, ?_⟩) (by assumption) ?_
                  rotate_left
                  · (intro w hSw; (try dsimp only at hSw); go_simp <;> with_reducible rfl)
                  try simp only [Act.put, List.setIfInBounds_toArray, List.set_cons_zero, List.set_cons_succ]
                  refine wpAnyH_take (i := 15) (oi := ({ dst := some 45, op := Op.move (Operand.tmp 0), type := 27, pos := "l08_tests.go:188", after := #[{ on := 14, ground := Ground.guard }], guard := some (14, true) } : Oper)) (v := undef) rfl (by kernel_rfl) (by kernel_rfl) (by kernel_rfl) (fun _ _ _ h => h) (Or.inr ⟨by kernel_rfl, rfl⟩) (by assumption) ?_
                  try simp only [Act.put, List.setIfInBounds_toArray, List.set_cons_zero, List.set_cons_succ]
                  refine wpAnyH_take (i := 16) (oi := ({ dst := some 46, op := Op.move (Operand.tmp 7), type := 3, pos := "l08_tests.go:188", after := #[{ on := 14, ground := Ground.guard }], guard := some (14, true) } : Oper)) (v := undef) rfl (by kernel_rfl) (by kernel_rfl) (by kernel_rfl) (fun _ _ _ h => h) (Or.inr ⟨by kernel_rfl, rfl⟩) (by assumption) ?_
                  try simp only [Act.put, List.setIfInBounds_toArray, List.set_cons_zero, List.set_cons_succ]
                  refine wpAnyH_take (i := 17) (oi := ({ dst := some 47, op := Op.indexAddr 27 (Operand.tmp 45) (Operand.tmp 46), type := 0, pos := "l08_tests.go:188", after := #[{ on := 15, ground := Ground.data }, { on := 16, ground := Ground.data }, { on := 14, ground := Ground.guard }], guard := some (14, true) } : Oper)) (v := undef) rfl (by kernel_rfl) (by kernel_rfl) (by kernel_rfl) (fun _ _ _ h => h) (Or.inr ⟨by kernel_rfl, rfl⟩) (by assumption) ?_
                  try simp only [Act.put, List.setIfInBounds_toArray, List.set_cons_zero, List.set_cons_succ]
                  refine wpAnyH_take (i := 18) (oi := ({ dst := some 48, op := Op.call { callee := Callee.value (Operand.func 54), args := #[Operand.tmp 47], argTypes := #[66] }, type := 2, pos := "l08_tests.go:188", after := #[{ on := 17, ground := Ground.data }, { on := 14, ground := Ground.chain }, { on := 14, ground := Ground.guard }], guard := some (14, true) } : Oper)) (v := undef) rfl (by kernel_rfl) (by kernel_rfl) (by kernel_rfl) (fun _ _ _ h => h) (Or.inr ⟨by kernel_rfl, rfl⟩) (by assumption) ?_
                  try simp only [Act.put, List.setIfInBounds_toArray, List.set_cons_zero, List.set_cons_succ]
                  refine wpAnyH_take (i := 19) (oi := ({ dst := some 49, op := Op.move (Operand.tmp 0), type := 27, pos := "l08_tests.go:188", after := #[{ on := 14, ground := Ground.guard }], guard := some (14, true) } : Oper)) (v := undef) rfl (by kernel_rfl) (by kernel_rfl) (by kernel_rfl) (fun _ _ _ h => h) (Or.inr ⟨by kernel_rfl, rfl⟩) (by assumption) ?_
                  try simp only [Act.put, List.setIfInBounds_toArray, List.set_cons_zero, List.set_cons_succ]
                  refine wpAnyH_take (i := 20) (oi := ({ dst := some 50, op := Op.move (Operand.tmp 8), type := 3, pos := "l08_tests.go:188", after := #[{ on := 14, ground := Ground.guard }], guard := some (14, true) } : Oper)) (v := undef) rfl (by kernel_rfl) (by kernel_rfl) (by kernel_rfl) (fun _ _ _ h => h) (Or.inr ⟨by kernel_rfl, rfl⟩) (by assumption) ?_
                  try simp only [Act.put, List.setIfInBounds_toArray, List.set_cons_zero, List.set_cons_succ]
                  refine wpAnyH_take (i := 21) (oi := ({ dst := some 51, op := Op.indexAddr 27 (Operand.tmp 49) (Operand.tmp 50), type := 0, pos := "l08_tests.go:188", after := #[{ on := 19, ground := Ground.data }, { on := 20, ground := Ground.data }, { on := 14, ground := Ground.guard }], guard := some (14, true) } : Oper)) (v := undef) rfl (by kernel_rfl) (by kernel_rfl) (by kernel_rfl) (fun _ _ _ h => h) (Or.inr ⟨by kernel_rfl, rfl⟩) (by assumption) ?_
                  try simp only [Act.put, List.setIfInBounds_toArray, List.set_cons_zero, List.set_cons_succ]
                  refine wpAnyH_take (i := 22) (oi := ({ dst := some 52, op := Op.call { callee := Callee.value (Operand.func 54), args := #[Operand.tmp 51], argTypes := #[66] }, type := 2, pos := "l08_tests.go:188", after := #[{ on := 21, ground := Ground.data }, { on := 18, ground := Ground.chain }, { on := 14, ground := Ground.guard }], guard := some (14, true) } : Oper)) (v := undef) rfl (by kernel_rfl) (by kernel_rfl) (by kernel_rfl) (fun _ _ _ h => h) (Or.inr ⟨by kernel_rfl, rfl⟩) (by assumption) ?_
                  try simp only [Act.put, List.setIfInBounds_toArray, List.set_cons_zero, List.set_cons_succ]
                  refine wpAnyH_take (i := 23) (oi := ({ dst := some 53, op := Op.binOp BinOp.sub 2 (Operand.tmp 48) (Operand.tmp 52) 2, type := 2, pos := "l08_tests.go:188", after := #[{ on := 18, ground := Ground.data }, { on := 22, ground := Ground.data }, { on := 14, ground := Ground.guard }], guard := some (14, true) } : Oper)) (v := undef) rfl (by kernel_rfl) (by kernel_rfl) (by kernel_rfl) (fun _ _ _ h => h) (Or.inr ⟨by kernel_rfl, rfl⟩) (by assumption) ?_
                  try simp only [Act.put, List.setIfInBounds_toArray, List.set_cons_zero, List.set_cons_succ]
                  refine wpAnyH_take (i := 24) (oi := ({ dst := some 54, op := Op.call { callee := Callee.value (Operand.func 71), args := #[Operand.tmp 53], argTypes := #[2] }, type := 2, pos := "l08_tests.go:188", after := #[{ on := 23, ground := Ground.data }, { on := 22, ground := Ground.chain }, { on := 14, ground := Ground.guard }], guard := some (14, true) } : Oper)) (v := undef) rfl (by kernel_rfl) (by kernel_rfl) (by kernel_rfl) (fun _ _ _ h => h) (Or.inr ⟨by kernel_rfl, rfl⟩) (by assumption) ?_
                  try simp only [Act.put, List.setIfInBounds_toArray, List.set_cons_zero, List.set_cons_succ]
                  refine wpAnyH_take (i := 25) (oi := ({ dst := some 55, op := Op.binOp BinOp.geq 2 (Operand.tmp 54) (Operand.const (Value.int IntKind.i64 2)) 2, type := 4, pos := "l08_tests.go:188", after := #[{ on := 24, ground := Ground.data }, { on := 14, ground := Ground.guard }], guard := some (14, true) } : Oper)) (v := undef) rfl (by kernel_rfl) (by kernel_rfl) (by kernel_rfl) (fun _ _ _ h => h) (Or.inr ⟨by kernel_rfl, rfl⟩) (by assumption) ?_
                  try simp only [Act.put, List.setIfInBounds_toArray, List.set_cons_zero, List.set_cons_succ]
                  refine wpAnyH_take (i := 26) (oi := ({ dst := some 56, op := Op.pick (Operand.tmp 44) (Operand.tmp 55) (Operand.const (Value.bool false)), type := 4, pos := "l08_tests.go:188", after := #[{ on := 14, ground := Ground.data }, { on := 25, ground := Ground.data }], guard := none } : Oper)) (v := ?_) rfl (by kernel_rfl) (by kernel_rfl) (by kernel_rfl) (fun _ _ _ h => h) (Or.inl ⟨by kernel_rfl, ?_⟩) (by assumption) ?_
                  rotate_left
                  · (intro w hSw; (try dsimp only at hSw); go_simp <;> with_reducible rfl)
                  try simp only [Act.put, List.setIfInBounds_toArray, List.set_cons_zero, List.set_cons_succ]
                  refine wpAnyH_done (by kernel_rfl) ?_ _
                  have HQ := Lib.hid (below_drewW wr 1)
                  go_wp2_with fail
                  exact ⟨⟨k + 1, L, by omega, by omega, by go_num, hidOSS hX HQ.out, Lib.hid (by rw [hs.out]; exact hN.out), Lib.hid (bt hbk.out HQ.out)⟩, by simp only [intOf]; omega⟩
                exact AllReadyH.nil
              | true =>
                have hrw : decide (Ar.ab (xs[k].de - xs[i].de) ≤ n) = true := by unfold Tq.nr at hr; exact hr
                cases hcc2 : decide (2 ≤ Ar.ab (Tq.cls xs[k] - Tq.cls xs[i])) with
                | false =>
                  have hs : Hid (Tq.pk n xs i (k + 1) = Tq.pk n xs i k) := Lib.hid (Tq.pk_no (by omega) hlk (by unfold Tq.cb; rw [hr, hcc2]; rfl))
                  clear hr
                  generalize Ar.ab (xs[k].de - xs[i].de) = ad at *
                  generalize Ar.ab (Tq.cls xs[k] - Tq.cls xs[i]) = ac at *
                  generalize Tq.cls xs[i] = ci at *
                  generalize Tq.cls xs[k] = ck at *
                  generalize xs[i].de = di at *
                  generalize xs[k].de = dk at *
                  go_wp2_with fail
                  refine wp_region_held_drew (S := (fun w' => w'.cell? ⟨b, off + i * 5 + 3, none⟩ = some (.int .i64 di) ∧ w'.cell? ⟨b, off + k * 5 + 3, none⟩ = some (.int .i64 dk))) (by kernel_rfl) ?_ (fun hHeld => ?_)
                  · (try dsimp only)
                    first | done | go_keep
                  refine wpAnyH_take (i := 0) (oi := ({ dst := some 30, op := Op.move (Operand.tmp 0), type := 27, pos := "l08_tests.go:188", after := #[], guard := none } : Oper)) (v := ?_) rfl (by kernel_rfl) (by kernel_rfl) (by kernel_rfl) (fun _ _ _ h => h) (Or.inl ⟨by kernel_rfl, ?_⟩) (by assumption) ?_
                  rotate_left
                  · (intro w hSw; (try dsimp only at hSw); go_simp <;> with_reducible rfl)
                  try simp only [Act.put, List.setIfInBounds_toArray, List.set_cons_zero, List.set_cons_succ]
                  refine wpAnyH_take (i := 1) (oi := ({ dst := some 31, op := Op.move (Operand.tmp 7), type := 3, pos := "l08_tests.go:188", after := #[], guard := none } : Oper)) (v := ?_) rfl (by kernel_rfl) (by kernel_rfl) (by kernel_rfl) (fun _ _ _ h => h) (Or.inl ⟨by kernel_rfl, ?_⟩) (by assumption) ?_
                  rotate_left
                  · (intro w hSw; (try dsimp only at hSw); go_simp <;> with_reducible rfl)
                  try simp only [Act.put, List.setIfInBounds_toArray, List.set_cons_zero, List.set_cons_succ]
                  refine wpAnyH_take (i := 2) (oi := ({ dst := some 32, op := Op.indexAddr 27 (Operand.tmp 30) (Operand.tmp 31), type := 0, pos := "l08_tests.go:188", after := #[{ on := 0, ground := Ground.data }, { on := 1, ground := Ground.data }], guard := none } : Oper)) (v := ?_) rfl (by kernel_rfl) (by kernel_rfl) (by kernel_rfl) (fun _ _ _ h => h) (Or.inl ⟨by kernel_rfl, ?_⟩) (by assumption) ?_
                  rotate_left
                  · (intro w hSw; (try dsimp only at hSw); go_simp <;> with_reducible rfl)
                  try simp only [Act.put, List.setIfInBounds_toArray, List.set_cons_zero, List.set_cons_succ]
                  refine wpAnyH_take (i := 3) (oi := ({ dst := some 33, op := Op.fieldAddr 35 (Operand.tmp 32) 3, type := 0, pos := "l08_tests.go:188", after := #[{ on := 2, ground := Ground.data }], guard := none } : Oper)) (v := ?_) rfl (by kernel_rfl) (by kernel_rfl) (by kernel_rfl) (fun _ _ _ h => h) (Or.inl ⟨by kernel_rfl, ?_⟩) (by assumption) ?_
                  rotate_left
                  · (intro w hSw; (try dsimp only at hSw); go_simp <;> with_reducible rfl)
                  try simp only [Act.put, List.setIfInBounds_toArray, List.set_cons_zero, List.set_cons_succ]
                  refine wpAnyH_take (i := 4) (oi := ({ dst := some 34, op := Op.load 2 (Operand.tmp 33), type := 2, pos := "l08_tests.go:188", after := #[{ on := 3, ground := Ground.data }], guard := none } : Oper)) (v := ?_) rfl (by kernel_rfl) (by kernel_rfl) (by kernel_rfl) (fun _ _ _ h => h) (Or.inl ⟨by kernel_rfl, ?_⟩) (by assumption) ?_
                  rotate_left
                  · (intro w hSw; (try dsimp only at hSw); go_simp <;> with_reducible rfl)
                  try simp only [Act.put, List.setIfInBounds_toArray, List.set_cons_zero, List.set_cons_succ]
                  refine wpAnyH_take (i := 5) (oi := ({ dst := some 35, op := Op.move (Operand.tmp 0), type := 27, pos := "l08_tests.go:188", after := #[], guard := none } : Oper)) (v := ?_) rfl (by kernel_rfl) (by kernel_rfl) (by kernel_rfl) (fun _ _ _ h => h) (Or.inl ⟨by kernel_rfl, ?_⟩) (by assumption) ?_
                  rotate_left
                  · (intro w hSw; (try dsimp only at hSw); go_simp <;> with_reducible rfl)
                  try simp only [Act.put, List.setIfInBounds_toArray, List.set_cons_zero, List.set_cons_succ]
                  refine wpAnyH_take (i := 6) (oi := ({ dst := some 36, op := Op.move (Operand.tmp 8), type := 3, pos := "l08_tests.go:188", after := #[], guard := none } : Oper)) (v := ?_) rfl (by kernel_rfl) (by kernel_rfl) (by kernel_rfl) (fun _ _ _ h => h) (Or.inl ⟨by kernel_rfl, ?_⟩) (by assumption) ?_
                  rotate_left
                  · (intro w hSw; (try dsimp only at hSw); go_simp <;> with_reducible rfl)
                  try simp only [Act.put, List.setIfInBounds_toArray, List.set_cons_zero, List.set_cons_succ]
                  refine wpAnyH_take (i := 7) (oi := ({ dst := some 37, op := Op.indexAddr 27 (Operand.tmp 35) (Operand.tmp 36), type := 0, pos := "l08_tests.go:188", after := #[{ on := 5, ground := Ground.data }, { on := 6, ground := Ground.data }], guard := none } : Oper)) (v := ?_) rfl (by kernel_rfl) (by kernel_rfl) (by kernel_rfl) (fun _ _ _ h => h) (Or.inl ⟨by kernel_rfl, ?_⟩) (by assumption) ?_
                  rotate_left
                  · (intro w hSw; (try dsimp only at hSw); go_simp <;> with_reducible rfl)
                  try simp only [Act.put, List.setIfInBounds_toArray, List.set_cons_zero, List.set_cons_succ]
                  refine wpAnyH_take (i := 8) (oi := ({ dst := some 38, op := Op.fieldAddr 35 (Operand.tmp 37) 3, type := 0, pos := "l08_tests.go:188", after := #[{ on := 7, ground := Ground.data }], guard := none } : Oper)) (v := ?_) rfl (by kernel_rfl) (by kernel_rfl) (by kernel_rfl) (fun _ _ _ h => h) (Or.inl ⟨by kernel_rfl, ?_⟩) (by assumption) ?_
                  rotate_left
                  · (intro w hSw; (try dsimp only at hSw); go_simp <;> with_reducible rfl)
                  try simp only [Act.put, List.setIfInBounds_toArray, List.set_cons_zero, List.set_cons_succ]
                  refine wpAnyH_take (i := 9) (oi := ({ dst := some 39, op := Op.load 2 (Operand.tmp 38), type := 2, pos := "l08_tests.go:188", after := #[{ on := 8, ground := Ground.data }], guard := none } : Oper)) (v := ?_) rfl (by kernel_rfl) (by kernel_rfl) (by kernel_rfl) (fun _ _ _ h => h) (Or.inl ⟨by kernel_rfl, ?_⟩) (by assumption) ?_
                  rotate_left
                  · (intro w hSw; (try dsimp only at hSw); go_simp <;> with_reducible rfl)
                  try simp only [Act.put, List.setIfInBounds_toArray, List.set_cons_zero, List.set_cons_succ]
                  refine wpAnyH_take (i := 10) (oi := ({ dst := some 40, op := Op.binOp BinOp.sub 2 (Operand.tmp 34) (Operand.tmp 39) 2, type := 2, pos := "l08_tests.go:188", after := #[{ on := 4, ground := Ground.data }, { on := 9, ground := Ground.data }], guard := none } : Oper)) (v := ?_) rfl (by kernel_rfl) (by kernel_rfl) (by kernel_rfl) (fun _ _ _ h => h) (Or.inl ⟨by kernel_rfl, ?_⟩) (by assumption) ?_
                  rotate_left
                  · (intro w hSw; (try dsimp only at hSw); go_simp <;> with_reducible rfl)
                  try simp only [Act.put, List.setIfInBounds_toArray, List.set_cons_zero, List.set_cons_succ]
                  refine wpAnyH_take (i := 12) (oi := ({ dst := some 42, op := Op.move (Operand.tmp 1), type := 2, pos := "l08_tests.go:188", after := #[], guard := none } : Oper)) (v := ?_) rfl (by kernel_rfl) (by kernel_rfl) (by kernel_rfl) (fun _ _ _ h => h) (Or.inl ⟨by kernel_rfl, ?_⟩) (by assumption) ?_
                  rotate_left
                  · (intro w hSw; (try dsimp only at hSw); go_simp <;> with_reducible rfl)
                  try simp only [Act.put, List.setIfInBounds_toArray, List.set_cons_zero, List.set_cons_succ]
                  refine wpAnyH_ready (rs := [11]) (by kernel_rfl) (by simp) ?_
                  refine AllReadyH.cons (o := ({ dst := some 41, op := Op.call { callee := Callee.value (Operand.func 71), args := #[Operand.tmp 40], argTypes := #[2] }, type := 2, pos := "l08_tests.go:188", after := #[{ on := 10, ground := Ground.data }], guard := none } : Oper)) rfl (fun K hK => ?_) ?_
                  · go_simp
                    (go_at_call 71; refine (CA.out _).mono ?_; rintro e w' ⟨rfl, rfl⟩)
                    go_wp2_with fail
                    refine hK.out _ _ ?_ (fun hHeld => ?_)
                    · (try dsimp only)
                      first | done | go_keep
                    clear hK K
                    try simp only [Act.put, List.setIfInBounds_toArray, List.set_cons_zero, List.set_cons_succ]
                    refine wpAnyH_take (i := 13) (oi := ({ dst := some 43, op := Op.binOp BinOp.leq 2 (Operand.tmp 41) (Operand.tmp 42) 2, type := 4, pos := "l08_tests.go:188", after := #[{ on := 11, ground := Ground.data }, { on := 12, ground := Ground.data }], guard := none } : Oper)) (v := ?_) rfl (by kernel_rfl) (by kernel_rfl) (by kernel_rfl) (fun _ _ _ h => h) (Or.inl ⟨by kernel_rfl, ?_⟩) (by assumption) ?_
                    rotate_left
                    · (intro w hSw; (try dsimp only at hSw); go_simp <;> with_reducible rfl)
                    try simp only [Act.put, List.setIfInBounds_toArray, List.set_cons_zero, List.set_cons_succ]
                    refine wpAnyH_take (i := 14) (oi := ({ dst := some 44, op := Op.move (Operand.tmp 43), type := 4, pos := "l08_tests.go:188", after := #[{ on := 13, ground := Ground.data }, { on := 11, ground := Ground.chain }], guard := none } : Oper)) (v := ?_) rfl (by kernel_rfl) (by kernel_rfl) (by kernel_rfl) (fun _ _ _ h => h) (Or.inl ⟨by kernel_rfl, ?_⟩) (by assumption) ?_
                    rotate_left
                    · (intro w hSw; (try dsimp only at hSw); go_simp <;> with_reducible rfl)
                    try simp only [Act.put, List.setIfInBounds_toArray, List.set_cons_zero, List.set_cons_succ]
                    refine wpAnyH_take (i := 15) (oi := ({ dst := some 45, op := Op.move (Operand.tmp 0), type := 27, pos := "l08_tests.go:188", after := #[{ on := 14, ground := Ground.guard }], guard := some (14, true) } : Oper)) (v := ?_) rfl (by kernel_rfl) (by kernel_rfl) (by kernel_rfl) (fun _ _ _ h => h) (Or.inl ⟨by kernel_rfl, ?_⟩) (by assumption) ?_
                    rotate_left
                    · (intro w hSw; (try dsimp only at hSw); go_simp <;> with_reducible rfl)
                    try simp only [Act.put, List.setIfInBounds_toArray, List.set_cons_zero, List.set_cons_succ]
                    refine wpAnyH_take (i := 16) (oi := ({ dst := some 46, op := Op.move (Operand.tmp 7), type := 3, pos := "l08_tests.go:188", after := #[{ on := 14, ground := Ground.guard }], guard := some (14, true) } : Oper)) (v := ?_) rfl (by kernel_rfl) (by kernel_rfl) (by kernel_rfl) (fun _ _ _ h => h) (Or.inl ⟨by kernel_rfl, ?_⟩) (by assumption) ?_
                    rotate_left
                    · (intro w hSw; (try dsimp only at hSw); go_simp <;> with_reducible rfl)
                    try simp only [Act.put, List.setIfInBounds_toArray, List.set_cons_zero, List.set_cons_succ]
                    refine wpAnyH_take (i := 17) (oi := ({ dst := some 47, op := Op.indexAddr 27 (Operand.tmp 45) (Operand.tmp 46), type := 0, pos := "l08_tests.go:188", after := #[{ on := 15, ground := Ground.data }, { on := 16, ground := Ground.data }, { on := 14, ground := Ground.guard }], guard := some (14, true) } : Oper)) (v := ?_) rfl (by kernel_rfl) (by kernel_rfl) (by kernel_rfl) (fun _ _ _ h => h) (Or.inl ⟨by kernel_rfl, ?_⟩) (by assumption) ?_
                    rotate_left
                    · (intro w hSw; (try dsimp only at hSw); go_simp <;> with_reducible rfl)
                    try simp only [Act.put, List.setIfInBounds_toArray, List.set_cons_zero, List.set_cons_succ]
                    refine wpAnyH_take (i := 19) (oi := ({ dst := some 49, op := Op.move (Operand.tmp 0), type := 27, pos := "l08_tests.go:188", after := #[{ on := 14, ground := Ground.guard }], guard := some (14, true) } : Oper)) (v := ?_) rfl (by kernel_rfl) (by kernel_rfl) (by kernel_rfl) (fun _ _ _ h => h) (Or.inl ⟨by kernel_rfl, ?_⟩) (by assumption) ?_
                    rotate_left
                    · (intro w hSw; (try dsimp only at hSw); go_simp <;> with_reducible rfl)
                    try simp only [Act.put, List.setIfInBounds_toArray, List.set_cons_zero, List.set_cons_succ]
                    refine wpAnyH_take (i := 20) (oi := ({ dst := some 50, op := Op.move (Operand.tmp 8), type := 3, pos := "l08_tests.go:188", after := #[{ on := 14, ground := Ground.guard }], guard := some (14, true) } : Oper)) (v := ?_) rfl (by kernel_rfl) (by kernel_rfl) (by kernel_rfl) (fun _ _ _ h => h) (Or.inl ⟨by kernel_rfl, ?_⟩) (by assumption) ?_
                    rotate_left
                    · (intro w hSw; (try dsimp only at hSw); go_simp <;> with_reducible rfl)
                    try simp only [Act.put, List.setIfInBounds_toArray, List.set_cons_zero, List.set_cons_succ]
                    refine wpAnyH_take (i := 21) (oi := ({ dst := some 51, op := Op.indexAddr 27 (Operand.tmp 49) (Operand.tmp 50), type := 0, pos := "l08_tests.go:188", after := #[{ on := 19, ground := Ground.data }, { on := 20, ground := Ground.data }, { on := 14, ground := Ground.guard }], guard := some (14, true) } : Oper)) (v := ?_) rfl (by kernel_rfl) (by kernel_rfl) (by kernel_rfl) (fun _ _ _ h => h) (Or.inl ⟨by kernel_rfl, ?_⟩) (by assumption) ?_
                    rotate_left
                    · (intro w hSw; (try dsimp only at hSw); go_simp <;> with_reducible rfl)
                    try simp only [Act.put, List.setIfInBounds_toArray, List.set_cons_zero, List.set_cons_succ]
                    refine wpAnyH_ready (rs := [18]) (by kernel_rfl) (by simp) ?_
                    refine AllReadyH.cons (o := ({ dst := some 48, op := Op.call { callee := Callee.value (Operand.func 54), args := #[Operand.tmp 47], argTypes := #[66] }, type := 2, pos := "l08_tests.go:188", after := #[{ on := 17, ground := Ground.data }, { on := 14, ground := Ground.chain }, { on := 14, ground := Ground.guard }], guard := some (14, true) } : Oper)) rfl (fun K hK => ?_) ?_
                    · go_simp
                      (go_at_call 54; refine (CI.out _ (below_drewW _ 1)).mono ?_; rintro e wA ⟨rfl, bA⟩; have bA0 := bt (below_drewW _ 1) bA; obtain ⟨z3, y3⟩ := KA.out wA bA0)
                      go_wp2_with fail
                      refine hK.out _ _ ?_ (fun hHeld => ?_)
                      · (try dsimp only)
                        first | done | go_keep
                      clear hK K
                      try simp only [Act.put, List.setIfInBounds_toArray, List.set_cons_zero, List.set_cons_succ]
                      refine wpAnyH_ready (rs := [22]) (by kernel_rfl) (by simp) ?_
                      refine AllReadyH.cons (o := ({ dst := some 52, op := Op.call { callee := Callee.value (Operand.func 54), args := #[Operand.tmp 51], argTypes := #[66] }, type := 2, pos := "l08_tests.go:188", after := #[{ on := 21, ground := Ground.data }, { on := 18, ground := Ground.chain }, { on := 14, ground := Ground.guard }], guard := some (14, true) } : Oper)) rfl (fun K hK => ?_) ?_
                      · go_simp
                        (go_at_call 54; refine (CK.out _ bA0).mono ?_; rintro e wB ⟨rfl, bB⟩; have bB0 := bt bA0 bB; obtain ⟨q3, p3⟩ := KA.out wB bB0)
                        go_wp2_with fail
                        refine hK.out _ _ ?_ (fun hHeld => ?_)
                        · (try dsimp only)
                          first | done | go_keep
                        clear hK K
                        try simp only [Act.put, List.setIfInBounds_toArray, List.set_cons_zero, List.set_cons_succ]
                        refine wpAnyH_take (i := 23) (oi := ({ dst := some 53, op := Op.binOp BinOp.sub 2 (Operand.tmp 48) (Operand.tmp 52) 2, type := 2, pos := "l08_tests.go:188", after := #[{ on := 18, ground := Ground.data }, { on := 22, ground := Ground.data }, { on := 14, ground := Ground.guard }], guard := some (14, true) } : Oper)) (v := ?_) rfl (by kernel_rfl) (by kernel_rfl) (by kernel_rfl) (fun _ _ _ h => h) (Or.inl ⟨by kernel_rfl, ?_⟩) (by assumption) ?_
                        rotate_left
                        · (intro w hSw; (try dsimp only at hSw); go_simp <;> with_reducible rfl)
                        try simp only [Act.put, List.setIfInBounds_toArray, List.set_cons_zero, List.set_cons_succ]
                        refine wpAnyH_ready (rs := [24]) (by kernel_rfl) (by simp) ?_
                        refine AllReadyH.cons (o := ({ dst := some 54, op := Op.call { callee := Callee.value (Operand.func 71), args := #[Operand.tmp 53], argTypes := #[2] }, type := 2, pos := "l08_tests.go:188", after := #[{ on := 23, ground := Ground.data }, { on := 22, ground := Ground.chain }, { on := 14, ground := Ground.guard }], guard := some (14, true) } : Oper)) rfl (fun K hK => ?_) ?_
                        · go_simp
                          (go_at_call 71; refine (CD.out _).mono ?_; rintro e w' ⟨rfl, rfl⟩)
                          go_wp2_with fail
                          refine hK.out _ _ ?_ (fun hHeld => ?_)
                          · (try dsimp only)
                            first | done | go_keep
                          clear hK K
                          try simp only [Act.put, List.setIfInBounds_toArray, List.set_cons_zero, List.set_cons_succ]
                          refine wpAnyH_take (i := 25) (oi := ({ dst := some 55, op := Op.binOp BinOp.geq 2 (Operand.tmp 54) (Operand.const (Value.int IntKind.i64 2)) 2, type := 4, pos := "l08_tests.go:188", after := #[{ on := 24, ground := Ground.data }, { on := 14, ground := Ground.guard }], guard := some (14, true) } : Oper)) (v := ?_) rfl (by kernel_rfl) (by kernel_rfl) (by kernel_rfl) (fun _ _ _ h => h) (Or.inl ⟨by kernel_rfl, ?_⟩) (by assumption) ?_
                          rotate_left
                          · (intro w hSw; (try dsimp only at hSw); go_simp <;> with_reducible rfl)
                          try simp only [Act.put, List.setIfInBounds_toArray, List.set_cons_zero, List.set_cons_succ]
                          refine wpAnyH_take (i := 26) (oi := ({ dst := some 56, op := Op.pick (Operand.tmp 44) (Operand.tmp 55) (Operand.const (Value.bool false)), type := 4, pos := "l08_tests.go:188", after := #[{ on := 14, ground := Ground.data }, { on := 25, ground := Ground.data }], guard := none } : Oper)) (v := ?_) rfl (by kernel_rfl) (by kernel_rfl) (by kernel_rfl) (fun _ _ _ h => h) (Or.inl ⟨by kernel_rfl, ?_⟩) (by assumption) ?_
                          rotate_left
                          · (intro w hSw; (try dsimp only at hSw); go_simp <;> with_reducible rfl)
                          try simp only [Act.put, List.setIfInBounds_toArray, List.set_cons_zero, List.set_cons_succ]
                          refine wpAnyH_done (by kernel_rfl) ?_ _
                          have HQ := Lib.hid bB0
                          go_wp2_with fail
                          exact ⟨⟨k + 1, L, by omega, by omega, by go_num, hidOSS hX HQ.out, Lib.hid (by rw [hs.out]; exact hN.out), Lib.hid (bt hbk.out HQ.out)⟩, by simp only [intOf]; omega⟩
                        exact AllReadyH.nil
                      exact AllReadyH.nil
                    exact AllReadyH.nil
                  exact AllReadyH.nil
                | true =>
                  have hs : Hid (Tq.pk n xs i (k + 1) = Tq.pk n xs i k ++ [[(i : Int), (k : Int)]]) := Lib.hid (Tq.pk_yes (by omega) hlk (by unfold Tq.cb; rw [hr, hcc2]; rfl))
                  have hLl : L.length ≤ 300 := by
                    have h1 := congrArg List.length hN.out
                    have h2 := Tq.pa_16 (n := n) (i := i) h16.out (by omega)
                    have h3 := (Tq.pk_len n xs i k).1
                    have h4 := h16.out
                    rw [List.length_map, List.length_append] at h1
                    omega
                  clear hr
                  generalize Ar.ab (xs[k].de - xs[i].de) = ad at *
                  generalize Ar.ab (Tq.cls xs[k] - Tq.cls xs[i]) = ac at *
                  generalize Tq.cls xs[i] = ci at *
                  generalize Tq.cls xs[k] = ck at *
                  generalize xs[i].de = di at *
                  generalize xs[k].de = dk at *
                  go_wp2_with fail
                  refine wp_region_held_drew (S := (fun w' => w'.cell? ⟨b, off + i * 5 + 3, none⟩ = some (.int .i64 di) ∧ w'.cell? ⟨b, off + k * 5 + 3, none⟩ = some (.int .i64 dk))) (by kernel_rfl) ?_ (fun hHeld => ?_)
                  · (try dsimp only)
                    first | done | go_keep
                  refine wpAnyH_take (i := 0) (oi := ({ dst := some 30, op := Op.move (Operand.tmp 0), type := 27, pos := "l08_tests.go:188", after := #[], guard := none } : Oper)) (v := ?_) rfl (by kernel_rfl) (by kernel_rfl) (by kernel_rfl) (fun _ _ _ h => h) (Or.inl ⟨by kernel_rfl, ?_⟩) (by assumption) ?_
                  rotate_left
                  · (intro w hSw; (try dsimp only at hSw); go_simp <;> with_reducible rfl)
                  try simp only [Act.put, List.setIfInBounds_toArray, List.set_cons_zero, List.set_cons_succ]
                  refine wpAnyH_take (i := 1) (oi := ({ dst := some 31, op := Op.move (Operand.tmp 7), type := 3, pos := "l08_tests.go:188", after := #[], guard := none } : Oper)) (v := ?_) rfl (by kernel_rfl) (by kernel_rfl) (by kernel_rfl) (fun _ _ _ h => h) (Or.inl ⟨by kernel_rfl, ?_⟩) (by assumption) ?_
                  rotate_left
                  · (intro w hSw; (try dsimp only at hSw); go_simp <;> with_reducible rfl)
                  try simp only [Act.put, List.setIfInBounds_toArray, List.set_cons_zero, List.set_cons_succ]
                  refine wpAnyH_take (i := 2) (oi := ({ dst := some 32, op := Op.indexAddr 27 (Operand.tmp 30) (Operand.tmp 31), type := 0, pos := "l08_tests.go:188", after := #[{ on := 0, ground := Ground.data }, { on := 1, ground := Ground.data }], guard := none } : Oper)) (v := ?_) rfl (by kernel_rfl) (by kernel_rfl) (by kernel_rfl) (fun _ _ _ h => h) (Or.inl ⟨by kernel_rfl, ?_⟩) (by assumption) ?_
                  rotate_left
                  · (intro w hSw; (try dsimp only at hSw); go_simp <;> with_reducible rfl)
                  try simp only [Act.put, List.setIfInBounds_toArray, List.set_cons_zero, List.set_cons_succ]
                  refine wpAnyH_take (i := 3) (oi := ({ dst := some 33, op := Op.fieldAddr 35 (Operand.tmp 32) 3, type := 0, pos := "l08_tests.go:188", after := #[{ on := 2, ground := Ground.data }], guard := none } : Oper)) (v := ?_) rfl (by kernel_rfl) (by kernel_rfl) (by kernel_rfl) (fun _ _ _ h => h) (Or.inl ⟨by kernel_rfl, ?_⟩) (by assumption) ?_
                  rotate_left
                  · (intro w hSw; (try dsimp only at hSw); go_simp <;> with_reducible rfl)
                  try simp only [Act.put, List.setIfInBounds_toArray, List.set_cons_zero, List.set_cons_succ]
                  refine wpAnyH_take (i := 4) (oi := ({ dst := some 34, op := Op.load 2 (Operand.tmp 33), type := 2, pos := "l08_tests.go:188", after := #[{ on := 3, ground := Ground.data }], guard := none } : Oper)) (v := ?_) rfl (by kernel_rfl) (by kernel_rfl) (by kernel_rfl) (fun _ _ _ h => h) (Or.inl ⟨by kernel_rfl, ?_⟩) (by assumption) ?_
                  rotate_left
                  · (intro w hSw; (try dsimp only at hSw); go_simp <;> with_reducible rfl)
                  try simp only [Act.put, List.setIfInBounds_toArray, List.set_cons_zero, List.set_cons_succ]
                  refine wpAnyH_take (i := 5) (oi := ({ dst := some 35, op := Op.move (Operand.tmp 0), type := 27, pos := "l08_tests.go:188", after := #[], guard := none } : Oper)) (v := ?_) rfl (by kernel_rfl) (by kernel_rfl) (by kernel_rfl) (fun _ _ _ h => h) (Or.inl ⟨by kernel_rfl, ?_⟩) (by assumption) ?_
                  rotate_left
                  · (intro w hSw; (try dsimp only at hSw); go_simp <;> with_reducible rfl)
                  try simp only [Act.put, List.setIfInBounds_toArray, List.set_cons_zero, List.set_cons_succ]
                  refine wpAnyH_take (i := 6) (oi := ({ dst := some 36, op := Op.move (Operand.tmp 8), type := 3, pos := "l08_tests.go:188", after := #[], guard := none } : Oper)) (v := ?_) rfl (by kernel_rfl) (by kernel_rfl) (by kernel_rfl) (fun _ _ _ h => h) (Or.inl ⟨by kernel_rfl, ?_⟩) (by assumption) ?_
                  rotate_left
                  · (intro w hSw; (try dsimp only at hSw); go_simp <;> with_reducible rfl)
                  try simp only [Act.put, List.setIfInBounds_toArray, List.set_cons_zero, List.set_cons_succ]
                  refine wpAnyH_take (i := 7) (oi := ({ dst := some 37, op := Op.indexAddr 27 (Operand.tmp 35) (Operand.tmp 36), type := 0, pos := "l08_tests.go:188", after := #[{ on := 5, ground := Ground.data }, { on := 6, ground := Ground.data }], guard := none } : Oper)) (v := ?_) rfl (by kernel_rfl) (by kernel_rfl) (by kernel_rfl) (fun _ _ _ h => h) (Or.inl ⟨by kernel_rfl, ?_⟩) (by assumption) ?_
                  rotate_left
                  · (intro w hSw; (try dsimp only at hSw); go_simp <;> with_reducible rfl)
                  try simp only [Act.put, List.setIfInBounds_toArray, List.set_cons_zero, List.set_cons_succ]
                  refine wpAnyH_take (i := 8) (oi := ({ dst := some 38, op := Op.fieldAddr 35 (Operand.tmp 37) 3, type := 0, pos := "l08_tests.go:188", after := #[{ on := 7, ground := Ground.data }], guard := none } : Oper)) (v := ?_) rfl (by kernel_rfl) (by kernel_rfl) (by kernel_rfl) (fun _ _ _ h => h) (Or.inl ⟨by kernel_rfl, ?_⟩) (by assumption) ?_
                  rotate_left
                  · (intro w hSw; (try dsimp only at hSw); go_simp <;> with_reducible rfl)
                  try simp only [Act.put, List.setIfInBounds_toArray, List.set_cons_zero, List.set_cons_succ]
                  refine wpAnyH_take (i := 9) (oi := ({ dst := some 39, op := Op.load 2 (Operand.tmp 38), type := 2, pos := "l08_tests.go:188", after := #[{ on := 8, ground := Ground.data }], guard := none } : Oper)) (v := ?_) rfl (by kernel_rfl) (by kernel_rfl) (by kernel_rfl) (fun _ _ _ h => h) (Or.inl ⟨by kernel_rfl, ?_⟩) (by assumption) ?_
                  rotate_left
                  · (intro w hSw; (try dsimp only at hSw); go_simp <;> with_reducible rfl)
                  try simp only [Act.put, List.setIfInBounds_toArray, List.set_cons_zero, List.set_cons_succ]
                  refine wpAnyH_take (i := 10) (oi := ({ dst := some 40, op := Op.binOp BinOp.sub 2 (Operand.tmp 34) (Operand.tmp 39) 2, type := 2, pos := "l08_tests.go:188", after := #[{ on := 4, ground := Ground.data }, { on := 9, ground := Ground.data }], guard := none } : Oper)) (v := ?_) rfl (by kernel_rfl) (by kernel_rfl) (by kernel_rfl) (fun _ _ _ h => h) (Or.inl ⟨by kernel_rfl, ?_⟩) (by assumption) ?_
                  rotate_left
                  · (intro w hSw; (try dsimp only at hSw); go_simp <;> with_reducible rfl)
                  try simp only [Act.put, List.setIfInBounds_toArray, List.set_cons_zero, List.set_cons_succ]
                  refine wpAnyH_take (i := 12) (oi := ({ dst := some 42, op := Op.move (Operand.tmp 1), type := 2, pos := "l08_tests.go:188", after := #[], guard := none } : Oper)) (v := ?_) rfl (by kernel_rfl) (by kernel_rfl) (by kernel_rfl) (fun _ _ _ h => h) (Or.inl ⟨by kernel_rfl, ?_⟩) (by assumption) ?_
                  rotate_left
                  · (intro w hSw; (try dsimp only at hSw); go_simp <;> with_reducible rfl)
                  try simp only [Act.put, List.setIfInBounds_toArray, List.set_cons_zero, List.set_cons_succ]
                  refine wpAnyH_ready (rs := [11]) (by kernel_rfl) (by simp) ?_
                  refine AllReadyH.cons (o := ({ dst := some 41, op := Op.call { callee := Callee.value (Operand.func 71), args := #[Operand.tmp 40], argTypes := #[2] }, type := 2, pos := "l08_tests.go:188", after := #[{ on := 10, ground := Ground.data }], guard := none } : Oper)) rfl (fun K hK => ?_) ?_
                  · go_simp
                    (go_at_call 71; refine (CA.out _).mono ?_; rintro e w' ⟨rfl, rfl⟩)
                    go_wp2_with fail
                    refine hK.out _ _ ?_ (fun hHeld => ?_)
                    · (try dsimp only)
                      first | done | go_keep
                    clear hK K
                    try simp only [Act.put, List.setIfInBounds_toArray, List.set_cons_zero, List.set_cons_succ]
                    refine wpAnyH_take (i := 13) (oi := ({ dst := some 43, op := Op.binOp BinOp.leq 2 (Operand.tmp 41) (Operand.tmp 42) 2, type := 4, pos := "l08_tests.go:188", after := #[{ on := 11, ground := Ground.data }, { on := 12, ground := Ground.data }], guard := none } : Oper)) (v := ?_) rfl (by kernel_rfl) (by kernel_rfl) (by kernel_rfl) (fun _ _ _ h => h) (Or.inl ⟨by kernel_rfl, ?_⟩) (by assumption) ?_
                    rotate_left
                    · (intro w hSw; (try dsimp only at hSw); go_simp <;> with_reducible rfl)
                    try simp only [Act.put, List.setIfInBounds_toArray, List.set_cons_zero, List.set_cons_succ]
                    refine wpAnyH_take (i := 14) (oi := ({ dst := some 44, op := Op.move (Operand.tmp 43), type := 4, pos := "l08_tests.go:188", after := #[{ on := 13, ground := Ground.data }, { on := 11, ground := Ground.chain }], guard := none } : Oper)) (v := ?_) rfl (by kernel_rfl) (by kernel_rfl) (by kernel_rfl) (fun _ _ _ h => h) (Or.inl ⟨by kernel_rfl, ?_⟩) (by assumption) ?_
                    rotate_left
                    · (intro w hSw; (try dsimp only at hSw); go_simp <;> with_reducible rfl)
                    try simp only [Act.put, List.setIfInBounds_toArray, List.set_cons_zero, List.set_cons_succ]
                    refine wpAnyH_take (i := 15) (oi := ({ dst := some 45, op := Op.move (Operand.tmp 0), type := 27, pos := "l08_tests.go:188", after := #[{ on := 14, ground := Ground.guard }], guard := some (14, true) } : Oper)) (v := ?_) rfl (by kernel_rfl) (by kernel_rfl) (by kernel_rfl) (fun _ _ _ h => h) (Or.inl ⟨by kernel_rfl, ?_⟩) (by assumption) ?_
                    rotate_left
                    · (intro w hSw; (try dsimp only at hSw); go_simp <;> with_reducible rfl)
                    try simp only [Act.put, List.setIfInBounds_toArray, List.set_cons_zero, List.set_cons_succ]
                    refine wpAnyH_take (i := 16) (oi := ({ dst := some 46, op := Op.move (Operand.tmp 7), type := 3, pos := "l08_tests.go:188", after := #[{ on := 14, ground := Ground.guard }], guard := some (14, true) } : Oper)) (v := ?_) rfl (by kernel_rfl) (by kernel_rfl) (by kernel_rfl) (fun _ _ _ h => h) (Or.inl ⟨by kernel_rfl, ?_⟩) (by assumption) ?_
                    rotate_left
                    · (intro w hSw; (try dsimp only at hSw); go_simp <;> with_reducible rfl)
                    try simp only [Act.put, List.setIfInBounds_toArray, List.set_cons_zero, List.set_cons_succ]
                    refine wpAnyH_take (i := 17) (oi := ({ dst := some 47, op := Op.indexAddr 27 (Operand.tmp 45) (Operand.tmp 46), type := 0, pos := "l08_tests.go:188", after := #[{ on := 15, ground := Ground.data }, { on := 16, ground := Ground.data }, { on := 14, ground := Ground.guard }], guard := some (14, true) } : Oper)) (v := ?_) rfl (by kernel_rfl) (by kernel_rfl) (by kernel_rfl) (fun _ _ _ h => h) (Or.inl ⟨by kernel_rfl, ?_⟩) (by assumption) ?_
                    rotate_left
                    · (intro w hSw; (try dsimp only at hSw); go_simp <;> with_reducible rfl)
                    try simp only [Act.put, List.setIfInBounds_toArray, List.set_cons_zero, List.set_cons_succ]
                    refine wpAnyH_take (i := 19) (oi := ({ dst := some 49, op := Op.move (Operand.tmp 0), type := 27, pos := "l08_tests.go:188", after := #[{ on := 14, ground := Ground.guard }], guard := some (14, true) } : Oper)) (v := ?_) rfl (by kernel_rfl) (by kernel_rfl) (by kernel_rfl) (fun _ _ _ h => h) (Or.inl ⟨by kernel_rfl, ?_⟩) (by assumption) ?_
                    rotate_left
                    · (intro w hSw; (try dsimp only at hSw); go_simp <;> with_reducible rfl)
                    try simp only [Act.put, List.setIfInBounds_toArray, List.set_cons_zero, List.set_cons_succ]
                    refine wpAnyH_take (i := 20) (oi := ({ dst := some 50, op := Op.move (Operand.tmp 8), type := 3, pos := "l08_tests.go:188", after := #[{ on := 14, ground := Ground.guard }], guard := some (14, true) } : Oper)) (v := ?_) rfl (by kernel_rfl) (by kernel_rfl) (by kernel_rfl) (fun _ _ _ h => h) (Or.inl ⟨by kernel_rfl, ?_⟩) (by assumption) ?_
                    rotate_left
                    · (intro w hSw; (try dsimp only at hSw); go_simp <;> with_reducible rfl)
                    try simp only [Act.put, List.setIfInBounds_toArray, List.set_cons_zero, List.set_cons_succ]
                    refine wpAnyH_take (i := 21) (oi := ({ dst := some 51, op := Op.indexAddr 27 (Operand.tmp 49) (Operand.tmp 50), type := 0, pos := "l08_tests.go:188", after := #[{ on := 19, ground := Ground.data }, { on := 20, ground := Ground.data }, { on := 14, ground := Ground.guard }], guard := some (14, true) } : Oper)) (v := ?_) rfl (by kernel_rfl) (by kernel_rfl) (by kernel_rfl) (fun _ _ _ h => h) (Or.inl ⟨by kernel_rfl, ?_⟩) (by assumption) ?_
                    rotate_left
                    · (intro w hSw; (try dsimp only at hSw); go_simp <;> with_reducible rfl)
                    try simp only [Act.put, List.setIfInBounds_toArray, List.set_cons_zero, List.set_cons_succ]
                    refine wpAnyH_ready (rs := [18]) (by kernel_rfl) (by simp) ?_
                    refine AllReadyH.cons (o := ({ dst := some 48, op := Op.call { callee := Callee.value (Operand.func 54), args := #[Operand.tmp 47], argTypes := #[66] }, type := 2, pos := "l08_tests.go:188", after := #[{ on := 17, ground := Ground.data }, { on := 14, ground := Ground.chain }, { on := 14, ground := Ground.guard }], guard := some (14, true) } : Oper)) rfl (fun K hK => ?_) ?_
                    · go_simp
                      (go_at_call 54; refine (CI.out _ (below_drewW _ 1)).mono ?_; rintro e wA ⟨rfl, bA⟩; have bA0 := bt (below_drewW _ 1) bA; obtain ⟨z3, y3⟩ := KA.out wA bA0)
                      go_wp2_with fail
                      refine hK.out _ _ ?_ (fun hHeld => ?_)
                      · (try dsimp only)
                        first | done | go_keep
                      clear hK K
                      try simp only [Act.put, List.setIfInBounds_toArray, List.set_cons_zero, List.set_cons_succ]
                      refine wpAnyH_ready (rs := [22]) (by kernel_rfl) (by simp) ?_
                      refine AllReadyH.cons (o := ({ dst := some 52, op := Op.call { callee := Callee.value (Operand.func 54), args := #[Operand.tmp 51], argTypes := #[66] }, type := 2, pos := "l08_tests.go:188", after := #[{ on := 21, ground := Ground.data }, { on := 18, ground := Ground.chain }, { on := 14, ground := Ground.guard }], guard := some (14, true) } : Oper)) rfl (fun K hK => ?_) ?_
                      · go_simp
                        (go_at_call 54; refine (CK.out _ bA0).mono ?_; rintro e wB ⟨rfl, bB⟩; have bB0 := bt bA0 bB; obtain ⟨q3, p3⟩ := KA.out wB bB0)
                        go_wp2_with fail
                        refine hK.out _ _ ?_ (fun hHeld => ?_)
                        · (try dsimp only)
                          first | done | go_keep
                        clear hK K
                        try simp only [Act.put, List.setIfInBounds_toArray, List.set_cons_zero, List.set_cons_succ]
                        refine wpAnyH_take (i := 23) (oi := ({ dst := some 53, op := Op.binOp BinOp.sub 2 (Operand.tmp 48) (Operand.tmp 52) 2, type := 2, pos := "l08_tests.go:188", after := #[{ on := 18, ground := Ground.data }, { on := 22, ground := Ground.data }, { on := 14, ground := Ground.guard }], guard := some (14, true) } : Oper)) (v := ?_) rfl (by kernel_rfl) (by kernel_rfl) (by kernel_rfl) (fun _ _ _ h => h) (Or.inl ⟨by kernel_rfl, ?_⟩) (by assumption) ?_
                        rotate_left
                        · (intro w hSw; (try dsimp only at hSw); go_simp <;> with_reducible rfl)
                        try simp only [Act.put, List.setIfInBounds_toArray, List.set_cons_zero, List.set_cons_succ]
                        refine wpAnyH_ready (rs := [24]) (by kernel_rfl) (by simp) ?_
                        refine AllReadyH.cons (o := ({ dst := some 54, op := Op.call { callee := Callee.value (Operand.func 71), args := #[Operand.tmp 53], argTypes := #[2] }, type := 2, pos := "l08_tests.go:188", after := #[{ on := 23, ground := Ground.data }, { on := 22, ground := Ground.chain }, { on := 14, ground := Ground.guard }], guard := some (14, true) } : Oper)) rfl (fun K hK => ?_) ?_
                        · go_simp
                          (go_at_call 71; refine (CD.out _).mono ?_; rintro e w' ⟨rfl, rfl⟩)
                          go_wp2_with fail
                          refine hK.out _ _ ?_ (fun hHeld => ?_)
                          · (try dsimp only)
                            first | done | go_keep
                          clear hK K
                          try simp only [Act.put, List.setIfInBounds_toArray, List.set_cons_zero, List.set_cons_succ]
                          refine wpAnyH_take (i := 25) (oi := ({ dst := some 55, op := Op.binOp BinOp.geq 2 (Operand.tmp 54) (Operand.const (Value.int IntKind.i64 2)) 2, type := 4, pos := "l08_tests.go:188", after := #[{ on := 24, ground := Ground.data }, { on := 14, ground := Ground.guard }], guard := some (14, true) } : Oper)) (v := ?_) rfl (by kernel_rfl) (by kernel_rfl) (by kernel_rfl) (fun _ _ _ h => h) (Or.inl ⟨by kernel_rfl, ?_⟩) (by assumption) ?_
                          rotate_left
                          · (intro w hSw; (try dsimp only at hSw); go_simp <;> with_reducible rfl)
                          try simp only [Act.put, List.setIfInBounds_toArray, List.set_cons_zero, List.set_cons_succ]
                          refine wpAnyH_take (i := 26) (oi := ({ dst := some 56, op := Op.pick (Operand.tmp 44) (Operand.tmp 55) (Operand.const (Value.bool false)), type := 4, pos := "l08_tests.go:188", after := #[{ on := 14, ground := Ground.data }, { on := 25, ground := Ground.data }], guard := none } : Oper)) (v := ?_) rfl (by kernel_rfl) (by kernel_rfl) (by kernel_rfl) (fun _ _ _ h => h) (Or.inl ⟨by kernel_rfl, ?_⟩) (by assumption) ?_
                          rotate_left
                          · (intro w hSw; (try dsimp only at hSw); go_simp <;> with_reducible rfl)
                          try simp only [Act.put, List.setIfInBounds_toArray, List.set_cons_zero, List.set_cons_succ]
                          refine wpAnyH_done (by kernel_rfl) ?_ _
                          have HQ := Lib.hid bB0
                          have X4 := hidOSS hX HQ.out
                          have B4 := Lib.hid (bt hbk.out HQ.out)
                          clear bA bA0 bB bB0 hX hbk
                          go_wp2_with (at_builtin; refine wpList_append_own _ rfl _ _ 51 rfl w.heap.size 41 i0 (.slice none 0 0) 1 24 Tryd.underlying51 hi hz0 hz1 hz2 rfl (by decide) _ _ _ rfl (own_belowAll X4.out.outer (((Below.refl _ _).alloc (Nat.le_refl _) _).alloc (by simp) _)) ⟨wB.heap.size + 1, 0, none⟩ 1 1 [.slice (some ⟨wB.heap.size, 0, none⟩) 2 2] rfl rfl (row_new1 _ _ [_] _) (one_slice _ _ _) ?c3 ?c4 ?c5 ?_)
                          case c3 => unfold maxLen; omega
                          case c4 => omega
                          case c5 => have := B4.out.size; first | omega | (simp; omega)
                          intro v' w3 hown' hgrow _
                          obtain ⟨o5, b5⟩ := X4.out.pair B4.out.size hown' hgrow
                          have X5 := Lib.hid o5
                          have B5 := Lib.hid (B4.out.trans b5)
                          clear hown' hgrow o5 b5 X4 B4
                          go_wp2
                          exact ⟨⟨k + 1, _, by omega, by omega, by go_num, X5, Lib.hid (by rw [hs.out, List.map_append, hN.out, List.append_assoc]; rfl), B5⟩, by simp only [intOf]; omega⟩
                        exact AllReadyH.nil
                      exact AllReadyH.nil
                    exact AllReadyH.nil
                  exact AllReadyH.nil
            · have hlkz : ¬ (k : Int) < (xs.length : Int) := by omega
              have hkn : k = xs.length := by omega
              have hn2 : Hid (L.map (·.2.2) = Tq.pa n xs (i + 1)) := Lib.hid (by rw [hN.out, hkn]; rfl)
              clear hkn
              go_wp2_with fail
              exact ⟨⟨i + 1, L, by omega, by go_num, hX, hn2, hbk⟩, by simp only [intOf]; omega⟩
        · have hltz : ¬ (i : Int) < (xs.length : Int) := by omega
          have hin : i = xs.length := by omega
          subst hin
          go_wp2
          exact bodyPost_ret (by simp [results, Tryd.results39, go_sem]) rfl ⟨_, rfl, ⟨L0, hX0.out, hN0.out⟩, hb.out⟩
end Go.Proofs.YteileaeeiejonaaDoor
