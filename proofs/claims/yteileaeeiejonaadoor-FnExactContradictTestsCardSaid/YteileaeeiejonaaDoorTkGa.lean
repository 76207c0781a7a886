/-
  The depth of the weakest layer, by the model. No condition of its own.
-/
import Derived.Test.YteileaeeiejonaaDoorTkG
import Derived.Test.YteileaeeiejonaaDoorTkF
import Derived.Deep.RegionHeld3
namespace Go.Proofs.YteileaeeiejonaaDoor
open Go.RowKit Go.Shelf Go.Deep
set_option linter.unusedVariables false
set_option maxRecDepth 100000

set_option maxHeartbeats 800000 in
theorem l04AbsT_any (a : Int) (w : World) (h1 : -1000000000000000 ≤ a) (h2 : a ≤ 1000000000000000) :
    Calls Tryd.prog 71 #[.int .i64 a] w fun e w' => e = .returned (.int .i64 (Ar.ab a)) ∧ w = w' := by
  go_enter Tryd.func71, Tryd.ntmps71
  go_wp2
  all_goals
    go_ret
    exact ⟨ret_int (by unfold Ar.ab; split <;> omega), rfl⟩
set_option maxHeartbeats 6400000 in
theorem specWeakDepth_any (w : World) (v : Value) (xs : List Tst) (n : Int) (hv : TeSl w v xs) (hl : xs.length ≤ 1048576) :
    Calls Tryd.prog 35 #[v, .int .i64 n] w fun e w' => e = .returned (.tuple #[.int .i64 (Tq.wpB xs n), .int .i64 (Tq.wpM xs n), .int .i64 (Tq.wpC xs n)]) ∧ Below w.heap.size w w' := by
  have C := Lib.hid (l08Ok_any w v xs hv hl)
  have CN := fun W => Lib.hid (l08Near_any n W)
  obtain ⟨a, cap, rfl⟩ := hv.form
  have HV := Lib.hid hv
  clear hv
  cases hq : Tq.okS xs with
  | false =>
    obtain ⟨e1, e2, e3⟩ := Tq.wp_bad (n := n) hq
    rw [e1, e2, e3]
    rw [hq] at C
    clear hq e1 e2 e3
    go_enter Tryd.func35, Tryd.ntmps35
    go_wp2_with fail
    refine C.out.mono ?_
    rintro e w1 ⟨rfl, b1⟩
    have B1 := Lib.hid b1
    clear b1
    go_wp2_with fail
    exact bodyPost_ret (v := .tuple #[.int .i64 0, .int .i64 0, .int .i64 1]) (by simp [results, Tryd.results35, go_sem]) rfl ⟨rfl, B1.out⟩
  | true =>
    rw [hq] at C
    cases hs : Ar.inB 0 n 300 with
    | false =>
      obtain ⟨e1, e2, e3⟩ := Tq.wp_lim hq hs
      rw [e1, e2, e3]
      rw [hs] at CN
      clear hq hs e1 e2 e3
      go_enter Tryd.func35, Tryd.ntmps35
      go_wp2_with fail
      refine C.out.mono ?_
      rintro e w1 ⟨rfl, b1⟩
      have B1 := Lib.hid b1
      clear b1
      go_wp2_with fail
      refine (CN _).out.mono ?_
      rintro e w2 ⟨rfl, rfl⟩
      go_wp2_with fail
      exact bodyPost_ret (v := .tuple #[.int .i64 0, .int .i64 0, .int .i64 2]) (by simp [results, Tryd.results35, go_sem]) rfl ⟨rfl, B1.out⟩
    | true =>
      have HF := Lib.hid (fun k (hk : k < xs.length) => Tq.fits_at hq hk)
      have h16 := Lib.hid (Tq.len_ok hq)
      have hn0 := Lib.hid (Tq.inB_iff.1 hs).1
      have hs0 := Lib.hid hs
      rw [hs] at CN
      replace hq := Lib.hid hq
      clear hs
      go_enter Tryd.func35, Tryd.ntmps35
      go_wp2_with fail
      refine C.out.mono ?_
      rintro e w1 ⟨rfl, b1⟩
      have B1 := Lib.hid b1
      clear b1
      go_wp2_with fail
      refine (CN _).out.mono ?_
      rintro e w2 ⟨rfl, rfl⟩
      go_wp2_with fail
      go_loopw [7, 8, 9] (fun s7 s8 i wr => ∃ (k : Nat) (bb m : Int), k ≤ xs.length ∧ s7 = .int .i64 bb ∧ s8 = .int .i64 m ∧ i = .int .i64 k ∧ Hid (Tq.Bst (Tq.cn n (Tq.wd xs)) (Tq.wd (xs.take k)) bb m) ∧ Hid (Below w.heap.size w wr)) (fun _ _ i _ => xs.length - (intOf i).toNat)
      case atStart => exact ⟨0, 0, 0, Nat.zero_le _, rfl, rfl, rfl, Lib.hid (Tq.Bst.none _), B1⟩
      case round =>
        obtain ⟨k, bb, m, hk, rfl, rfl, rfl, hB, hb⟩ := hrel
        by_cases hlt : k < xs.length
        · obtain ⟨b, off, cap1, hn1, hbl, hcc⟩ := (HV.out.below hb.out).at_ hlt
          simp only [Value.slice.injEq] at hn1
          obtain ⟨rfl, -, rfl⟩ := hn1
          have F := HF.out k hlt
          have CC := Lib.hid (l08Class_any xs[k] b (off + k * 5) wr (hcc k hlt) F.q1 F.q2)
          clear hcc F
          cases hw : Tq.wk xs[k] with
          | false =>
            have hcw : 2 < Tq.cls xs[k] := by unfold Tq.wk at hw; simpa using hw
            have hbs : Hid (Tq.Bst (Tq.cn n (Tq.wd xs)) (Tq.wd (xs.take (k + 1))) bb m) := Lib.hid (by rw [Tq.wd_no hlt hw]; exact hB.out)
            clear hw
            generalize Tq.cls xs[k] = c at *
            go_wp2_with fail
            refine CC.out.mono ?_
            rintro e w2 ⟨rfl, b2⟩
            have B2 := Lib.hid (bt hb.out b2)
            clear b2
            go_wp2_with fail
            exact ⟨⟨k + 1, _, _, by omega, rfl, rfl, by go_num, hbs, B2⟩, by simp only [intOf]; omega⟩
          | true =>
            have hcw : ¬ 2 < Tq.cls xs[k] := by unfold Tq.wk at hw; simp at hw; omega
            have HWK := Lib.hid hw
            clear hw
            generalize Tq.cls xs[k] = c at *
            go_wp2_with fail
            refine CC.out.mono ?_
            rintro e w2 ⟨rfl, b2⟩
            have BK := Lib.hid (bt hb.out b2)
            clear b2 CC hbl
            go_wp2_with fail
            clear hcw
            go_loopw [10, 11] (fun mn i wr => ∃ j : Nat, j ≤ xs.length ∧ mn = .int .i64 (Tq.cn n (Tq.wd (xs.take j)) xs[k].de) ∧ i = .int .i64 j ∧ Hid (Below w.heap.size w wr)) (fun _ i _ => xs.length - (intOf i).toNat)
            case atStart => exact ⟨0, Nat.zero_le _, rfl, rfl, BK⟩
            case round =>
              obtain ⟨j, hj, rfl, rfl, hbj⟩ := hrel
              by_cases hlj : j < xs.length
              · have hljz : (j : Int) < (xs.length : Int) := by omega
                have j0 : (0 : Int) ≤ (j : Int) := by omega
                have hltz : (k : Int) < (xs.length : Int) := by omega
                have k0 : (0 : Int) ≤ (k : Int) := by omega
                obtain ⟨bx, offx, capx, hn1, hbl, hcc⟩ := (HV.out.below hbj.out).at_ hlj
                simp only [Value.slice.injEq, Option.some.injEq, Addr.mk.injEq] at hn1
                obtain ⟨⟨rfl, rfl, -⟩, -, -⟩ := hn1
                have hlb := hbl
                have KA := Lib.hid (fun W (h : Below wr.heap.size wr W) => by
                  obtain ⟨b2, off2, cap2, hn2, -, hc2⟩ := (HV.out.below (bt hbj.out h)).at_ hlj
                  simp only [Value.slice.injEq, Option.some.injEq, Addr.mk.injEq] at hn2
                  obtain ⟨⟨rfl, rfl, -⟩, -, -⟩ := hn2
                  exact (⟨(hc2 j hlj).c3, (hc2 k hlt).c3⟩ : W.cell? ⟨b, off + j * 5 + 3, none⟩ = some (.int .i64 xs[j].de) ∧ W.cell? ⟨b, off + k * 5 + 3, none⟩ = some (.int .i64 xs[k].de)))
                have CJ := Lib.hid (fun W (h : Below wr.heap.size wr W) => by
                  obtain ⟨b2, off2, cap2, hn2, -, hc2⟩ := (HV.out.below (bt hbj.out h)).at_ hlj
                  simp only [Value.slice.injEq, Option.some.injEq, Addr.mk.injEq] at hn2
                  obtain ⟨⟨rfl, rfl, -⟩, -, -⟩ := hn2
                  exact l08Class_any xs[j] b (off + j * 5) W (hc2 j hlj) (HF.out j hlj).q1 (HF.out j hlj).q2)
                have F1 := HF.out j hlj
                have F2 := HF.out k hlt
                obtain ⟨a1, a2⟩ : 1 ≤ xs[j].de ∧ xs[j].de ≤ 300 := ⟨F1.d1, F1.d2⟩
                obtain ⟨a3, a4⟩ : 1 ≤ xs[k].de ∧ xs[k].de ≤ 300 := ⟨F2.d1, F2.d2⟩
                have hwr : IntKind.i64.wrap (xs[j].de - xs[k].de) = xs[j].de - xs[k].de := IntWalk.i64_in _ ⟨by omega, by omega⟩
                have CA := Lib.hid (fun W => l04AbsT_any (xs[j].de - xs[k].de) W (by omega) (by omega))
                have hcl := Tq.cn_len n xs[k].de (Tq.wd (xs.take j))
                have hwl : (Tq.wd (xs.take j)).length ≤ j := Nat.le_trans (Tq.wd_len _) (by rw [List.length_take]; omega)
                have hl16 := h16.out
                have hm16 : Tq.cn n (Tq.wd (xs.take j)) xs[k].de ≤ 16 := by omega
                obtain ⟨d3, e3⟩ := KA.out wr (Below.refl _ _)
                clear hcc F1 F2
                have HA := Lib.hid (And.intro (And.intro a1 a2) (And.intro a3 a4))
                cases hw : Tq.wk xs[j] with
                | false =>
                  have hs : Hid (Tq.cn n (Tq.wd (xs.take (j + 1))) xs[k].de = Tq.cn n (Tq.wd (xs.take j)) xs[k].de) := Lib.hid (Tq.cn_no hlj hw)
                  have hcw : decide (Tq.cls xs[j] ≤ 2) = false := by unfold Tq.wk at hw; exact hw
                  clear hw CA hwr a1 a2 a3 a4 hwl
                  generalize Tq.cls xs[j] = cj at *
                  generalize Tq.cn n (Tq.wd (xs.take j)) xs[k].de = mj at *
                  generalize hd : xs[k].de = d at *
                  replace hd := Lib.hid hd
                  go_wp2_with fail
                  refine wp_region_held_drew (S := (fun w' => w'.cell? ⟨b, off + j * 5 + 3, none⟩ = some (.int .i64 xs[j].de) ∧ w'.cell? ⟨b, off + k * 5 + 3, none⟩ = some (.int .i64 d))) (by kernel_rfl) ?_ (fun hHeld => ?_)
                  · (try dsimp only)
                    first | done | go_keep
                  refine wpAnyH_take (i := 0) (oi := ({ dst := some 35, op := Op.move (Operand.tmp 0), type := 27, pos := "l08_tests.go:142", after := #[], guard := none } : Oper)) (v := ?_) rfl (by kernel_rfl) (by kernel_rfl) (by kernel_rfl) (fun _ _ _ h => h) (Or.inl ⟨by kernel_rfl, ?_⟩) (by assumption) ?_
                  rotate_left
                  · (intro w hSw; (try dsimp only at hSw); go_simp <;> with_reducible rfl)
                  try simp only [Act.put, List.setIfInBounds_toArray, List.set_cons_zero, List.set_cons_succ]
                  refine wpAnyH_take (i := 1) (oi := ({ dst := some 36, op := Op.move (Operand.tmp 11), type := 3, pos := "l08_tests.go:142", after := #[], guard := none } : Oper)) (v := ?_) rfl (by kernel_rfl) (by kernel_rfl) (by kernel_rfl) (fun _ _ _ h => h) (Or.inl ⟨by kernel_rfl, ?_⟩) (by assumption) ?_
                  rotate_left
                  · (intro w hSw; (try dsimp only at hSw); go_simp <;> with_reducible rfl)
                  try simp only [Act.put, List.setIfInBounds_toArray, List.set_cons_zero, List.set_cons_succ]
                  refine wpAnyH_take (i := 2) (oi := ({ dst := some 37, op := Op.indexAddr 27 (Operand.tmp 35) (Operand.tmp 36), type := 0, pos := "l08_tests.go:142", after := #[{ on := 0, ground := Ground.data }, { on := 1, ground := Ground.data }], guard := none } : Oper)) (v := ?_) rfl (by kernel_rfl) (by kernel_rfl) (by kernel_rfl) (fun _ _ _ h => h) (Or.inl ⟨by kernel_rfl, ?_⟩) (by assumption) ?_
                  rotate_left
                  · (intro w hSw; (try dsimp only at hSw); go_simp <;> with_reducible rfl)
                  try simp only [Act.put, List.setIfInBounds_toArray, List.set_cons_zero, List.set_cons_succ]
                  refine wpAnyH_ready (rs := [3]) (by kernel_rfl) (by simp) ?_
                  refine AllReadyH.cons (o := ({ dst := some 38, op := Op.call { callee := Callee.value (Operand.func 54), args := #[Operand.tmp 37], argTypes := #[66] }, type := 2, pos := "l08_tests.go:142", after := #[{ on := 2, ground := Ground.data }], guard := none } : Oper)) rfl (fun K hK => ?_) ?_
                  · go_simp
                    (go_at_call 54; refine (CJ.out _ (below_drewW _ 1)).mono ?_; rintro e wA ⟨rfl, bA⟩; have bA0 := bt (below_drewW _ 1) bA; obtain ⟨z3, y3⟩ := KA.out wA bA0)
                    go_wp2_with fail
                    refine hK.out _ _ ?_ (fun hHeld => ?_)
                    · (try dsimp only)
                      first | done | go_keep
                    clear hK K
                    try simp only [Act.put, List.setIfInBounds_toArray, List.set_cons_zero, List.set_cons_succ]
                    refine wpAnyH_take (i := 4) (oi := ({ dst := some 39, op := Op.binOp BinOp.leq 2 (Operand.tmp 38) (Operand.const (Value.int IntKind.i64 2)) 2, type := 4, pos := "l08_tests.go:142", after := #[{ on := 3, ground := Ground.data }], guard := none } : Oper)) (v := ?_) rfl (by kernel_rfl) (by kernel_rfl) (by kernel_rfl) (fun _ _ _ h => h) (Or.inl ⟨by kernel_rfl, ?_⟩) (by assumption) ?_
                    rotate_left
                    · (intro w hSw; (try dsimp only at hSw); go_simp <;> with_reducible rfl)
                    try simp only [Act.put, List.setIfInBounds_toArray, List.set_cons_zero, List.set_cons_succ]
                    refine wpAnyH_take (i := 5) (oi := ({ dst := some 40, op := Op.move (Operand.tmp 39), type := 4, pos := "l08_tests.go:142", after := #[{ on := 4, ground := Ground.data }, { on := 3, ground := Ground.chain }], guard := none } : Oper)) (v := ?_) rfl (by kernel_rfl) (by kernel_rfl) (by kernel_rfl) (fun _ _ _ h => h) (Or.inl ⟨by kernel_rfl, ?_⟩) (by assumption) ?_
                    rotate_left
                    · (intro w hSw; (try dsimp only at hSw); go_simp <;> with_reducible rfl)
                    try simp only [Act.put, List.setIfInBounds_toArray, List.set_cons_zero, List.set_cons_succ]
                    refine wpAnyH_take (i := 6) (oi := ({ dst := some 41, op := Op.move (Operand.tmp 0), type := 27, pos := "l08_tests.go:142", after := #[{ on := 5, ground := Ground.guard }], guard := some (5, true) } : Oper)) (v := undef) rfl (by kernel_rfl) (by kernel_rfl) (by kernel_rfl) (fun _ _ _ h => h) (Or.inr ⟨by kernel_rfl, rfl⟩) (by assumption) ?_
                    try simp only [Act.put, List.setIfInBounds_toArray, List.set_cons_zero, List.set_cons_succ]
                    refine wpAnyH_take (i := 7) (oi := ({ dst := some 42, op := Op.move (Operand.tmp 11), type := 3, pos := "l08_tests.go:142", after := #[{ on := 5, ground := Ground.guard }], guard := some (5, true) } : Oper)) (v := undef) rfl (by kernel_rfl) (by kernel_rfl) (by kernel_rfl) (fun _ _ _ h => h) (Or.inr ⟨by kernel_rfl, rfl⟩) (by assumption) ?_
                    try simp only [Act.put, List.setIfInBounds_toArray, List.set_cons_zero, List.set_cons_succ]
                    refine wpAnyH_take (i := 8) (oi := ({ dst := some 43, op := Op.indexAddr 27 (Operand.tmp 41) (Operand.tmp 42), type := 0, pos := "l08_tests.go:142", after := #[{ on := 6, ground := Ground.data }, { on := 7, ground := Ground.data }, { on := 5, ground := Ground.guard }], guard := some (5, true) } : Oper)) (v := undef) rfl (by kernel_rfl) (by kernel_rfl) (by kernel_rfl) (fun _ _ _ h => h) (Or.inr ⟨by kernel_rfl, rfl⟩) (by assumption) ?_
                    try simp only [Act.put, List.setIfInBounds_toArray, List.set_cons_zero, List.set_cons_succ]
                    refine wpAnyH_take (i := 9) (oi := ({ dst := some 44, op := Op.fieldAddr 35 (Operand.tmp 43) 3, type := 0, pos := "l08_tests.go:142", after := #[{ on := 8, ground := Ground.data }, { on := 5, ground := Ground.guard }], guard := some (5, true) } : Oper)) (v := undef) rfl (by kernel_rfl) (by kernel_rfl) (by kernel_rfl) (fun _ _ _ h => h) (Or.inr ⟨by kernel_rfl, rfl⟩) (by assumption) ?_
                    try simp only [Act.put, List.setIfInBounds_toArray, List.set_cons_zero, List.set_cons_succ]
                    refine wpAnyH_take (i := 10) (oi := ({ dst := some 45, op := Op.load 2 (Operand.tmp 44), type := 2, pos := "l08_tests.go:142", after := #[{ on := 9, ground := Ground.data }, { on := 5, ground := Ground.guard }], guard := some (5, true) } : Oper)) (v := undef) rfl (by kernel_rfl) (by kernel_rfl) (by kernel_rfl) (fun _ _ _ h => h) (Or.inr ⟨by kernel_rfl, rfl⟩) (by assumption) ?_
                    try simp only [Act.put, List.setIfInBounds_toArray, List.set_cons_zero, List.set_cons_succ]
                    refine wpAnyH_take (i := 11) (oi := ({ dst := some 46, op := Op.move (Operand.tmp 0), type := 27, pos := "l08_tests.go:142", after := #[{ on := 5, ground := Ground.guard }], guard := some (5, true) } : Oper)) (v := undef) rfl (by kernel_rfl) (by kernel_rfl) (by kernel_rfl) (fun _ _ _ h => h) (Or.inr ⟨by kernel_rfl, rfl⟩) (by assumption) ?_
                    try simp only [Act.put, List.setIfInBounds_toArray, List.set_cons_zero, List.set_cons_succ]
                    refine wpAnyH_take (i := 12) (oi := ({ dst := some 47, op := Op.move (Operand.tmp 9), type := 3, pos := "l08_tests.go:142", after := #[{ on := 5, ground := Ground.guard }], guard := some (5, true) } : Oper)) (v := undef) rfl (by kernel_rfl) (by kernel_rfl) (by kernel_rfl) (fun _ _ _ h => h) (Or.inr ⟨by kernel_rfl, rfl⟩) (by assumption) ?_
                    try simp only [Act.put, List.setIfInBounds_toArray, List.set_cons_zero, List.set_cons_succ]
                    refine wpAnyH_take (i := 13) (oi := ({ dst := some 48, op := Op.indexAddr 27 (Operand.tmp 46) (Operand.tmp 47), type := 0, pos := "l08_tests.go:142", after := #[{ on := 11, ground := Ground.data }, { on := 12, ground := Ground.data }, { on := 5, ground := Ground.guard }], guard := some (5, true) } : Oper)) (v := undef) rfl (by kernel_rfl) (by kernel_rfl) (by kernel_rfl) (fun _ _ _ h => h) (Or.inr ⟨by kernel_rfl, rfl⟩) (by assumption) ?_
                    try simp only [Act.put, List.setIfInBounds_toArray, List.set_cons_zero, List.set_cons_succ]
                    refine wpAnyH_take (i := 14) (oi := ({ dst := some 49, op := Op.fieldAddr 35 (Operand.tmp 48) 3, type := 0, pos := "l08_tests.go:142", after := #[{ on := 13, ground := Ground.data }, { on := 5, ground := Ground.guard }], guard := some (5, true) } : Oper)) (v := undef) rfl (by kernel_rfl) (by kernel_rfl) (by kernel_rfl) (fun _ _ _ h => h) (Or.inr ⟨by kernel_rfl, rfl⟩) (by assumption) ?_
                    try simp only [Act.put, List.setIfInBounds_toArray, List.set_cons_zero, List.set_cons_succ]
                    refine wpAnyH_take (i := 15) (oi := ({ dst := some 50, op := Op.load 2 (Operand.tmp 49), type := 2, pos := "l08_tests.go:142", after := #[{ on := 14, ground := Ground.data }, { on := 5, ground := Ground.guard }], guard := some (5, true) } : Oper)) (v := undef) rfl (by kernel_rfl) (by kernel_rfl) (by kernel_rfl) (fun _ _ _ h => h) (Or.inr ⟨by kernel_rfl, rfl⟩) (by assumption) ?_
                    try simp only [Act.put, List.setIfInBounds_toArray, List.set_cons_zero, List.set_cons_succ]
                    refine wpAnyH_take (i := 16) (oi := ({ dst := some 51, op := Op.binOp BinOp.sub 2 (Operand.tmp 45) (Operand.tmp 50) 2, type := 2, pos := "l08_tests.go:142", after := #[{ on := 10, ground := Ground.data }, { on := 15, ground := Ground.data }, { on := 5, ground := Ground.guard }], guard := some (5, true) } : Oper)) (v := undef) rfl (by kernel_rfl) (by kernel_rfl) (by kernel_rfl) (fun _ _ _ h => h) (Or.inr ⟨by kernel_rfl, rfl⟩) (by assumption) ?_
                    try simp only [Act.put, List.setIfInBounds_toArray, List.set_cons_zero, List.set_cons_succ]
                    refine wpAnyH_take (i := 17) (oi := ({ dst := some 52, op := Op.call { callee := Callee.value (Operand.func 71), args := #[Operand.tmp 51], argTypes := #[2] }, type := 2, pos := "l08_tests.go:142", after := #[{ on := 16, ground := Ground.data }, { on := 5, ground := Ground.chain }, { on := 5, ground := Ground.guard }], guard := some (5, true) } : Oper)) (v := undef) rfl (by kernel_rfl) (by kernel_rfl) (by kernel_rfl) (fun _ _ _ h => h) (Or.inr ⟨by kernel_rfl, rfl⟩) (by assumption) ?_
                    try simp only [Act.put, List.setIfInBounds_toArray, List.set_cons_zero, List.set_cons_succ]
                    refine wpAnyH_take (i := 18) (oi := ({ dst := some 53, op := Op.move (Operand.tmp 1), type := 2, pos := "l08_tests.go:142", after := #[{ on := 5, ground := Ground.guard }], guard := some (5, true) } : Oper)) (v := undef) rfl (by kernel_rfl) (by kernel_rfl) (by kernel_rfl) (fun _ _ _ h => h) (Or.inr ⟨by kernel_rfl, rfl⟩) (by assumption) ?_
                    try simp only [Act.put, List.setIfInBounds_toArray, List.set_cons_zero, List.set_cons_succ]
                    refine wpAnyH_take (i := 19) (oi := ({ dst := some 54, op := Op.binOp BinOp.leq 2 (Operand.tmp 52) (Operand.tmp 53) 2, type := 4, pos := "l08_tests.go:142", after := #[{ on := 17, ground := Ground.data }, { on := 18, ground := Ground.data }, { on := 5, ground := Ground.guard }], guard := some (5, true) } : Oper)) (v := undef) rfl (by kernel_rfl) (by kernel_rfl) (by kernel_rfl) (fun _ _ _ h => h) (Or.inr ⟨by kernel_rfl, rfl⟩) (by assumption) ?_
                    try simp only [Act.put, List.setIfInBounds_toArray, List.set_cons_zero, List.set_cons_succ]
                    refine wpAnyH_take (i := 20) (oi := ({ dst := some 55, op := Op.pick (Operand.tmp 40) (Operand.tmp 54) (Operand.const (Value.bool false)), type := 4, pos := "l08_tests.go:142", after := #[{ on := 5, ground := Ground.data }, { on := 19, ground := Ground.data }], guard := none } : Oper)) (v := ?_) rfl (by kernel_rfl) (by kernel_rfl) (by kernel_rfl) (fun _ _ _ h => h) (Or.inl ⟨by kernel_rfl, ?_⟩) (by assumption) ?_
                    rotate_left
                    · (intro w hSw; (try dsimp only at hSw); go_simp <;> with_reducible rfl)
                    try simp only [Act.put, List.setIfInBounds_toArray, List.set_cons_zero, List.set_cons_succ]
                    refine wpAnyH_done (by kernel_rfl) ?_ _
                    have HBD := Lib.hid (bt hbj.out bA0)
                    go_wp2_with fail
                    exact ⟨⟨j + 1, by omega, by rw [hs.out], by go_num, HBD⟩, by simp only [intOf]; omega⟩
                  exact AllReadyH.nil
                | true =>
                  have hcw : decide (Tq.cls xs[j] ≤ 2) = true := by unfold Tq.wk at hw; exact hw
                  have HW := Lib.hid hw
                  clear hw
                  cases hr : Tq.nr n xs[k].de xs[j].de with
                  | false =>
                    have hs : Hid (Tq.cn n (Tq.wd (xs.take (j + 1))) xs[k].de = Tq.cn n (Tq.wd (xs.take j)) xs[k].de) := Lib.hid (Tq.cn_far hlj HW.out hr)
                    have hrw : decide (Ar.ab (xs[j].de - xs[k].de) ≤ n) = false := by unfold Tq.nr at hr; exact hr
                    clear hr a1 a2 a3 a4 hwl
                    generalize Tq.cls xs[j] = cj at *
                    generalize Tq.cn n (Tq.wd (xs.take j)) xs[k].de = mj at *
                    generalize Ar.ab (xs[j].de - xs[k].de) = ad at *
                    generalize hd : xs[k].de = d at *
                    replace hd := Lib.hid hd
                    go_wp2_with fail
                    refine wp_region_held_drew (S := (fun w' => w'.cell? ⟨b, off + j * 5 + 3, none⟩ = some (.int .i64 xs[j].de) ∧ w'.cell? ⟨b, off + k * 5 + 3, none⟩ = some (.int .i64 d))) (by kernel_rfl) ?_ (fun hHeld => ?_)
                    · (try dsimp only)
                      first | done | go_keep
                    refine wpAnyH_take (i := 0) (oi := ({ dst := some 35, op := Op.move (Operand.tmp 0), type := 27, pos := "l08_tests.go:142", after := #[], guard := none } : Oper)) (v := ?_) rfl (by kernel_rfl) (by kernel_rfl) (by kernel_rfl) (fun _ _ _ h => h) (Or.inl ⟨by kernel_rfl, ?_⟩) (by assumption) ?_
                    rotate_left
                    · (intro w hSw; (try dsimp only at hSw); go_simp <;> with_reducible rfl)
                    try simp only [Act.put, List.setIfInBounds_toArray, List.set_cons_zero, List.set_cons_succ]
                    refine wpAnyH_take (i := 1) (oi := ({ dst := some 36, op := Op.move (Operand.tmp 11), type := 3, pos := "l08_tests.go:142", after := #[], guard := none } : Oper)) (v := ?_) rfl (by kernel_rfl) (by kernel_rfl) (by kernel_rfl) (fun _ _ _ h => h) (Or.inl ⟨by kernel_rfl, ?_⟩) (by assumption) ?_
                    rotate_left
                    · (intro w hSw; (try dsimp only at hSw); go_simp <;> with_reducible rfl)
                    try simp only [Act.put, List.setIfInBounds_toArray, List.set_cons_zero, List.set_cons_succ]
                    refine wpAnyH_take (i := 2) (oi := ({ dst := some 37, op := Op.indexAddr 27 (Operand.tmp 35) (Operand.tmp 36), type := 0, pos := "l08_tests.go:142", after := #[{ on := 0, ground := Ground.data }, { on := 1, ground := Ground.data }], guard := none } : Oper)) (v := ?_) rfl (by kernel_rfl) (by kernel_rfl) (by kernel_rfl) (fun _ _ _ h => h) (Or.inl ⟨by kernel_rfl, ?_⟩) (by assumption) ?_
                    rotate_left
                    · (intro w hSw; (try dsimp only at hSw); go_simp <;> with_reducible rfl)
                    try simp only [Act.put, List.setIfInBounds_toArray, List.set_cons_zero, List.set_cons_succ]
                    refine wpAnyH_ready (rs := [3]) (by kernel_rfl) (by simp) ?_
                    refine AllReadyH.cons (o := ({ dst := some 38, op := Op.call { callee := Callee.value (Operand.func 54), args := #[Operand.tmp 37], argTypes := #[66] }, type := 2, pos := "l08_tests.go:142", after := #[{ on := 2, ground := Ground.data }], guard := none } : Oper)) rfl (fun K hK => ?_) ?_
                    · go_simp
                      (go_at_call 54; refine (CJ.out _ (below_drewW _ 1)).mono ?_; rintro e wA ⟨rfl, bA⟩; have bA0 := bt (below_drewW _ 1) bA; obtain ⟨z3, y3⟩ := KA.out wA bA0)
                      go_wp2_with fail
                      refine hK.out _ _ ?_ (fun hHeld => ?_)
                      · (try dsimp only)
                        first | done | go_keep
                      clear hK K
                      try simp only [Act.put, List.setIfInBounds_toArray, List.set_cons_zero, List.set_cons_succ]
                      refine wpAnyH_take (i := 4) (oi := ({ dst := some 39, op := Op.binOp BinOp.leq 2 (Operand.tmp 38) (Operand.const (Value.int IntKind.i64 2)) 2, type := 4, pos := "l08_tests.go:142", after := #[{ on := 3, ground := Ground.data }], guard := none } : Oper)) (v := ?_) rfl (by kernel_rfl) (by kernel_rfl) (by kernel_rfl) (fun _ _ _ h => h) (Or.inl ⟨by kernel_rfl, ?_⟩) (by assumption) ?_
                      rotate_left
                      · (intro w hSw; (try dsimp only at hSw); go_simp <;> with_reducible rfl)
                      try simp only [Act.put, List.setIfInBounds_toArray, List.set_cons_zero, List.set_cons_succ]
                      refine wpAnyH_take (i := 5) (oi := ({ dst := some 40, op := Op.move (Operand.tmp 39), type := 4, pos := "l08_tests.go:142", after := #[{ on := 4, ground := Ground.data }, { on := 3, ground := Ground.chain }], guard := none } : Oper)) (v := ?_) rfl (by kernel_rfl) (by kernel_rfl) (by kernel_rfl) (fun _ _ _ h => h) (Or.inl ⟨by kernel_rfl, ?_⟩) (by assumption) ?_
                      rotate_left
                      · (intro w hSw; (try dsimp only at hSw); go_simp <;> with_reducible rfl)
                      try simp only [Act.put, List.setIfInBounds_toArray, List.set_cons_zero, List.set_cons_succ]
                      refine wpAnyH_take (i := 6) (oi := ({ dst := some 41, op := Op.move (Operand.tmp 0), type := 27, pos := "l08_tests.go:142", after := #[{ on := 5, ground := Ground.guard }], guard := some (5, true) } : Oper)) (v := ?_) rfl (by kernel_rfl) (by kernel_rfl) (by kernel_rfl) (fun _ _ _ h => h) (Or.inl ⟨by kernel_rfl, ?_⟩) (by assumption) ?_
                      rotate_left
                      · (intro w hSw; (try dsimp only at hSw); go_simp <;> with_reducible rfl)
                      try simp only [Act.put, List.setIfInBounds_toArray, List.set_cons_zero, List.set_cons_succ]
                      refine wpAnyH_take (i := 7) (oi := ({ dst := some 42, op := Op.move (Operand.tmp 11), type := 3, pos := "l08_tests.go:142", after := #[{ on := 5, ground := Ground.guard }], guard := some (5, true) } : Oper)) (v := ?_) rfl (by kernel_rfl) (by kernel_rfl) (by kernel_rfl) (fun _ _ _ h => h) (Or.inl ⟨by kernel_rfl, ?_⟩) (by assumption) ?_
                      rotate_left
                      · (intro w hSw; (try dsimp only at hSw); go_simp <;> with_reducible rfl)
                      try simp only [Act.put, List.setIfInBounds_toArray, List.set_cons_zero, List.set_cons_succ]
                      refine wpAnyH_take (i := 8) (oi := ({ dst := some 43, op := Op.indexAddr 27 (Operand.tmp 41) (Operand.tmp 42), type := 0, pos := "l08_tests.go:142", after := #[{ on := 6, ground := Ground.data }, { on := 7, ground := Ground.data }, { on := 5, ground := Ground.guard }], guard := some (5, true) } : Oper)) (v := ?_) rfl (by kernel_rfl) (by kernel_rfl) (by kernel_rfl) (fun _ _ _ h => h) (Or.inl ⟨by kernel_rfl, ?_⟩) (by assumption) ?_
                      rotate_left
                      · (intro w hSw; (try dsimp only at hSw); go_simp <;> with_reducible rfl)
                      try simp only [Act.put, List.setIfInBounds_toArray, List.set_cons_zero, List.set_cons_succ]
                      refine wpAnyH_take (i := 9) (oi := ({ dst := some 44, op := Op.fieldAddr 35 (Operand.tmp 43) 3, type := 0, pos := "l08_tests.go:142", after := #[{ on := 8, ground := Ground.data }, { on := 5, ground := Ground.guard }], guard := some (5, true) } : Oper)) (v := ?_) rfl (by kernel_rfl) (by kernel_rfl) (by kernel_rfl) (fun _ _ _ h => h) (Or.inl ⟨by kernel_rfl, ?_⟩) (by assumption) ?_
                      rotate_left
                      · (intro w hSw; (try dsimp only at hSw); go_simp <;> with_reducible rfl)
                      try simp only [Act.put, List.setIfInBounds_toArray, List.set_cons_zero, List.set_cons_succ]
                      refine wpAnyH_take (i := 10) (oi := ({ dst := some 45, op := Op.load 2 (Operand.tmp 44), type := 2, pos := "l08_tests.go:142", after := #[{ on := 9, ground := Ground.data }, { on := 5, ground := Ground.guard }], guard := some (5, true) } : Oper)) (v := ?_) rfl (by kernel_rfl) (by kernel_rfl) (by kernel_rfl) (fun _ _ _ h => h) (Or.inl ⟨by kernel_rfl, ?_⟩) (by assumption) ?_
                      rotate_left
                      · (intro w hSw; (try dsimp only at hSw); go_simp <;> with_reducible rfl)
                      try simp only [Act.put, List.setIfInBounds_toArray, List.set_cons_zero, List.set_cons_succ]
                      refine wpAnyH_take (i := 11) (oi := ({ dst := some 46, op := Op.move (Operand.tmp 0), type := 27, pos := "l08_tests.go:142", after := #[{ on := 5, ground := Ground.guard }], guard := some (5, true) } : Oper)) (v := ?_) rfl (by kernel_rfl) (by kernel_rfl) (by kernel_rfl) (fun _ _ _ h => h) (Or.inl ⟨by kernel_rfl, ?_⟩) (by assumption) ?_
                      rotate_left
                      · (intro w hSw; (try dsimp only at hSw); go_simp <;> with_reducible rfl)
                      try simp only [Act.put, List.setIfInBounds_toArray, List.set_cons_zero, List.set_cons_succ]
                      refine wpAnyH_take (i := 12) (oi := ({ dst := some 47, op := Op.move (Operand.tmp 9), type := 3, pos := "l08_tests.go:142", after := #[{ on := 5, ground := Ground.guard }], guard := some (5, true) } : Oper)) (v := ?_) rfl (by kernel_rfl) (by kernel_rfl) (by kernel_rfl) (fun _ _ _ h => h) (Or.inl ⟨by kernel_rfl, ?_⟩) (by assumption) ?_
                      rotate_left
                      · (intro w hSw; (try dsimp only at hSw); go_simp <;> with_reducible rfl)
                      try simp only [Act.put, List.setIfInBounds_toArray, List.set_cons_zero, List.set_cons_succ]
                      refine wpAnyH_take (i := 13) (oi := ({ dst := some 48, op := Op.indexAddr 27 (Operand.tmp 46) (Operand.tmp 47), type := 0, pos := "l08_tests.go:142", after := #[{ on := 11, ground := Ground.data }, { on := 12, ground := Ground.data }, { on := 5, ground := Ground.guard }], guard := some (5, true) } : Oper)) (v := ?_) rfl (by kernel_rfl) (by kernel_rfl) (by kernel_rfl) (fun _ _ _ h => h) (Or.inl ⟨by kernel_rfl, ?_⟩) (by assumption) ?_
                      rotate_left
                      · (intro w hSw; (try dsimp only at hSw); go_simp <;> with_reducible rfl)
                      try simp only [Act.put, List.setIfInBounds_toArray, List.set_cons_zero, List.set_cons_succ]
                      refine wpAnyH_take (i := 14) (oi := ({ dst := some 49, op := Op.fieldAddr 35 (Operand.tmp 48) 3, type := 0, pos := "l08_tests.go:142", after := #[{ on := 13, ground := Ground.data }, { on := 5, ground := Ground.guard }], guard := some (5, true) } : Oper)) (v := ?_) rfl (by kernel_rfl) (by kernel_rfl) (by kernel_rfl) (fun _ _ _ h => h) (Or.inl ⟨by kernel_rfl, ?_⟩) (by assumption) ?_
                      rotate_left
                      · (intro w hSw; (try dsimp only at hSw); go_simp <;> with_reducible rfl)
                      try simp only [Act.put, List.setIfInBounds_toArray, List.set_cons_zero, List.set_cons_succ]
                      refine wpAnyH_take (i := 15) (oi := ({ dst := some 50, op := Op.load 2 (Operand.tmp 49), type := 2, pos := "l08_tests.go:142", after := #[{ on := 14, ground := Ground.data }, { on := 5, ground := Ground.guard }], guard := some (5, true) } : Oper)) (v := ?_) rfl (by kernel_rfl) (by kernel_rfl) (by kernel_rfl) (fun _ _ _ h => h) (Or.inl ⟨by kernel_rfl, ?_⟩) (by assumption) ?_
                      rotate_left
                      · (intro w hSw; (try dsimp only at hSw); go_simp <;> with_reducible rfl)
                      try simp only [Act.put, List.setIfInBounds_toArray, List.set_cons_zero, List.set_cons_succ]
                      refine wpAnyH_take (i := 16) (oi := ({ dst := some 51, op := Op.binOp BinOp.sub 2 (Operand.tmp 45) (Operand.tmp 50) 2, type := 2, pos := "l08_tests.go:142", after := #[{ on := 10, ground := Ground.data }, { on := 15, ground := Ground.data }, { on := 5, ground := Ground.guard }], guard := some (5, true) } : Oper)) (v := ?_) rfl (by kernel_rfl) (by kernel_rfl) (by kernel_rfl) (fun _ _ _ h => h) (Or.inl ⟨by kernel_rfl, ?_⟩) (by assumption) ?_
                      rotate_left
                      · (intro w hSw; (try dsimp only at hSw); go_simp <;> with_reducible rfl)
                      try simp only [Act.put, List.setIfInBounds_toArray, List.set_cons_zero, List.set_cons_succ]
                      refine wpAnyH_take (i := 18) (oi := ({ dst := some 53, op := Op.move (Operand.tmp 1), type := 2, pos := "l08_tests.go:142", after := #[{ on := 5, ground := Ground.guard }], guard := some (5, true) } : Oper)) (v := ?_) rfl (by kernel_rfl) (by kernel_rfl) (by kernel_rfl) (fun _ _ _ h => h) (Or.inl ⟨by kernel_rfl, ?_⟩) (by assumption) ?_
                      rotate_left
                      · (intro w hSw; (try dsimp only at hSw); go_simp <;> with_reducible rfl)
                      try simp only [Act.put, List.setIfInBounds_toArray, List.set_cons_zero, List.set_cons_succ]
                      refine wpAnyH_ready (rs := [17]) (by kernel_rfl) (by simp) ?_
                      refine AllReadyH.cons (o := ({ dst := some 52, op := Op.call { callee := Callee.value (Operand.func 71), args := #[Operand.tmp 51], argTypes := #[2] }, type := 2, pos := "l08_tests.go:142", after := #[{ on := 16, ground := Ground.data }, { on := 5, ground := Ground.chain }, { on := 5, ground := Ground.guard }], guard := some (5, true) } : Oper)) rfl (fun K hK => ?_) ?_
                      · go_simp
                        (go_at_call 71; refine (CA.out _).mono ?_; rintro e w' ⟨rfl, rfl⟩)
                        go_wp2_with fail
                        refine hK.out _ _ ?_ (fun hHeld => ?_)
                        · (try dsimp only)
                          first | done | go_keep
                        clear hK K
                        try simp only [Act.put, List.setIfInBounds_toArray, List.set_cons_zero, List.set_cons_succ]
                        refine wpAnyH_take (i := 19) (oi := ({ dst := some 54, op := Op.binOp BinOp.leq 2 (Operand.tmp 52) (Operand.tmp 53) 2, type := 4, pos := "l08_tests.go:142", after := #[{ on := 17, ground := Ground.data }, { on := 18, ground := Ground.data }, { on := 5, ground := Ground.guard }], guard := some (5, true) } : Oper)) (v := ?_) rfl (by kernel_rfl) (by kernel_rfl) (by kernel_rfl) (fun _ _ _ h => h) (Or.inl ⟨by kernel_rfl, ?_⟩) (by assumption) ?_
                        rotate_left
                        · (intro w hSw; (try dsimp only at hSw); go_simp <;> with_reducible rfl)
                        try simp only [Act.put, List.setIfInBounds_toArray, List.set_cons_zero, List.set_cons_succ]
                        refine wpAnyH_take (i := 20) (oi := ({ dst := some 55, op := Op.pick (Operand.tmp 40) (Operand.tmp 54) (Operand.const (Value.bool false)), type := 4, pos := "l08_tests.go:142", after := #[{ on := 5, ground := Ground.data }, { on := 19, ground := Ground.data }], guard := none } : Oper)) (v := ?_) rfl (by kernel_rfl) (by kernel_rfl) (by kernel_rfl) (fun _ _ _ h => h) (Or.inl ⟨by kernel_rfl, ?_⟩) (by assumption) ?_
                        rotate_left
                        · (intro w hSw; (try dsimp only at hSw); go_simp <;> with_reducible rfl)
                        try simp only [Act.put, List.setIfInBounds_toArray, List.set_cons_zero, List.set_cons_succ]
                        refine wpAnyH_done (by kernel_rfl) ?_ _
                        have HBD := Lib.hid (bt hbj.out bA0)
                        go_wp2_with fail
                        exact ⟨⟨j + 1, by omega, by rw [hs.out], by go_num, HBD⟩, by simp only [intOf]; omega⟩
                      exact AllReadyH.nil
                    exact AllReadyH.nil
                  | true =>
                    have hs : Hid (Tq.cn n (Tq.wd (xs.take (j + 1))) xs[k].de = Tq.cn n (Tq.wd (xs.take j)) xs[k].de + 1) := Lib.hid (Tq.cn_yes hlj HW.out hr)
                    have hrw : decide (Ar.ab (xs[j].de - xs[k].de) ≤ n) = true := by unfold Tq.nr at hr; exact hr
                    clear hr a1 a2 a3 a4 hwl
                    generalize Tq.cls xs[j] = cj at *
                    generalize Tq.cn n (Tq.wd (xs.take j)) xs[k].de = mj at *
                    generalize Ar.ab (xs[j].de - xs[k].de) = ad at *
                    generalize hd : xs[k].de = d at *
                    replace hd := Lib.hid hd
                    go_wp2_with fail
                    refine wp_region_held_drew (S := (fun w' => w'.cell? ⟨b, off + j * 5 + 3, none⟩ = some (.int .i64 xs[j].de) ∧ w'.cell? ⟨b, off + k * 5 + 3, none⟩ = some (.int .i64 d))) (by kernel_rfl) ?_ (fun hHeld => ?_)
                    · (try dsimp only)
                      first | done | go_keep
                    refine wpAnyH_take (i := 0) (oi := ({ dst := some 35, op := Op.move (Operand.tmp 0), type := 27, pos := "l08_tests.go:142", after := #[], guard := none } : Oper)) (v := ?_) rfl (by kernel_rfl) (by kernel_rfl) (by kernel_rfl) (fun _ _ _ h => h) (Or.inl ⟨by kernel_rfl, ?_⟩) (by assumption) ?_
                    rotate_left
                    · (intro w hSw; (try dsimp only at hSw); go_simp <;> with_reducible rfl)
                    try simp only [Act.put, List.setIfInBounds_toArray, List.set_cons_zero, List.set_cons_succ]
                    refine wpAnyH_take (i := 1) (oi := ({ dst := some 36, op := Op.move (Operand.tmp 11), type := 3, pos := "l08_tests.go:142", after := #[], guard := none } : Oper)) (v := ?_) rfl (by kernel_rfl) (by kernel_rfl) (by kernel_rfl) (fun _ _ _ h => h) (Or.inl ⟨by kernel_rfl, ?_⟩) (by assumption) ?_
                    rotate_left
                    · (intro w hSw; (try dsimp only at hSw); go_simp <;> with_reducible rfl)
                    try simp only [Act.put, List.setIfInBounds_toArray, List.set_cons_zero, List.set_cons_succ]
                    refine wpAnyH_take (i := 2) (oi := ({ dst := some 37, op := Op.indexAddr 27 (Operand.tmp 35) (Operand.tmp 36), type := 0, pos := "l08_tests.go:142", after := #[{ on := 0, ground := Ground.data }, { on := 1, ground := Ground.data }], guard := none } : Oper)) (v := ?_) rfl (by kernel_rfl) (by kernel_rfl) (by kernel_rfl) (fun _ _ _ h => h) (Or.inl ⟨by kernel_rfl, ?_⟩) (by assumption) ?_
                    rotate_left
                    · (intro w hSw; (try dsimp only at hSw); go_simp <;> with_reducible rfl)
                    try simp only [Act.put, List.setIfInBounds_toArray, List.set_cons_zero, List.set_cons_succ]
                    refine wpAnyH_ready (rs := [3]) (by kernel_rfl) (by simp) ?_
                    refine AllReadyH.cons (o := ({ dst := some 38, op := Op.call { callee := Callee.value (Operand.func 54), args := #[Operand.tmp 37], argTypes := #[66] }, type := 2, pos := "l08_tests.go:142", after := #[{ on := 2, ground := Ground.data }], guard := none } : Oper)) rfl (fun K hK => ?_) ?_
                    · go_simp
                      (go_at_call 54; refine (CJ.out _ (below_drewW _ 1)).mono ?_; rintro e wA ⟨rfl, bA⟩; have bA0 := bt (below_drewW _ 1) bA; obtain ⟨z3, y3⟩ := KA.out wA bA0)
                      go_wp2_with fail
                      refine hK.out _ _ ?_ (fun hHeld => ?_)
                      · (try dsimp only)
                        first | done | go_keep
                      clear hK K
                      try simp only [Act.put, List.setIfInBounds_toArray, List.set_cons_zero, List.set_cons_succ]
                      refine wpAnyH_take (i := 4) (oi := ({ dst := some 39, op := Op.binOp BinOp.leq 2 (Operand.tmp 38) (Operand.const (Value.int IntKind.i64 2)) 2, type := 4, pos := "l08_tests.go:142", after := #[{ on := 3, ground := Ground.data }], guard := none } : Oper)) (v := ?_) rfl (by kernel_rfl) (by kernel_rfl) (by kernel_rfl) (fun _ _ _ h => h) (Or.inl ⟨by kernel_rfl, ?_⟩) (by assumption) ?_
                      rotate_left
                      · (intro w hSw; (try dsimp only at hSw); go_simp <;> with_reducible rfl)
                      try simp only [Act.put, List.setIfInBounds_toArray, List.set_cons_zero, List.set_cons_succ]
                      refine wpAnyH_take (i := 5) (oi := ({ dst := some 40, op := Op.move (Operand.tmp 39), type := 4, pos := "l08_tests.go:142", after := #[{ on := 4, ground := Ground.data }, { on := 3, ground := Ground.chain }], guard := none } : Oper)) (v := ?_) rfl (by kernel_rfl) (by kernel_rfl) (by kernel_rfl) (fun _ _ _ h => h) (Or.inl ⟨by kernel_rfl, ?_⟩) (by assumption) ?_
                      rotate_left
                      · (intro w hSw; (try dsimp only at hSw); go_simp <;> with_reducible rfl)
                      try simp only [Act.put, List.setIfInBounds_toArray, List.set_cons_zero, List.set_cons_succ]
                      refine wpAnyH_take (i := 6) (oi := ({ dst := some 41, op := Op.move (Operand.tmp 0), type := 27, pos := "l08_tests.go:142", after := #[{ on := 5, ground := Ground.guard }], guard := some (5, true) } : Oper)) (v := ?_) rfl (by kernel_rfl) (by kernel_rfl) (by kernel_rfl) (fun _ _ _ h => h) (Or.inl ⟨by kernel_rfl, ?_⟩) (by assumption) ?_
                      rotate_left
                      · (intro w hSw; (try dsimp only at hSw); go_simp <;> with_reducible rfl)
                      try simp only [Act.put, List.setIfInBounds_toArray, List.set_cons_zero, List.set_cons_succ]
                      refine wpAnyH_take (i := 7) (oi := ({ dst := some 42, op := Op.move (Operand.tmp 11), type := 3, pos := "l08_tests.go:142", after := #[{ on := 5, ground := Ground.guard }], guard := some (5, true) } : Oper)) (v := ?_) rfl (by kernel_rfl) (by kernel_rfl) (by kernel_rfl) (fun _ _ _ h => h) (Or.inl ⟨by kernel_rfl, ?_⟩) (by assumption) ?_
                      rotate_left
                      · (intro w hSw; (try dsimp only at hSw); go_simp <;> with_reducible rfl)
                      try simp only [Act.put, List.setIfInBounds_toArray, List.set_cons_zero, List.set_cons_succ]
                      refine wpAnyH_take (i := 8) (oi := ({ dst := some 43, op := Op.indexAddr 27 (Operand.tmp 41) (Operand.tmp 42), type := 0, pos := "l08_tests.go:142", after := #[{ on := 6, ground := Ground.data }, { on := 7, ground := Ground.data }, { on := 5, ground := Ground.guard }], guard := some (5, true) } : Oper)) (v := ?_) rfl (by kernel_rfl) (by kernel_rfl) (by kernel_rfl) (fun _ _ _ h => h) (Or.inl ⟨by kernel_rfl, ?_⟩) (by assumption) ?_
                      rotate_left
                      · (intro w hSw; (try dsimp only at hSw); go_simp <;> with_reducible rfl)
                      try simp only [Act.put, List.setIfInBounds_toArray, List.set_cons_zero, List.set_cons_succ]
                      refine wpAnyH_take (i := 9) (oi := ({ dst := some 44, op := Op.fieldAddr 35 (Operand.tmp 43) 3, type := 0, pos := "l08_tests.go:142", after := #[{ on := 8, ground := Ground.data }, { on := 5, ground := Ground.guard }], guard := some (5, true) } : Oper)) (v := ?_) rfl (by kernel_rfl) (by kernel_rfl) (by kernel_rfl) (fun _ _ _ h => h) (Or.inl ⟨by kernel_rfl, ?_⟩) (by assumption) ?_
                      rotate_left
                      · (intro w hSw; (try dsimp only at hSw); go_simp <;> with_reducible rfl)
                      try simp only [Act.put, List.setIfInBounds_toArray, List.set_cons_zero, List.set_cons_succ]
                      refine wpAnyH_take (i := 10) (oi := ({ dst := some 45, op := Op.load 2 (Operand.tmp 44), type := 2, pos := "l08_tests.go:142", after := #[{ on := 9, ground := Ground.data }, { on := 5, ground := Ground.guard }], guard := some (5, true) } : Oper)) (v := ?_) rfl (by kernel_rfl) (by kernel_rfl) (by kernel_rfl) (fun _ _ _ h => h) (Or.inl ⟨by kernel_rfl, ?_⟩) (by assumption) ?_
                      rotate_left
                      · (intro w hSw; (try dsimp only at hSw); go_simp <;> with_reducible rfl)
                      try simp only [Act.put, List.setIfInBounds_toArray, List.set_cons_zero, List.set_cons_succ]
                      refine wpAnyH_take (i := 11) (oi := ({ dst := some 46, op := Op.move (Operand.tmp 0), type := 27, pos := "l08_tests.go:142", after := #[{ on := 5, ground := Ground.guard }], guard := some (5, true) } : Oper)) (v := ?_) rfl (by kernel_rfl) (by kernel_rfl) (by kernel_rfl) (fun _ _ _ h => h) (Or.inl ⟨by kernel_rfl, ?_⟩) (by assumption) ?_
                      rotate_left
                      · (intro w hSw; (try dsimp only at hSw); go_simp <;> with_reducible rfl)
                      try simp only [Act.put, List.setIfInBounds_toArray, List.set_cons_zero, List.set_cons_succ]
                      refine wpAnyH_take (i := 12) (oi := ({ dst := some 47, op := Op.move (Operand.tmp 9), type := 3, pos := "l08_tests.go:142", after := #[{ on := 5, ground := Ground.guard }], guard := some (5, true) } : Oper)) (v := ?_) rfl (by kernel_rfl) (by kernel_rfl) (by kernel_rfl) (fun _ _ _ h => h) (Or.inl ⟨by kernel_rfl, ?_⟩) (by assumption) ?_
                      rotate_left
                      · (intro w hSw; (try dsimp only at hSw); go_simp <;> with_reducible rfl)
                      try simp only [Act.put, List.setIfInBounds_toArray, List.set_cons_zero, List.set_cons_succ]
                      refine wpAnyH_take (i := 13) (oi := ({ dst := some 48, op := Op.indexAddr 27 (Operand.tmp 46) (Operand.tmp 47), type := 0, pos := "l08_tests.go:142", after := #[{ on := 11, ground := Ground.data }, { on := 12, ground := Ground.data }, { on := 5, ground := Ground.guard }], guard := some (5, true) } : Oper)) (v := ?_) rfl (by kernel_rfl) (by kernel_rfl) (by kernel_rfl) (fun _ _ _ h => h) (Or.inl ⟨by kernel_rfl, ?_⟩) (by assumption) ?_
                      rotate_left
                      · (intro w hSw; (try dsimp only at hSw); go_simp <;> with_reducible rfl)
                      try simp only [Act.put, List.setIfInBounds_toArray, List.set_cons_zero, List.set_cons_succ]
                      refine wpAnyH_take (i := 14) (oi := ({ dst := some 49, op := Op.fieldAddr 35 (Operand.tmp 48) 3, type := 0, pos := "l08_tests.go:142", after := #[{ on := 13, ground := Ground.data }, { on := 5, ground := Ground.guard }], guard := some (5, true) } : Oper)) (v := ?_) rfl (by kernel_rfl) (by kernel_rfl) (by kernel_rfl) (fun _ _ _ h => h) (Or.inl ⟨by kernel_rfl, ?_⟩) (by assumption) ?_
                      rotate_left
                      · (intro w hSw; (try dsimp only at hSw); go_simp <;> with_reducible rfl)
                      try simp only [Act.put, List.setIfInBounds_toArray, List.set_cons_zero, List.set_cons_succ]
                      refine wpAnyH_take (i := 15) (oi := ({ dst := some 50, op := Op.load 2 (Operand.tmp 49), type := 2, pos := "l08_tests.go:142", after := #[{ on := 14, ground := Ground.data }, { on := 5, ground := Ground.guard }], guard := some (5, true) } : Oper)) (v := ?_) rfl (by kernel_rfl) (by kernel_rfl) (by kernel_rfl) (fun _ _ _ h => h) (Or.inl ⟨by kernel_rfl, ?_⟩) (by assumption) ?_
                      rotate_left
                      · (intro w hSw; (try dsimp only at hSw); go_simp <;> with_reducible rfl)
                      try simp only [Act.put, List.setIfInBounds_toArray, List.set_cons_zero, List.set_cons_succ]
                      refine wpAnyH_take (i := 16) (oi := ({ dst := some 51, op := Op.binOp BinOp.sub 2 (Operand.tmp 45) (Operand.tmp 50) 2, type := 2, pos := "l08_tests.go:142", after := #[{ on := 10, ground := Ground.data }, { on := 15, ground := Ground.data }, { on := 5, ground := Ground.guard }], guard := some (5, true) } : Oper)) (v := ?_) rfl (by kernel_rfl) (by kernel_rfl) (by kernel_rfl) (fun _ _ _ h => h) (Or.inl ⟨by kernel_rfl, ?_⟩) (by assumption) ?_
                      rotate_left
                      · (intro w hSw; (try dsimp only at hSw); go_simp <;> with_reducible rfl)
                      try simp only [Act.put, List.setIfInBounds_toArray, List.set_cons_zero, List.set_cons_succ]
                      refine wpAnyH_take (i := 18) (oi := ({ dst := some 53, op := Op.move (Operand.tmp 1), type := 2, pos := "l08_tests.go:142", after := #[{ on := 5, ground := Ground.guard }], guard := some (5, true) } : Oper)) (v := ?_) rfl (by kernel_rfl) (by kernel_rfl) (by kernel_rfl) (fun _ _ _ h => h) (Or.inl ⟨by kernel_rfl, ?_⟩) (by assumption) ?_
                      rotate_left
                      · (intro w hSw; (try dsimp only at hSw); go_simp <;> with_reducible rfl)
                      try simp only [Act.put, List.setIfInBounds_toArray, List.set_cons_zero, List.set_cons_succ]
                      refine wpAnyH_ready (rs := [17]) (by kernel_rfl) (by simp) ?_
                      refine AllReadyH.cons (o := ({ dst := some 52, op := Op.call { callee := Callee.value (Operand.func 71), args := #[Operand.tmp 51], argTypes := #[2] }, type := 2, pos := "l08_tests.go:142", after := #[{ on := 16, ground := Ground.data }, { on := 5, ground := Ground.chain }, { on := 5, ground := Ground.guard }], guard := some (5, true) } : Oper)) rfl (fun K hK => ?_) ?_
                      · go_simp
                        (go_at_call 71; refine (CA.out _).mono ?_; rintro e w' ⟨rfl, rfl⟩)
                        go_wp2_with fail
                        refine hK.out _ _ ?_ (fun hHeld => ?_)
                        · (try dsimp only)
                          first | done | go_keep
                        clear hK K
                        try simp only [Act.put, List.setIfInBounds_toArray, List.set_cons_zero, List.set_cons_succ]
                        refine wpAnyH_take (i := 19) (oi := ({ dst := some 54, op := Op.binOp BinOp.leq 2 (Operand.tmp 52) (Operand.tmp 53) 2, type := 4, pos := "l08_tests.go:142", after := #[{ on := 17, ground := Ground.data }, { on := 18, ground := Ground.data }, { on := 5, ground := Ground.guard }], guard := some (5, true) } : Oper)) (v := ?_) rfl (by kernel_rfl) (by kernel_rfl) (by kernel_rfl) (fun _ _ _ h => h) (Or.inl ⟨by kernel_rfl, ?_⟩) (by assumption) ?_
                        rotate_left
                        · (intro w hSw; (try dsimp only at hSw); go_simp <;> with_reducible rfl)
                        try simp only [Act.put, List.setIfInBounds_toArray, List.set_cons_zero, List.set_cons_succ]
                        refine wpAnyH_take (i := 20) (oi := ({ dst := some 55, op := Op.pick (Operand.tmp 40) (Operand.tmp 54) (Operand.const (Value.bool false)), type := 4, pos := "l08_tests.go:142", after := #[{ on := 5, ground := Ground.data }, { on := 19, ground := Ground.data }], guard := none } : Oper)) (v := ?_) rfl (by kernel_rfl) (by kernel_rfl) (by kernel_rfl) (fun _ _ _ h => h) (Or.inl ⟨by kernel_rfl, ?_⟩) (by assumption) ?_
                        rotate_left
                        · (intro w hSw; (try dsimp only at hSw); go_simp <;> with_reducible rfl)
                        try simp only [Act.put, List.setIfInBounds_toArray, List.set_cons_zero, List.set_cons_succ]
                        refine wpAnyH_done (by kernel_rfl) ?_ _
                        have HBD := Lib.hid (bt hbj.out bA0)
                        go_wp2_with fail
                        exact ⟨⟨j + 1, by omega, by rw [hs.out], by go_num, HBD⟩, by simp only [intOf]; omega⟩
                      exact AllReadyH.nil
                    exact AllReadyH.nil
              · have hljz : ¬ (j : Int) < (xs.length : Int) := by omega
                have hjn : xs.take j = xs := List.take_of_length_le (by omega)
                rw [hjn]
                clear hjn
                obtain ⟨bx, offx, capx, hn1, hbl, hcc⟩ := (HV.out.below hbj.out).at_ hlt
                simp only [Value.slice.injEq, Option.some.injEq, Addr.mk.injEq] at hn1
                obtain ⟨⟨rfl, rfl, -⟩, -, -⟩ := hn1
                have d3 := (hcc k hlt).c3
                have hltz : (k : Int) < (xs.length : Int) := by omega
                have k0 : (0 : Int) ≤ (k : Int) := by omega
                clear hcc
                by_cases hg : m < Tq.cn n (Tq.wd xs) xs[k].de
                · have hbs : Hid (Tq.Bst (Tq.cn n (Tq.wd xs)) (Tq.wd (xs.take (k + 1))) xs[k].de (Tq.cn n (Tq.wd xs) xs[k].de)) := Lib.hid (by rw [Tq.wd_yes hlt HWK.out]; exact hB.out.put (Or.inl hg))
                  go_wp2_with fail
                  exact ⟨⟨k + 1, _, _, by omega, rfl, rfl, by go_num, hbs, hbj⟩, by simp only [intOf]; omega⟩
                · by_cases hg2 : Tq.cn n (Tq.wd xs) xs[k].de = m
                  · have hgb : (Tq.cn n (Tq.wd xs) xs[k].de == m) = true := beq_iff_eq.2 hg2
                    by_cases hg3 : xs[k].de < bb
                    · have hbs : Hid (Tq.Bst (Tq.cn n (Tq.wd xs)) (Tq.wd (xs.take (k + 1))) xs[k].de (Tq.cn n (Tq.wd xs) xs[k].de)) := Lib.hid (by rw [Tq.wd_yes hlt HWK.out]; exact hB.out.put (Or.inr ⟨hg2, hg3⟩))
                      clear hg2
                      go_wp2_with fail
                      exact ⟨⟨k + 1, _, _, by omega, rfl, rfl, by go_num, hbs, hbj⟩, by simp only [intOf]; omega⟩
                    · have hbs : Hid (Tq.Bst (Tq.cn n (Tq.wd xs)) (Tq.wd (xs.take (k + 1))) bb m) := Lib.hid (by rw [Tq.wd_yes hlt HWK.out]; exact hB.out.keep (Tq.cn_pos hn0.out (Tq.wd_mem hlt HWK.out)) (by omega) (fun _ => by omega))
                      clear hg2
                      go_wp2_with fail
                      exact ⟨⟨k + 1, _, _, by omega, rfl, rfl, by go_num, hbs, hbj⟩, by simp only [intOf]; omega⟩
                  · have hgb : (Tq.cn n (Tq.wd xs) xs[k].de == m) = false := beq_eq_false_iff_ne.2 hg2
                    have hbs : Hid (Tq.Bst (Tq.cn n (Tq.wd xs)) (Tq.wd (xs.take (k + 1))) bb m) := Lib.hid (by rw [Tq.wd_yes hlt HWK.out]; exact hB.out.keep (Tq.cn_pos hn0.out (Tq.wd_mem hlt HWK.out)) (by omega) (fun h => absurd h hg2))
                    clear hg2
                    go_wp2_with fail
                    exact ⟨⟨k + 1, _, _, by omega, rfl, rfl, by go_num, hbs, hbj⟩, by simp only [intOf]; omega⟩
        · have hkn : xs.take k = xs := List.take_of_length_le (by omega)
          rw [hkn] at hB
          have hkz : ¬ (k : Int) < (xs.length : Int) := by omega
          clear hkn
          rcases Nat.eq_zero_or_pos (Tq.wd xs).length with h0 | h0
          · have E := Lib.hid (Tq.wp_nil hq.out hs0.out h0)
            have hm : m = 0 := by rcases hB.out.has with ⟨-, -, h3⟩ | ⟨h3, -⟩; exact h3; rw [List.eq_nil_of_length_eq_zero h0] at h3; cases h3
            clear h0
            subst hm
            go_wp2_with fail
            exact bodyPost_ret (v := .tuple #[.int .i64 0, .int .i64 0, .int .i64 3]) (by simp [results, Tryd.results35, go_sem]) rfl ⟨by rw [E.out.1, E.out.2.1, E.out.2.2], hb.out⟩
          · have E := Lib.hid (Tq.wp_yes hq.out hs0.out h0 hB.out (List.Perm.refl _) (fun _ => rfl))
            have hm : (m == 0) = false := beq_eq_false_iff_ne.2 (by have := (hB.out.pos (fun d hd => Tq.cn_pos hn0.out hd) h0).1; omega)
            clear h0
            go_wp2_with fail
            exact bodyPost_ret (v := .tuple #[.int .i64 bb, .int .i64 m, .int .i64 0]) (by simp [results, Tryd.results35, go_sem]) rfl ⟨by rw [E.out.1, E.out.2.1, E.out.2.2], hb.out⟩
end Go.Proofs.YteileaeeiejonaaDoor
