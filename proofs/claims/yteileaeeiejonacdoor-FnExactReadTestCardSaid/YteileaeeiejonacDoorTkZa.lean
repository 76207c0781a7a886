/-
  One test read back out of its text, by the model. No condition of its own.
-/
import Derived.Test.YteileaeeiejonacDoorTkY
import Derived.Test.YteileaeeiejonacDoorTkA
import Derived.Test.YteileaeeiejonacDoorTkZ
import Derived.Deep.QuietTactic
import Derived.BigQuiet
import Derived.StillTailTactics
import Derived.Test.YteileaeeiejonacDoorReadL
namespace Go.Proofs.YteileaeeiejonacDoor
open Go.RowKit Go.ChangeShapes Go.WideShapes Go.Deep
set_option linter.unusedVariables false
set_option maxRecDepth 100000

namespace Tq
/-- the last kind below k with a name -/
def kU (p : List UInt8) : Nat → Int
  | 0 => 0
  | k + 1 => if 1 ≤ k ∧ p = (nmB (k : Int)).data.toList then (k : Int) else kU p k
theorem kU_all (p : List UInt8) : kU p 4 = kindOf p := by
  have e : kU p 4 = if p = (nmB 3).data.toList then 3 else if p = (nmB 2).data.toList then 2 else if p = (nmB 1).data.toList then 1 else 0 := by
    simp [kU]
  rw [e]
  unfold kindOf
  by_cases h1 : p = (nmB 1).data.toList
  · subst h1; decide
  · by_cases h2 : p = (nmB 2).data.toList
    · subst h2; decide
    · rw [if_neg h1, if_neg h2, if_neg h2, if_neg h1]
theorem kU_one (p : List UInt8) : kU p 1 = 0 := by simp [kU]
theorem kU_yes {p : List UInt8} {k : Nat} (h : 1 ≤ k) (hp : p = (nmB (k : Int)).data.toList) : kU p (k + 1) = k := by rw [kU, if_pos ⟨h, hp⟩]
theorem kU_no {p : List UInt8} {k : Nat} (hp : p ≠ (nmB (k : Int)).data.toList) : kU p (k + 1) = kU p k := by rw [kU, if_neg (fun h => hp h.2)]
end Tq
set_option maxHeartbeats 12800000 in
theorem l08Read_any (s : ByteArray) (w : World) (hs : s.size ≤ 1048576) :
    Calls Tryd.prog 63 #[.string s] w (RRt w (Tq.rt s.data.toList)) := by
  have HB := Lib.hid (boxTst_below w Tq.tz 40)
  have C := Lib.hid (l01Split_any s 32 (boxTst w Tq.tz 40) hs)
  have HK : Hid (∀ w1, Below (boxTst w Tq.tz 40).heap.size (boxTst w Tq.tz 40) w1 → Whole w1 w.heap.size 40 (qcs Tq.tz)) := Lib.hid (fun w1 h => (Whole.new w _ (qcs Tq.tz)).all h)
  have hpl := spl_part_len 32 s.data.toList
  have hsl : s.data.toList.length = s.size := by simp
  rw [hsl] at hpl
  have hpos := List.length_pos_iff.2 (spl_ne 32 s.data.toList)
  rcases (show ((spl 32 s.data.toList).length ≠ 2 ∧ Tq.rt s.data.toList = none) ∨ ∃ p r, spl 32 s.data.toList = [p, r] from by
    rcases spl_two 32 s.data.toList with ⟨h, hs⟩ | ⟨p, r, _, _, _, hs⟩ | ⟨p, r, _, _, _, hs⟩
    · exact Or.inl ⟨by rw [hs]; simp, Tq.rt_one hs⟩
    · exact Or.inr ⟨p, r, hs⟩
    · exact Or.inl ⟨by omega, Tq.rt_many hs⟩) with ⟨h2, hr0⟩ | ⟨p, r, hP⟩
  · have hr := Lib.hid hr0
    have hz2 : (((spl 32 s.data.toList).length : Int) != 2) = true := by rw [bne_iff_ne]; omega
    clear hpl hsl hr0 h2
    generalize spl 32 s.data.toList = P at *
    generalize Tq.rt s.data.toList = o at *
    unfold boxTst Tq.tz at C HB HK
    go_enter Tryd.func63, Tryd.ntmps63
    go_wp2_with fail
    refine C.out.mono ?_
    rintro e w1 ⟨v, rfl, hst, b1⟩
    obtain ⟨gw, cap, rfl, hg, hc⟩ := strs_form hst hpos
    have B1 := Lib.hid (bt HB.out b1)
    have KW := Lib.hid (HK.out w1 b1)
    clear b1 hst hc hg
    have RW := Lib.hid (setQ_whole KW.out Tq.tz)
    have RB := Lib.hid (setQ_below B1.out (Nat.le_refl _) Tq.tz)
    obtain ⟨⟨z0, z1, z2, z3, z4⟩, f0, f1, f2, f3, f4⟩ := qcs_zero KW.out
    go_wp2_with fail
    change bodyPost _ _ _ _ _ (setQ w1 w.heap.size Tq.tz)
    generalize setQ w1 w.heap.size Tq.tz = WZ at *
    obtain ⟨⟨d0, d1, d2, d3, d4⟩, -⟩ := qcs_zero RW.out
    exact bodyPost_ret (v := .tuple #[.agg #[.int .i64 0, .int .i64 0, .int .i64 0, .int .i64 0, .int .i64 0], .bool false]) (by simp [results, Tryd.results63, go_sem, d0, d1, d2, d3, d4]) rfl (RRt.no hr.out RB.out)
  · have hrt := Lib.hid (Tq.rt_two hP)
    rw [hP] at C hpl hpos
    have hrl1 : r.length ≤ s.size := hpl r (by simp)
    have CR := Lib.hid (fun W => specReadList_any ⟨r.toArray⟩ W (by rw [sz_mk]; omega))
    have hrr : (⟨r.toArray⟩ : ByteArray).data.toList = r := by simp
    rw [hrr] at CR
    rw [hrt.out]
    clear hsl hrr hpl hP hrt hrl1
    generalize hrl : rl r = o at *
    cases o with
    | none =>
      have hr : Hid ((none : Option (List Int)).bind (Tq.t4 (Tq.kindOf p)) = none) := Lib.hid rfl
      clear hrl
      unfold boxTst Tq.tz at C HB HK
      go_enter Tryd.func63, Tryd.ntmps63
      go_wp2_with fail
      refine C.out.mono ?_
      rintro e w1 ⟨v, rfl, hst, b1⟩
      obtain ⟨gw, cap, rfl, hg, hc⟩ := strs_form hst hpos
      have k1 : w1.cell? ⟨gw, 1, none⟩ = some (.string ⟨r.toArray⟩) := hc 1 _ rfl
      have B1 := Lib.hid (bt HB.out b1)
      have K1 := Lib.hid (HK.out w1 b1)
      clear b1 hst hc hg
      go_wp2_with fail
      refine (CR.out _).mono ?_
      rintro e w2 ⟨u, rfl, ho, b2⟩
      have KW := Lib.hid (K1.out.all b2)
      have B2 := Lib.hid (bt B1.out b2)
      obtain ⟨ua, ucap, rfl⟩ := (Own.sl ho).form
      clear b2 ho k1
      have RW := Lib.hid (setQ_whole KW.out Tq.tz)
      have RB := Lib.hid (setQ_below B2.out (Nat.le_refl _) Tq.tz)
      obtain ⟨⟨z0, z1, z2, z3, z4⟩, f0, f1, f2, f3, f4⟩ := qcs_zero KW.out
      go_wp2_with fail
      change bodyPost _ _ _ _ _ (setQ w2 w.heap.size Tq.tz)
      generalize setQ w2 w.heap.size Tq.tz = WZ at *
      obtain ⟨⟨d0, d1, d2, d3, d4⟩, -⟩ := qcs_zero RW.out
      exact bodyPost_ret (v := .tuple #[.agg #[.int .i64 0, .int .i64 0, .int .i64 0, .int .i64 0, .int .i64 0], .bool false]) (by simp [results, Tryd.results63, go_sem, d0, d1, d2, d3, d4]) rfl (RRt.no hr.out RB.out)
    | some zs =>
      by_cases hz : zs.length = 4
      · obtain ⟨a, b, c, d, rfl⟩ := Tq.four hz
        clear hz
        have hr0 : (some [a, b, c, d]).bind (Tq.t4 (Tq.kindOf p)) = Tq.t4 (Tq.kindOf p) [a, b, c, d] := rfl
        rw [hr0]
        clear hrl hr0
        unfold boxTst Tq.tz at C HB HK
        go_enter Tryd.func63, Tryd.ntmps63
        go_wp2_with fail
        refine C.out.mono ?_
        rintro e w1 ⟨v, rfl, hst, b1⟩
        obtain ⟨gw, cap, rfl, hgw, hcw⟩ := strs_form hst hpos
        have k0 := Lib.hid (hcw 0 _ rfl)
        have k1 : w1.cell? ⟨gw, 1, none⟩ = some (.string ⟨r.toArray⟩) := hcw 1 _ rfl
        have B1 := Lib.hid (bt HB.out b1)
        have K1 := Lib.hid (HK.out w1 b1)
        clear b1 hst hcw
        go_wp2_with fail
        refine (CR.out _).mono ?_
        rintro e w2 ⟨u, rfl, ho, b2⟩
        have K2 := Lib.hid (K1.out.all b2)
        have B2 := Lib.hid (bt B1.out b2)
        have k2 := Lib.hid ((b2.cell (p := ⟨gw, 0, none⟩) hgw).trans k0.out)
        have hgw2 := Lib.hid (Nat.lt_of_lt_of_le hgw b2.size)
        obtain ⟨g, cap2, rfl, hc⟩ := own_rowT ho (by simp)
        have e0 : w2.cell? ⟨g, 0, none⟩ = some (.int .i64 a) := hc 0 _ rfl
        have e1 : w2.cell? ⟨g, 1, none⟩ = some (.int .i64 b) := hc 1 _ rfl
        have e2 : w2.cell? ⟨g, 2, none⟩ = some (.int .i64 c) := hc 2 _ rfl
        have e3 : w2.cell? ⟨g, 3, none⟩ = some (.int .i64 d) := hc 3 _ rfl
        have hln : ((some [a, b, c, d]).getD []).length = 4 := rfl
        rw [hln]
        have hg : g < w2.heap.size := World.block_lt_of_cell? w2 _ e0
        have hne : w2.heap.size ≠ g := Nat.ne_of_gt hg
        clear b2 ho hc hln k1 k0 hgw
        go_wp2_with fail
        refine wp_region_held_drew (S := (fun w' => w'.cell? ⟨g, 0, none⟩ = some (.int .i64 a) ∧ w'.cell? ⟨g, 1, none⟩ = some (.int .i64 b) ∧ w'.cell? ⟨g, 2, none⟩ = some (.int .i64 c) ∧ w'.cell? ⟨g, 3, none⟩ = some (.int .i64 d))) (by kernel_rfl) ?_ (fun hHeld => ?_)
        · (try dsimp only)
          first | done | go_keep
        refine wpAnyH_take (i := 0) (oi := ({ dst := some 30, op := Op.move (Operand.tmp 5), type := 24, pos := "l08_tests.go:246", after := #[], guard := none } : Oper)) (v := ?_) rfl (by kernel_rfl) (by kernel_rfl) (by kernel_rfl) (fun _ _ _ h => h) (Or.inl ⟨by kernel_rfl, ?_⟩) (by assumption) ?_
        rotate_left
        · (intro w hSw; (try dsimp only at hSw); go_simp <;> with_reducible rfl)
        try simp only [Act.put, List.setIfInBounds_toArray, List.set_cons_zero, List.set_cons_succ]
        refine wpAnyH_take (i := 1) (oi := ({ dst := some 31, op := Op.indexAddr 24 (Operand.tmp 30) (Operand.const (Value.int IntKind.i64 0)), type := 0, pos := "l08_tests.go:246", after := #[{ on := 0, ground := Ground.data }], guard := none } : Oper)) (v := ?_) rfl (by kernel_rfl) (by kernel_rfl) (by kernel_rfl) (fun _ _ _ h => h) (Or.inl ⟨by kernel_rfl, ?_⟩) (by assumption) ?_
        rotate_left
        · (intro w hSw; (try dsimp only at hSw); go_simp <;> with_reducible rfl)
        try simp only [Act.put, List.setIfInBounds_toArray, List.set_cons_zero, List.set_cons_succ]
        refine wpAnyH_take (i := 2) (oi := ({ dst := some 32, op := Op.load 2 (Operand.tmp 31), type := 2, pos := "l08_tests.go:246", after := #[{ on := 1, ground := Ground.data }], guard := none } : Oper)) (v := ?_) rfl (by kernel_rfl) (by kernel_rfl) (by kernel_rfl) (fun _ _ _ h => h) (Or.inl ⟨by kernel_rfl, ?_⟩) (by assumption) ?_
        rotate_left
        · (intro w hSw; (try dsimp only at hSw); go_simp <;> with_reducible rfl)
        try simp only [Act.put, List.setIfInBounds_toArray, List.set_cons_zero, List.set_cons_succ]
        refine wpAnyH_take (i := 3) (oi := ({ dst := some 33, op := Op.move (Operand.tmp 5), type := 24, pos := "l08_tests.go:246", after := #[], guard := none } : Oper)) (v := ?_) rfl (by kernel_rfl) (by kernel_rfl) (by kernel_rfl) (fun _ _ _ h => h) (Or.inl ⟨by kernel_rfl, ?_⟩) (by assumption) ?_
        rotate_left
        · (intro w hSw; (try dsimp only at hSw); go_simp <;> with_reducible rfl)
        try simp only [Act.put, List.setIfInBounds_toArray, List.set_cons_zero, List.set_cons_succ]
        refine wpAnyH_take (i := 4) (oi := ({ dst := some 34, op := Op.indexAddr 24 (Operand.tmp 33) (Operand.const (Value.int IntKind.i64 1)), type := 0, pos := "l08_tests.go:246", after := #[{ on := 3, ground := Ground.data }], guard := none } : Oper)) (v := ?_) rfl (by kernel_rfl) (by kernel_rfl) (by kernel_rfl) (fun _ _ _ h => h) (Or.inl ⟨by kernel_rfl, ?_⟩) (by assumption) ?_
        rotate_left
        · (intro w hSw; (try dsimp only at hSw); go_simp <;> with_reducible rfl)
        try simp only [Act.put, List.setIfInBounds_toArray, List.set_cons_zero, List.set_cons_succ]
        refine wpAnyH_take (i := 5) (oi := ({ dst := some 35, op := Op.load 2 (Operand.tmp 34), type := 2, pos := "l08_tests.go:246", after := #[{ on := 4, ground := Ground.data }], guard := none } : Oper)) (v := ?_) rfl (by kernel_rfl) (by kernel_rfl) (by kernel_rfl) (fun _ _ _ h => h) (Or.inl ⟨by kernel_rfl, ?_⟩) (by assumption) ?_
        rotate_left
        · (intro w hSw; (try dsimp only at hSw); go_simp <;> with_reducible rfl)
        try simp only [Act.put, List.setIfInBounds_toArray, List.set_cons_zero, List.set_cons_succ]
        refine wpAnyH_take (i := 6) (oi := ({ dst := some 36, op := Op.move (Operand.tmp 5), type := 24, pos := "l08_tests.go:246", after := #[], guard := none } : Oper)) (v := ?_) rfl (by kernel_rfl) (by kernel_rfl) (by kernel_rfl) (fun _ _ _ h => h) (Or.inl ⟨by kernel_rfl, ?_⟩) (by assumption) ?_
        rotate_left
        · (intro w hSw; (try dsimp only at hSw); go_simp <;> with_reducible rfl)
        try simp only [Act.put, List.setIfInBounds_toArray, List.set_cons_zero, List.set_cons_succ]
        refine wpAnyH_take (i := 7) (oi := ({ dst := some 37, op := Op.indexAddr 24 (Operand.tmp 36) (Operand.const (Value.int IntKind.i64 2)), type := 0, pos := "l08_tests.go:246", after := #[{ on := 6, ground := Ground.data }], guard := none } : Oper)) (v := ?_) rfl (by kernel_rfl) (by kernel_rfl) (by kernel_rfl) (fun _ _ _ h => h) (Or.inl ⟨by kernel_rfl, ?_⟩) (by assumption) ?_
        rotate_left
        · (intro w hSw; (try dsimp only at hSw); go_simp <;> with_reducible rfl)
        try simp only [Act.put, List.setIfInBounds_toArray, List.set_cons_zero, List.set_cons_succ]
        refine wpAnyH_take (i := 8) (oi := ({ dst := some 38, op := Op.load 2 (Operand.tmp 37), type := 2, pos := "l08_tests.go:246", after := #[{ on := 7, ground := Ground.data }], guard := none } : Oper)) (v := ?_) rfl (by kernel_rfl) (by kernel_rfl) (by kernel_rfl) (fun _ _ _ h => h) (Or.inl ⟨by kernel_rfl, ?_⟩) (by assumption) ?_
        rotate_left
        · (intro w hSw; (try dsimp only at hSw); go_simp <;> with_reducible rfl)
        try simp only [Act.put, List.setIfInBounds_toArray, List.set_cons_zero, List.set_cons_succ]
        refine wpAnyH_take (i := 9) (oi := ({ dst := some 39, op := Op.move (Operand.tmp 5), type := 24, pos := "l08_tests.go:246", after := #[], guard := none } : Oper)) (v := ?_) rfl (by kernel_rfl) (by kernel_rfl) (by kernel_rfl) (fun _ _ _ h => h) (Or.inl ⟨by kernel_rfl, ?_⟩) (by assumption) ?_
        rotate_left
        · (intro w hSw; (try dsimp only at hSw); go_simp <;> with_reducible rfl)
        try simp only [Act.put, List.setIfInBounds_toArray, List.set_cons_zero, List.set_cons_succ]
        refine wpAnyH_take (i := 10) (oi := ({ dst := some 40, op := Op.indexAddr 24 (Operand.tmp 39) (Operand.const (Value.int IntKind.i64 3)), type := 0, pos := "l08_tests.go:246", after := #[{ on := 9, ground := Ground.data }], guard := none } : Oper)) (v := ?_) rfl (by kernel_rfl) (by kernel_rfl) (by kernel_rfl) (fun _ _ _ h => h) (Or.inl ⟨by kernel_rfl, ?_⟩) (by assumption) ?_
        rotate_left
        · (intro w hSw; (try dsimp only at hSw); go_simp <;> with_reducible rfl)
        try simp only [Act.put, List.setIfInBounds_toArray, List.set_cons_zero, List.set_cons_succ]
        refine wpAnyH_take (i := 11) (oi := ({ dst := some 41, op := Op.load 2 (Operand.tmp 40), type := 2, pos := "l08_tests.go:246", after := #[{ on := 10, ground := Ground.data }], guard := none } : Oper)) (v := ?_) rfl (by kernel_rfl) (by kernel_rfl) (by kernel_rfl) (fun _ _ _ h => h) (Or.inl ⟨by kernel_rfl, ?_⟩) (by assumption) ?_
        rotate_left
        · (intro w hSw; (try dsimp only at hSw); go_simp <;> with_reducible rfl)
        try simp only [Act.put, List.setIfInBounds_toArray, List.set_cons_zero, List.set_cons_succ]
        refine wpAnyH_take (i := 12) (oi := ({ dst := some 42, op := Op.build 40 #[(1, Operand.tmp 32), (2, Operand.tmp 35), (3, Operand.tmp 38), (4, Operand.tmp 41)], type := 40, pos := "l08_tests.go:246", after := #[{ on := 2, ground := Ground.data }, { on := 5, ground := Ground.data }, { on := 8, ground := Ground.data }, { on := 11, ground := Ground.data }], guard := none } : Oper)) (v := ?_) rfl (by kernel_rfl) (by kernel_rfl) (by kernel_rfl) (fun _ _ _ h => h) (Or.inl ⟨by kernel_rfl, ?_⟩) (by assumption) ?_
        rotate_left
        · (intro w hSw; (try dsimp only at hSw); go_simp <;> with_reducible rfl)
        try simp only [Act.put, List.setIfInBounds_toArray, List.set_cons_zero, List.set_cons_succ]
        refine wpAnyH_ready (rs := [13]) (by kernel_rfl) (by simp) ?_
        refine AllReadyH.cons (o := ({ dst := some 7, op := Op.alloc 40, type := 0, pos := "l08_tests.go:246", after := #[], guard := none } : Oper)) rfl (fun K hK => ?_) ?_
        · go_simp
          refine hK.out _ _ ?_ (fun hHeld => ?_)
          · (try dsimp only)
            first | done | go_keep
          clear hK K
          try simp only [Act.put, List.setIfInBounds_toArray, List.set_cons_zero, List.set_cons_succ]
          refine wpAnyH_ready (rs := [14]) (by kernel_rfl) (by simp) ?_
          refine AllReadyH.cons (o := ({ dst := none, op := Op.store 40 (Operand.tmp 7) (Operand.tmp 42), type := 0, pos := "l08_tests.go:246", after := #[{ on := 13, ground := Ground.data }, { on := 12, ground := Ground.data }, { on := 0, ground := Ground.phase }, { on := 1, ground := Ground.phase }, { on := 2, ground := Ground.phase }, { on := 3, ground := Ground.phase }, { on := 4, ground := Ground.phase }, { on := 5, ground := Ground.phase }, { on := 6, ground := Ground.phase }, { on := 7, ground := Ground.phase }, { on := 8, ground := Ground.phase }, { on := 9, ground := Ground.phase }, { on := 10, ground := Ground.phase }, { on := 11, ground := Ground.phase }, { on := 12, ground := Ground.phase }, { on := 13, ground := Ground.phase }], guard := none } : Oper)) rfl (fun K hK => ?_) ?_
          · go_simp
            refine hK.out _ _ ?_ (fun hHeld => ?_)
            · (try dsimp only)
              first | done | go_keep
            clear hK K
            try simp only [Act.put, List.setIfInBounds_toArray, List.set_cons_zero, List.set_cons_succ]
            refine wpAnyH_done (by kernel_rfl) ?_ _
            have X0 := Lib.hid (Whole.new w2.drew 40 (qcs (⟨0, a, b, c, d⟩ : Tst)))
            have BX := Lib.hid ((show Below w2.heap.size w2 w2.drew from below_drewW _ 1).alloc (Nat.le_refl _) (.cells (qcs (⟨0, a, b, c, d⟩ : Tst)) 40))
            change Exit.then _ _ _ _ ((w2.drew).alloc (.cells (qcs (⟨0, a, b, c, d⟩ : Tst)) 40))
            have hX : Hid (Whole ((w2.drew).alloc (.cells (qcs (⟨0, a, b, c, d⟩ : Tst)) 40)) w2.heap.size 40 (qcs (⟨Tq.kU p 1, a, b, c, d⟩ : Tst))) := Lib.hid (by rw [Tq.kU_one]; exact X0.out)
            generalize (w2.drew).alloc (.cells (qcs (⟨0, a, b, c, d⟩ : Tst)) 40) = W4 at *
            clear X0 e0 e1 e2 e3 hne hg
            go_wp2_with fail
            go_loopw [8] (fun i wr => ∃ k : Nat, 1 ≤ k ∧ k ≤ 4 ∧ i = .int .i64 k ∧ Hid (Whole wr w2.heap.size 40 (qcs (⟨Tq.kU p k, a, b, c, d⟩ : Tst))) ∧ Hid (Below w2.heap.size w2 wr)) (fun i _ => 4 - (intOf i).toNat)
            case atStart => exact ⟨1, by omega, by omega, rfl, hX, BX⟩
            case round =>
              obtain ⟨k, hk1, hk, rfl, hW, hb⟩ := hrel
              by_cases hlt : k ≤ 3
              · have hltz : (k : Int) ≤ 3 := by omega
                have kw : wr.cell? ⟨gw, 0, none⟩ = some (.string ⟨p.toArray⟩) := (hb.out.cell (p := ⟨gw, 0, none⟩) hgw2.out).trans k2.out
                have CN := fun q => Lib.hid (l08Name_any (k : Int) (wr.drewN q))
                by_cases he : p = (Tq.nmB (k : Int)).data.toList
                · have hn := Lib.hid (Tq.kU_yes hk1 he)
                  have ht2 : ((Tq.nmB (k : Int)).toList == p) = true := by rw [ByteArray.toList_eq, he]; exact beq_self_eq_true _
                  have f0 := hW.out.free 0
                  have x0 : wr.cell? ⟨w2.heap.size, 0, none⟩ = some (.int .i64 (Tq.kU p k)) := hW.out.at_ 0
                  have hP : Hid (∀ n, Whole ((wr.drewN n).setCell ⟨w2.heap.size, 0, none⟩ (.int .i64 (k : Int))) w2.heap.size 40 (qcs (⟨Tq.kU p (k + 1), a, b, c, d⟩ : Tst))) := Lib.hid (fun n => by
                    have := (hW.out.drewN n).put 0 (.int .i64 (k : Int))
                    rw [hn.out]
                    simpa [qcs] using this)
                  have hPb : Hid (∀ n, Below w2.heap.size w2 ((wr.drewN n).setCell ⟨w2.heap.size, 0, none⟩ (.int .i64 (k : Int)))) := Lib.hid (fun n => (below_drewN hb.out n).setCell (p := ⟨w2.heap.size, 0, none⟩) (Nat.le_refl _) _)
                  clear he
                  generalize Tq.nmB (k : Int) = nm at *
                  go_wp2_with fail
                  go_quiet ((go_at_call 99; exact Calls.quiet_of_same ((CN _).out.mono fun _ _ ⟨h, h'⟩ => ⟨h, h'.symm⟩)))
                  go_wp2_with fail
                  exact ⟨⟨k + 1, by omega, by omega, by go_num, Lib.hid (hP.out _), Lib.hid (hPb.out _)⟩, by simp only [intOf]; omega⟩
                · have hn := Lib.hid (Tq.kU_no he)
                  have ht2 : ((Tq.nmB (k : Int)).toList == p) = false := by rw [ByteArray.toList_eq, beq_eq_false_iff_ne]; exact fun h => he h.symm
                  clear he
                  generalize Tq.nmB (k : Int) = nm at *
                  go_wp2_with fail
                  go_quiet ((go_at_call 99; exact Calls.quiet_of_same ((CN _).out.mono fun _ _ ⟨h, h'⟩ => ⟨h, h'.symm⟩)))
                  go_wp2_with fail
                  exact ⟨⟨k + 1, by omega, by omega, by go_num, Lib.hid (by rw [hn.out]; exact hW.out.drewN _), Lib.hid (below_drewN hb.out _)⟩, by simp only [intOf]; omega⟩
              · have hltz : ¬ (k : Int) ≤ 3 := by omega
                have hk4 : k = 4 := by omega
                have hW4 : Hid (Whole wr w2.heap.size 40 (qcs (⟨Tq.kindOf p, a, b, c, d⟩ : Tst))) := Lib.hid (by have := hW.out; rwa [hk4, Tq.kU_all] at this)
                have KW := Lib.hid (K2.out.below hb.out K2.out.lt)
                have B4 := Lib.hid (bt B2.out hb.out)
                have CO := Lib.hid (l08One_any ⟨Tq.kindOf p, a, b, c, d⟩ w2.heap.size 0 wr (qcs_cells hW4.out))
                have htk := Lib.hid (fun h => Tq.t4_ok (k := Tq.kindOf p) (a := a) (b := b) (c := c) (d := d) h)
                have htn := Lib.hid (fun h => Tq.t4_bad (k := Tq.kindOf p) (a := a) (b := b) (c := c) (d := d) h)
                clear hk4 hW hb
                generalize Tq.kindOf p = kd at *
                generalize w2.heap.size = gX at *
                cases hx : Tq.okT ⟨kd, a, b, c, d⟩ with
                | false =>
                  have hr := Lib.hid (htn.out hx)
                  rw [hx] at CO
                  clear hx htn htk
                  go_wp2_with fail
                  refine CO.out.mono ?_
                  rintro e w5 ⟨rfl, rfl⟩
                  have RW := Lib.hid (setQ_whole KW.out Tq.tz)
                  have RB := Lib.hid (setQ_below B4.out (Nat.le_refl _) Tq.tz)
                  obtain ⟨⟨z0, z1, z2, z3, z4⟩, f0, f1, f2, f3, f4⟩ := qcs_zero KW.out
                  go_wp2_with fail
                  change bodyPost _ _ _ _ _ (setQ wr w.heap.size Tq.tz)
                  generalize setQ wr w.heap.size Tq.tz = WZ at *
                  obtain ⟨⟨d0, d1, d2, d3, d4⟩, -⟩ := qcs_zero RW.out
                  exact bodyPost_ret (v := .tuple #[.agg #[.int .i64 0, .int .i64 0, .int .i64 0, .int .i64 0, .int .i64 0], .bool false]) (by simp [results, Tryd.results63, go_sem, d0, d1, d2, d3, d4]) rfl (RRt.no hr.out RB.out)
                | true =>
                  have hr := Lib.hid (htk.out hx)
                  rw [hx] at CO
                  clear hx htn htk
                  obtain ⟨⟨x0, x1, x2, x3, x4⟩, -⟩ := qcs_five hW4.out
                  obtain ⟨⟨z0, z1, z2, z3, z4⟩, f0, f1, f2, f3, f4⟩ := qcs_zero KW.out
                  have RW := Lib.hid (setQ_whole KW.out (⟨kd, a, b, c, d⟩ : Tst))
                  have RB := Lib.hid (setQ_below B4.out (Nat.le_refl _) (⟨kd, a, b, c, d⟩ : Tst))
                  go_wp2_with fail
                  refine CO.out.mono ?_
                  rintro e w5 ⟨rfl, rfl⟩
                  go_wp2_with fail
                  change bodyPost _ _ _ _ _ (setQ wr w.heap.size (⟨kd, a, b, c, d⟩ : Tst))
                  generalize setQ wr w.heap.size (⟨kd, a, b, c, d⟩ : Tst) = WZ at *
                  obtain ⟨⟨d0, d1, d2, d3, d4⟩, -⟩ := qcs_five RW.out
                  simp only [] at d0 d1 d2 d3 d4
                  exact bodyPost_ret (v := .tuple #[.agg #[.int .i64 kd, .int .i64 a, .int .i64 b, .int .i64 c, .int .i64 d], .bool true]) (by simp [results, Tryd.results63, go_sem, d0, d1, d2, d3, d4]) rfl (RRt.yes hr.out RB.out)
          exact AllReadyH.nil
        exact AllReadyH.nil
      · have hr : Hid ((some zs).bind (Tq.t4 (Tq.kindOf p)) = none) := Lib.hid (Tq.t4_len hz)
        have hz2 : ((zs.length : Int) != 4) = true := by rw [bne_iff_ne]; omega
        clear hrl hz
        unfold boxTst Tq.tz at C HB HK
        go_enter Tryd.func63, Tryd.ntmps63
        go_wp2_with fail
        refine C.out.mono ?_
        rintro e w1 ⟨v, rfl, hst, b1⟩
        obtain ⟨gw, cap, rfl, hg, hc⟩ := strs_form hst hpos
        have k1 : w1.cell? ⟨gw, 1, none⟩ = some (.string ⟨r.toArray⟩) := hc 1 _ rfl
        have B1 := Lib.hid (bt HB.out b1)
        have K1 := Lib.hid (HK.out w1 b1)
        clear b1 hst hc hg
        go_wp2_with fail
        refine (CR.out _).mono ?_
        rintro e w2 ⟨u, rfl, ho, b2⟩
        have KW := Lib.hid (K1.out.all b2)
        have B2 := Lib.hid (bt B1.out b2)
        have hln : ((some zs).getD []).length = zs.length := rfl
        obtain ⟨ua, ucap, rfl⟩ := (Own.sl ho).form
        rw [hln]
        clear b2 ho hln k1
        have RW := Lib.hid (setQ_whole KW.out Tq.tz)
        have RB := Lib.hid (setQ_below B2.out (Nat.le_refl _) Tq.tz)
        obtain ⟨⟨z0, z1, z2, z3, z4⟩, f0, f1, f2, f3, f4⟩ := qcs_zero KW.out
        go_wp2_with fail
        change bodyPost _ _ _ _ _ (setQ w2 w.heap.size Tq.tz)
        generalize setQ w2 w.heap.size Tq.tz = WZ at *
        obtain ⟨⟨d0, d1, d2, d3, d4⟩, -⟩ := qcs_zero RW.out
        exact bodyPost_ret (v := .tuple #[.agg #[.int .i64 0, .int .i64 0, .int .i64 0, .int .i64 0, .int .i64 0], .bool false]) (by simp [results, Tryd.results63, go_sem, d0, d1, d2, d3, d4]) rfl (RRt.no hr.out RB.out)
theorem specReadTest_any (s : ByteArray) (w : World) (hs : s.size ≤ 1048576) :
    Calls Tryd.prog 24 #[.string s] w (RRt w (Tq.rt s.data.toList)) := by
  have HB := Lib.hid (boxTst_below w Tq.tz 40)
  have C := Lib.hid (l08Read_any s (boxTst w Tq.tz 40) hs)
  have HK : Hid (∀ w1, Below (boxTst w Tq.tz 40).heap.size (boxTst w Tq.tz 40) w1 → Whole w1 w.heap.size 40 (qcs Tq.tz)) := Lib.hid (fun w1 h => (Whole.new w _ (qcs Tq.tz)).all h)
  generalize Tq.rt s.data.toList = o at *
  unfold RRt at *
  generalize o.getD Tq.tz = x at *
  generalize o.isSome = y at *
  unfold boxTst Tq.tz at C HB HK
  go_enter Tryd.func24, Tryd.ntmps24
  go_wp2_with fail
  refine C.out.mono ?_
  rintro e w1 ⟨rfl, b1⟩
  have B1 := Lib.hid (bt HB.out b1)
  have KW := Lib.hid (HK.out w1 b1)
  clear b1
  obtain ⟨⟨z0, z1, z2, z3, z4⟩, f0, f1, f2, f3, f4⟩ := qcs_zero KW.out
  have RW := Lib.hid (setQ_whole KW.out x)
  have RB := Lib.hid (setQ_below B1.out (Nat.le_refl _) x)
  go_wp2_with fail
  change bodyPost _ _ _ _ _ (setQ w1 w.heap.size x)
  generalize setQ w1 w.heap.size x = WZ at *
  obtain ⟨⟨d0, d1, d2, d3, d4⟩, -⟩ := qcs_five RW.out
  exact bodyPost_ret (v := .tuple #[.agg #[.int .i64 x.ki, .int .i64 x.sc, .int .i64 x.qu, .int .i64 x.de, .int .i64 x.ho], .bool y]) (by simp [results, Tryd.results24, go_sem, d0, d1, d2, d3, d4]) rfl ⟨rfl, RB.out⟩
end Go.Proofs.YteileaeeiejonacDoor
