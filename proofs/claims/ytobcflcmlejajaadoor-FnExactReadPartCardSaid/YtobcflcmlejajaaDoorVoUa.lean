/-
  One part read back out of its text, by the program. No condition of its own.
-/
import Derived.Test.YtobcflcmlejajaaDoorVoU
namespace Go.Proofs.YtobcflcmlejajaaDoor
open Go.RowKit Go.ChangeShapes Go.WideShapes Go.Deep
set_option linter.unusedVariables false
set_option maxRecDepth 100000

set_option maxHeartbeats 3200000 in
theorem implReadPart_any (s : ByteArray) (w : World) (hs : s.size ≤ 1048576) (hpw : Pow w) (her : Errs w) (hml : MaxL w) :
    Calls Tryd.prog 45 #[.string s] w (RR w (Vm.ro s.data.toList)) := by
  have HB := Lib.hid (boxPat_below w Vm.oz 59)
  have C := Lib.hid (implReadList_any s (boxPat w Vm.oz 59) hs (hpw.below HB.out) (her.below HB.out) (hml.below HB.out))
  clear hpw her hml
  have HK : Hid (∀ w1, Below (boxPat w Vm.oz 59).heap.size (boxPat w Vm.oz 59) w1 → Whole w1 w.heap.size 59 #[.int .i64 0, .int .i64 0, .int .i64 0, .int .i64 0]) := Lib.hid (fun w1 h => (Whole.new w _ _).all h)
  generalize hl : rl s.data.toList = l at *
  cases l with
  | none =>
    have hr := Lib.hid (Vm.ro_n hl)
    clear hl
    unfold boxPat Vm.oz at C HB HK
    go_enter Tryd.func45, Tryd.ntmps45
    go_wp2_with fail
    refine C.out.mono ?_
    rintro e w1 ⟨u, rfl, ho, b1⟩
    have k := HK.out w1 b1
    have R := Lib.hid (setR_cells k Vm.oz)
    have B1 := Lib.hid (setR_below (bt HB.out b1) (Nat.le_refl _) Vm.oz)
    have c0 : w1.cell? ⟨w.heap.size, 0, none⟩ = some (.int .i64 0) := k.at_ 0
    have c1 : w1.cell? ⟨w.heap.size, 1, none⟩ = some (.int .i64 0) := k.at_ 1
    have c2 : w1.cell? ⟨w.heap.size, 2, none⟩ = some (.int .i64 0) := k.at_ 2
    have c3 : w1.cell? ⟨w.heap.size, 3, none⟩ = some (.int .i64 0) := k.at_ 3
    have f0 := k.free 0
    have f1 := k.free 1
    have f2 := k.free 2
    have f3 := k.free 3
    clear ho b1 k
    go_wp2_with fail
    change bodyPost _ _ _ _ _ (setR w1 w.heap.size Vm.oz)
    have d0 : (setR w1 w.heap.size Vm.oz).cell? ⟨w.heap.size, 0, none⟩ = some (.int .i64 0) := R.out.at_ 0
    have d1 : (setR w1 w.heap.size Vm.oz).cell? ⟨w.heap.size, 1, none⟩ = some (.int .i64 0) := R.out.at_ 1
    have d2 : (setR w1 w.heap.size Vm.oz).cell? ⟨w.heap.size, 2, none⟩ = some (.int .i64 0) := R.out.at_ 2
    have d3 : (setR w1 w.heap.size Vm.oz).cell? ⟨w.heap.size, 3, none⟩ = some (.int .i64 0) := R.out.at_ 3
    generalize setR w1 w.heap.size Vm.oz = W at *
    exact bodyPost_ret (v := .tuple #[.agg #[.int .i64 0, .int .i64 0, .int .i64 0, .int .i64 0], .bool false]) (by simp [results, Tryd.results45, go_sem, d0, d1, d2, d3]) rfl (RR.no hr.out B1.out)
  | some zs =>
    by_cases hz : zs.length = 4
    · obtain ⟨a, b, c, d, rfl⟩ := Vm.four hz
      clear hz
      cases hx : Vm.okP ⟨a, b, c, d⟩ with
      | false =>
        have hr := Lib.hid (Vm.ro_bad hl hx)
        have HX := Lib.hid hx
        clear hl hx
        unfold boxPat Vm.oz at C HB HK
        go_enter Tryd.func45, Tryd.ntmps45
        go_wp2_with fail
        refine C.out.mono ?_
        rintro e w1 ⟨u, rfl, ho, b1⟩
        have K1 := Lib.hid (HK.out w1 b1)
        have B0 := Lib.hid (bt HB.out b1)
        obtain ⟨g, cap, rfl, hc⟩ := own_four ho (by simp)
        have e0 : w1.cell? ⟨g, 0, none⟩ = some (.int .i64 a) := hc 0 _ rfl
        have e1 : w1.cell? ⟨g, 1, none⟩ = some (.int .i64 b) := hc 1 _ rfl
        have e2 : w1.cell? ⟨g, 2, none⟩ = some (.int .i64 c) := hc 2 _ rfl
        have e3 : w1.cell? ⟨g, 3, none⟩ = some (.int .i64 d) := hc 3 _ rfl
        have hln : ((some [a, b, c, d]).getD []).length = 4 := rfl
        rw [hln]
        have hg : g < w1.heap.size := World.block_lt_of_cell? w1 _ e0
        clear ho b1 hc hln
        go_wp2_with fail
        go_region
        have K2 := Lib.hid ((K1.out.alloc (.cells #[.int .i64 a, .int .i64 b, .int .i64 c, .int .i64 d] 59)).drew)
        have X2 := Lib.hid (box_drew w1 a b c d 59)
        have B2 := Lib.hid (alloc_drew B0.out (.cells #[.int .i64 a, .int .i64 b, .int .i64 c, .int .i64 d] 59))
        have L2 := alloc_lt w1 (.cells #[.int .i64 a, .int .i64 b, .int .i64 c, .int .i64 d] 59)
        have C5 := Lib.hid (isWrongPat_any ⟨a, b, c, d⟩ (w1.alloc (.cells #[.int .i64 a, .int .i64 b, .int .i64 c, .int .i64 d] 59)).drew)
        rw [HX.out] at C5
        generalize (w1.alloc (.cells #[.int .i64 a, .int .i64 b, .int .i64 c, .int .i64 d] 59)).drew = w2 at *
        all_goals (
          obtain ⟨x0, x1, x2, x3⟩ := X2.out.zero
          go_wp2_with fail
          refine C5.out.mono ?_
          rintro e w3 ⟨rfl, b3⟩
          have K3 := Lib.hid (K2.out.all b3)
          have X3 := Lib.hid (X2.out.below b3 L2)
          have B2 := Lib.hid (bt B2.out b3)
          clear b3
          have k := K3.out
          have R := Lib.hid (setR_cells k Vm.oz)
          have B3 := Lib.hid (setR_below B2.out (Nat.le_refl _) Vm.oz)
          have c0 : w3.cell? ⟨w.heap.size, 0, none⟩ = some (.int .i64 0) := k.at_ 0
          have c1 : w3.cell? ⟨w.heap.size, 1, none⟩ = some (.int .i64 0) := k.at_ 1
          have c2 : w3.cell? ⟨w.heap.size, 2, none⟩ = some (.int .i64 0) := k.at_ 2
          have c3 : w3.cell? ⟨w.heap.size, 3, none⟩ = some (.int .i64 0) := k.at_ 3
          have f0 := k.free 0
          have f1 := k.free 1
          have f2 := k.free 2
          have f3 := k.free 3
          clear k
          go_wp2_with fail
          change bodyPost _ _ _ _ _ (setR w3 w.heap.size Vm.oz)
          have d0 : (setR w3 w.heap.size Vm.oz).cell? ⟨w.heap.size, 0, none⟩ = some (.int .i64 0) := R.out.at_ 0
          have d1 : (setR w3 w.heap.size Vm.oz).cell? ⟨w.heap.size, 1, none⟩ = some (.int .i64 0) := R.out.at_ 1
          have d2 : (setR w3 w.heap.size Vm.oz).cell? ⟨w.heap.size, 2, none⟩ = some (.int .i64 0) := R.out.at_ 2
          have d3 : (setR w3 w.heap.size Vm.oz).cell? ⟨w.heap.size, 3, none⟩ = some (.int .i64 0) := R.out.at_ 3
          generalize setR w3 w.heap.size Vm.oz = W at *
          exact bodyPost_ret (v := .tuple #[.agg #[.int .i64 0, .int .i64 0, .int .i64 0, .int .i64 0], .bool false]) (by simp [results, Tryd.results45, go_sem, d0, d1, d2, d3]) rfl (RR.no hr.out B3.out))
      | true =>
        have hr := Lib.hid (Vm.ro_ok hl hx)
        have HX := Lib.hid hx
        clear hl hx
        unfold boxPat Vm.oz at C HB HK
        go_enter Tryd.func45, Tryd.ntmps45
        go_wp2_with fail
        refine C.out.mono ?_
        rintro e w1 ⟨u, rfl, ho, b1⟩
        have K1 := Lib.hid (HK.out w1 b1)
        have B0 := Lib.hid (bt HB.out b1)
        obtain ⟨g, cap, rfl, hc⟩ := own_four ho (by simp)
        have e0 : w1.cell? ⟨g, 0, none⟩ = some (.int .i64 a) := hc 0 _ rfl
        have e1 : w1.cell? ⟨g, 1, none⟩ = some (.int .i64 b) := hc 1 _ rfl
        have e2 : w1.cell? ⟨g, 2, none⟩ = some (.int .i64 c) := hc 2 _ rfl
        have e3 : w1.cell? ⟨g, 3, none⟩ = some (.int .i64 d) := hc 3 _ rfl
        have hln : ((some [a, b, c, d]).getD []).length = 4 := rfl
        rw [hln]
        have hg : g < w1.heap.size := World.block_lt_of_cell? w1 _ e0
        clear ho b1 hc hln
        go_wp2_with fail
        go_region
        have K2 := Lib.hid ((K1.out.alloc (.cells #[.int .i64 a, .int .i64 b, .int .i64 c, .int .i64 d] 59)).drew)
        have X2 := Lib.hid (box_drew w1 a b c d 59)
        have B2 := Lib.hid (alloc_drew B0.out (.cells #[.int .i64 a, .int .i64 b, .int .i64 c, .int .i64 d] 59))
        have L2 := alloc_lt w1 (.cells #[.int .i64 a, .int .i64 b, .int .i64 c, .int .i64 d] 59)
        have C5 := Lib.hid (isWrongPat_any ⟨a, b, c, d⟩ (w1.alloc (.cells #[.int .i64 a, .int .i64 b, .int .i64 c, .int .i64 d] 59)).drew)
        rw [HX.out] at C5
        generalize (w1.alloc (.cells #[.int .i64 a, .int .i64 b, .int .i64 c, .int .i64 d] 59)).drew = w2 at *
        all_goals (
          obtain ⟨x0, x1, x2, x3⟩ := X2.out.zero
          go_wp2_with fail
          refine C5.out.mono ?_
          rintro e w3 ⟨rfl, b3⟩
          have K3 := Lib.hid (K2.out.all b3)
          have X3 := Lib.hid (X2.out.below b3 L2)
          have B2 := Lib.hid (bt B2.out b3)
          clear b3
          clear x0 x1 x2 x3
          obtain ⟨x0, x1, x2, x3⟩ := X3.out.zero
          have k := K3.out
          have R := Lib.hid (setR_cells k ⟨a, b, c, d⟩)
          have B3 := Lib.hid (setR_below B2.out (Nat.le_refl _) ⟨a, b, c, d⟩)
          have c0 : w3.cell? ⟨w.heap.size, 0, none⟩ = some (.int .i64 0) := k.at_ 0
          have c1 : w3.cell? ⟨w.heap.size, 1, none⟩ = some (.int .i64 0) := k.at_ 1
          have c2 : w3.cell? ⟨w.heap.size, 2, none⟩ = some (.int .i64 0) := k.at_ 2
          have c3 : w3.cell? ⟨w.heap.size, 3, none⟩ = some (.int .i64 0) := k.at_ 3
          have f0 := k.free 0
          have f1 := k.free 1
          have f2 := k.free 2
          have f3 := k.free 3
          clear k
          go_wp2_with fail
          change bodyPost _ _ _ _ _ (setR w3 w.heap.size ⟨a, b, c, d⟩)
          have d0 : (setR w3 w.heap.size ⟨a, b, c, d⟩).cell? ⟨w.heap.size, 0, none⟩ = some (.int .i64 a) := R.out.at_ 0
          have d1 : (setR w3 w.heap.size ⟨a, b, c, d⟩).cell? ⟨w.heap.size, 1, none⟩ = some (.int .i64 b) := R.out.at_ 1
          have d2 : (setR w3 w.heap.size ⟨a, b, c, d⟩).cell? ⟨w.heap.size, 2, none⟩ = some (.int .i64 c) := R.out.at_ 2
          have d3 : (setR w3 w.heap.size ⟨a, b, c, d⟩).cell? ⟨w.heap.size, 3, none⟩ = some (.int .i64 d) := R.out.at_ 3
          generalize setR w3 w.heap.size ⟨a, b, c, d⟩ = W at *
          exact bodyPost_ret (v := .tuple #[.agg #[.int .i64 a, .int .i64 b, .int .i64 c, .int .i64 d], .bool true]) (by simp [results, Tryd.results45, go_sem, d0, d1, d2, d3]) rfl (RR.yes hr.out B3.out))
    · have hr := Lib.hid (Vm.ro_len hl hz)
      have hne : ((zs.length : Int) == 4) = false := beq_eq_false_iff_ne.2 (by omega)
      have hne2 : ((zs.length : Int) != 4) = true := by rw [bne, hne]; rfl
      clear hl hz
      unfold boxPat Vm.oz at C HB HK
      go_enter Tryd.func45, Tryd.ntmps45
      go_wp2_with fail
      refine C.out.mono ?_
      rintro e w1 ⟨u, rfl, ho, b1⟩
      have k := HK.out w1 b1
      have R := Lib.hid (setR_cells k Vm.oz)
      have B1 := Lib.hid (setR_below (bt HB.out b1) (Nat.le_refl _) Vm.oz)
      have c0 : w1.cell? ⟨w.heap.size, 0, none⟩ = some (.int .i64 0) := k.at_ 0
      have c1 : w1.cell? ⟨w.heap.size, 1, none⟩ = some (.int .i64 0) := k.at_ 1
      have c2 : w1.cell? ⟨w.heap.size, 2, none⟩ = some (.int .i64 0) := k.at_ 2
      have c3 : w1.cell? ⟨w.heap.size, 3, none⟩ = some (.int .i64 0) := k.at_ 3
      have f0 := k.free 0
      have f1 := k.free 1
      have f2 := k.free 2
      have f3 := k.free 3
      obtain ⟨aa, cap, rfl⟩ := ho.sl.form
      simp only [Option.getD_some] at *
      clear ho b1 k
      go_wp2_with fail
      change bodyPost _ _ _ _ _ (setR w1 w.heap.size Vm.oz)
      have d0 : (setR w1 w.heap.size Vm.oz).cell? ⟨w.heap.size, 0, none⟩ = some (.int .i64 0) := R.out.at_ 0
      have d1 : (setR w1 w.heap.size Vm.oz).cell? ⟨w.heap.size, 1, none⟩ = some (.int .i64 0) := R.out.at_ 1
      have d2 : (setR w1 w.heap.size Vm.oz).cell? ⟨w.heap.size, 2, none⟩ = some (.int .i64 0) := R.out.at_ 2
      have d3 : (setR w1 w.heap.size Vm.oz).cell? ⟨w.heap.size, 3, none⟩ = some (.int .i64 0) := R.out.at_ 3
      generalize setR w1 w.heap.size Vm.oz = W at *
      exact bodyPost_ret (v := .tuple #[.agg #[.int .i64 0, .int .i64 0, .int .i64 0, .int .i64 0], .bool false]) (by simp [results, Tryd.results45, go_sem, d0, d1, d2, d3]) rfl (RR.no hr.out B1.out)

end Go.Proofs.YtobcflcmlejajaaDoor
