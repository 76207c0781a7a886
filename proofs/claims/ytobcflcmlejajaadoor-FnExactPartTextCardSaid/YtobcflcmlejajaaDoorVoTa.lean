/-
  PartText of chapter 12, by the model and by the program. No condition of its own.
-/
import Derived.Test.YtobcflcmlejajaaDoorVoT
namespace Go.Proofs.YtobcflcmlejajaaDoor
open Go.RowKit Go.ChangeShapes Go.WideShapes Go.Deep
set_option linter.unusedVariables false
set_option maxRecDepth 100000

theorem Vm.tx_no {x : Pat} (h : Vm.okP x = false) : Vm.tx x = [] := by unfold Vm.tx; rw [h]; rfl
theorem nilTx (x : Pat) (h : Vm.okP x = false) : Ending.returned (.string ⟨#[]⟩) = .returned (.string ⟨(Vm.tx x).toArray⟩) := by rw [Vm.tx_no h]

set_option maxHeartbeats 1600000 in
theorem specPartText_any (x : Pat) (w : World) :
    Calls Tryd.prog 41 #[.agg #[.int .i64 x.le, .int .i64 x.wi, .int .i64 x.de, .int .i64 x.dn]] w fun e w' => e = .returned (.string ⟨(Vm.tx x).toArray⟩) ∧ Below w.heap.size w w' := by
  have HB := Lib.hid (boxPat_below w x 59)
  have HC := Lib.hid (boxPat_cells w x 59)
  have C := Lib.hid (l12One_any x _ 0 (boxPat w x 59) HC.out)
  cases hx : Vm.okP x with
  | false =>
    have HX := Lib.hid hx
    rw [hx] at C
    clear hx
    unfold boxPat at C HB
    go_enter Tryd.func41, Tryd.ntmps41
    go_wp2_with fail
    refine C.out.mono ?_
    rintro e w1 ⟨rfl, rfl⟩
    go_wp2_with fail
    go_ret
    exact ⟨nilTx x HX.out, HB.out⟩
  | true =>
    have D := Lib.hid (l12Text_any x _ (boxPat w x 59) HC.out hx)
    rw [hx] at C
    clear hx
    unfold boxPat at C HB D
    go_enter Tryd.func41, Tryd.ntmps41
    go_wp2_with fail
    refine C.out.mono ?_
    rintro e w1 ⟨rfl, rfl⟩
    go_wp2_with fail
    refine D.out.mono ?_
    rintro e w1 ⟨rfl, b1⟩
    go_wp2_with fail
    go_ret
    exact ⟨rfl, bt HB.out b1⟩

set_option maxHeartbeats 1600000 in
theorem implPartText_any (x : Pat) (w : World) (hp : Pow w) :
    Calls Tryd.prog 43 #[.agg #[.int .i64 x.le, .int .i64 x.wi, .int .i64 x.de, .int .i64 x.dn]] w fun e w' => e = .returned (.string ⟨(Vm.tx x).toArray⟩) ∧ Below w.heap.size w w' := by
  have HB := Lib.hid (boxPat_below w x 59)
  have HP := Lib.hid hp
  have C := Lib.hid (isWrongPat_any x (boxPat w x 59))
  have HW : Hid (∀ w1, Below (boxPat w x 59).heap.size (boxPat w x 59) w1 → PaCells w1 w.heap.size 0 x) := Lib.hid (fun w1 h => boxPat_kept h)
  clear hp
  cases hx : Vm.okP x with
  | false =>
    have HX := Lib.hid hx
    rw [hx] at C
    clear hx
    unfold boxPat at C HB
    go_enter Tryd.func43, Tryd.ntmps43
    go_wp2_with fail
    refine C.out.mono ?_
    rintro e w1 ⟨rfl, b1⟩
    go_wp2_with fail
    go_ret
    exact ⟨nilTx x HX.out, bt HB.out b1⟩
  | true =>
    have HT := Lib.hid (Vm.lt_ok hx)
    rw [hx] at C
    clear hx
    unfold boxPat at C HB HW
    go_enter Tryd.func43, Tryd.ntmps43
    go_wp2_with fail
    refine C.out.mono ?_
    rintro e w1 ⟨rfl, b1⟩
    obtain ⟨c0, c1, c2, c3⟩ := (HW.out w1 b1).zero
    have B1 := Lib.hid (bt HB.out b1)
    clear b1
    have D := Lib.hid (implListText_any (w1.alloc (.cells #[.int .i64 x.le, .int .i64 x.wi, .int .i64 x.de, .int .i64 x.dn] 2)) (.slice (some ⟨w1.heap.size, 0, none⟩) 4 4) [x.le, x.wi, x.de, x.dn] (sl_four w1 _ _ _ _ _) (by simp) (HP.out.below (B1.out.trans ((Below.refl _ _).alloc B1.out.size _))))
    rw [HT.out] at D
    go_wp2_with fail
    refine D.out.mono ?_
    rintro e w2 ⟨rfl, b2⟩
    have B2 := Lib.hid (bt B1.out (((Below.refl _ w1).alloc (Nat.le_refl _) _).trans (b2.mono (by simp))))
    go_wp2_with fail
    go_ret
    exact ⟨rfl, B2.out⟩
end Go.Proofs.YtobcflcmlejajaaDoor
