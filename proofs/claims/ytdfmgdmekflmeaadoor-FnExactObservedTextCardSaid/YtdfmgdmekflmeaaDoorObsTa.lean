/-
  ObservedText of chapter 4, by the model and by the program. No condition of its own.
-/
import Derived.Test.YtdfmgdmekflmeaaDoorObsT
namespace Go.Proofs.YtdfmgdmekflmeaaDoor
open Go.RowKit Go.ChangeShapes Go.WideShapes Go.Deep
set_option linter.unusedVariables false
set_option maxRecDepth 100000

theorem Ob.tx_no {x : Obs} (h : Ob.okO x = false) : Ob.tx x = [] := by unfold Ob.tx; rw [h]; rfl
theorem nilTx (x : Obs) (h : Ob.okO x = false) : Ending.returned (.string ⟨#[]⟩) = .returned (.string ⟨(Ob.tx x).toArray⟩) := by rw [Ob.tx_no h]

set_option maxHeartbeats 1600000 in
theorem specObservedText_any (x : Obs) (w : World) :
    Calls Tryd.prog 16 #[.agg #[.int .i64 x.ho, .int .i64 x.sn, .int .i64 x.dg, .int .i64 x.wi]] w fun e w' => e = .returned (.string ⟨(Ob.tx x).toArray⟩) ∧ Below w.heap.size w w' := by
  have HB := Lib.hid (boxObs_below w x 36)
  have HC := Lib.hid (boxObs_cells w x 36)
  have C := Lib.hid (l04One_any x _ 0 (boxObs w x 36) HC.out)
  cases hx : Ob.okO x with
  | false =>
    have HX := Lib.hid hx
    rw [hx] at C
    clear hx
    unfold boxObs at C HB
    go_enter Tryd.func16, Tryd.ntmps16
    go_wp2_with fail
    refine C.out.mono ?_
    rintro e w1 ⟨rfl, rfl⟩
    go_wp2_with fail
    go_ret
    exact ⟨nilTx x HX.out, HB.out⟩
  | true =>
    have D := Lib.hid (l04Text_any x _ (boxObs w x 36) HC.out hx)
    rw [hx] at C
    clear hx
    unfold boxObs at C HB D
    go_enter Tryd.func16, Tryd.ntmps16
    go_wp2_with fail
    refine C.out.mono ?_
    rintro e w1 ⟨rfl, rfl⟩
    go_wp2_with fail
    refine D.out.mono ?_
    rintro e w1 ⟨rfl, b1⟩
    go_wp2_with fail
    go_ret
    exact ⟨rfl, bt HB.out b1⟩

set_option maxHeartbeats 1600000 in
theorem implObservedText_any (x : Obs) (w : World) (hp : Pow w) :
    Calls Tryd.prog 18 #[.agg #[.int .i64 x.ho, .int .i64 x.sn, .int .i64 x.dg, .int .i64 x.wi]] w fun e w' => e = .returned (.string ⟨(Ob.tx x).toArray⟩) ∧ Below w.heap.size w w' := by
  have HB := Lib.hid (boxObs_below w x 36)
  have HP := Lib.hid hp
  have C := Lib.hid (isWrong_any x (boxObs w x 36))
  have HW : Hid (∀ w1, Below (boxObs w x 36).heap.size (boxObs w x 36) w1 → ObCells w1 w.heap.size 0 x) := Lib.hid (fun w1 h => boxObs_kept h)
  clear hp
  cases hx : Ob.okO x with
  | false =>
    have HX := Lib.hid hx
    rw [hx] at C
    clear hx
    unfold boxObs at C HB
    go_enter Tryd.func18, Tryd.ntmps18
    go_wp2_with fail
    refine C.out.mono ?_
    rintro e w1 ⟨rfl, b1⟩
    go_wp2_with fail
    go_ret
    exact ⟨nilTx x HX.out, bt HB.out b1⟩
  | true =>
    have HT := Lib.hid (Ob.lt_ok hx)
    rw [hx] at C
    clear hx
    unfold boxObs at C HB HW
    go_enter Tryd.func18, Tryd.ntmps18
    go_wp2_with fail
    refine C.out.mono ?_
    rintro e w1 ⟨rfl, b1⟩
    obtain ⟨c0, c1, c2, c3⟩ := (HW.out w1 b1).zero
    have B1 := Lib.hid (bt HB.out b1)
    clear b1
    have D := Lib.hid (implListText_any (w1.alloc (.cells #[.int .i64 x.ho, .int .i64 x.sn, .int .i64 x.dg, .int .i64 x.wi] 2)) (.slice (some ⟨w1.heap.size, 0, none⟩) 4 4) [x.ho, x.sn, x.dg, x.wi] (sl_four w1 _ _ _ _ _) (by simp) (HP.out.below (B1.out.trans ((Below.refl _ _).alloc B1.out.size _))))
    rw [HT.out] at D
    go_wp2_with fail
    refine D.out.mono ?_
    rintro e w2 ⟨rfl, b2⟩
    have B2 := Lib.hid (bt B1.out (((Below.refl _ w1).alloc (Nat.le_refl _) _).trans (b2.mono (by simp))))
    go_wp2_with fail
    go_ret
    exact ⟨rfl, B2.out⟩
end Go.Proofs.YtdfmgdmekflmeaaDoor
