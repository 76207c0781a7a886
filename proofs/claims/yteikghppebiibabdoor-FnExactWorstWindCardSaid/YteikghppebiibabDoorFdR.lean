/-
  Steps of drift (chapter 6): which directions count, and DriftRun by the model. No condition of its own.
-/
import Derived.Test.YteikghppebiibabDoorFdQ
import Derived.Test.YteikghppebiibabDoorIntG
namespace Go.Proofs.YteikghppebiibabDoor
open Go.RowKit Go.Shelf Go.Deep
set_option linter.unusedVariables false
set_option maxRecDepth 100000

theorem Own.otherB {B x : Nat} {w w1 : World} {v : Value} {zs : List Int} (h : Own B w v zs) (hg : w.grownBy w1 (some x)) (hx : x < B) : Own B w1 v zs := by
  rcases h.2 with ⟨hv, hn⟩ | ⟨g, cap, cur, hv, hbg, _⟩
  · exact ⟨h.1, Or.inl ⟨hv, hn⟩⟩
  · subst hv
    exact Own.other h hg (by omega)
theorem isShare_any (x : Int) (w : World) : Calls Tryd.prog 50 #[.int .i64 x] w fun e w' => e = .returned (.bool (Fw.okS x)) ∧ w = w' := by
  go_enter Tryd.func50, Tryd.ntmps50
  go_wp2_with (go_at_call 77; refine (within_any _ _ _ _).mono ?_; rintro e w' ⟨rfl, rfl⟩)
  go_ret
  exact ⟨rfl, rfl⟩
theorem isNoWind_any (x : Int) (w : World) : Calls Tryd.prog 88 #[.int .i64 x] w fun e w' => e = .returned (.bool (!Fw.okD x)) ∧ w = w' := by
  have C := Lib.hid (fun W => within_any x 0 3 W)
  rw [show Ar.inB 0 x 3 = Fw.okD x from rfl] at C
  generalize Fw.okD x = q at *
  go_enter Tryd.func88, Tryd.ntmps88
  go_wp2_with fail
  refine (C.out _).mono ?_
  rintro e w' ⟨rfl, rfl⟩
  cases q
  all_goals (
    go_wp2_with fail
    go_ret
    exact ⟨rfl, rfl⟩)
theorem gusts_eq {ds : List Int} (h : ds.length ≤ 24) : Fw.okDs ds = !(ds.any fun x => !Fw.okD x) := by
  unfold Fw.okDs
  rw [decide_eq_true h, Bool.true_and, List.not_any_eq_all_not]
  simp
set_option maxHeartbeats 1600000 in
theorem areGusts_any (w : World) (u : Value) (ds : List Int) (hu : Sl w u ds) (hl : ds.length ≤ 1048576) :
    Calls Tryd.prog 61 #[u] w fun e w' => e = .returned (.bool (Fw.okDs ds)) ∧ Below w.heap.size w w' := by
  obtain ⟨a, cap, rfl⟩ := hu.form
  have CF := Lib.hid (containsFuncI_any 88 #[] (enters_of Tryd.func88 (by kernel_rfl) rfl) (fun x => !Fw.okD x) w (.slice a ds.length cap) ds hl hu (fun x W hW => (isNoWind_any x W).mono (by rintro e w' ⟨rfl, rfl⟩; exact ⟨rfl, hW⟩)))
  clear hu
  by_cases h : ds.length ≤ 24
  · have hz : (ds.length : Int) ≤ 24 := by omega
    have hr := Lib.hid (gusts_eq h)
    generalize ds.any (fun x => !Fw.okD x) = q at *
    generalize Fw.okDs ds = o at *
    go_enter Tryd.func61, Tryd.ntmps61
    go_wp2_with fail
    refine CF.out.mono ?_
    rintro e w1 ⟨rfl, b1⟩
    have B1 := Lib.hid b1
    clear b1
    go_wp2_with fail
    go_ret
    exact ⟨ret_bool (by rw [hr.out]), B1.out⟩
  · have hz : ¬ (ds.length : Int) ≤ 24 := by omega
    have hr := Lib.hid (okDs_long h)
    generalize Fw.okDs ds = o at *
    go_enter Tryd.func61, Tryd.ntmps61
    go_wp2_with fail
    go_ret
    exact ⟨ret_bool (by rw [hr.out]), Below.refl _ _⟩
end Go.Proofs.YteikghppebiibabDoor
