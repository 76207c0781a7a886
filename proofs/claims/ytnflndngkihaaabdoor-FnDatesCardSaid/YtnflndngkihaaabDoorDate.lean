/-
  Chapter 2's calendar: lengths of months and years, the date of a day, the day of a date; the program's table of months holds what its text lays.
-/
import Derived.Test.YtnflndngkihaaabDoorUnits
import Derived.Test.YtnflndngkihaaabDoorDays
import Derived.Below
import Derived.WalkSmall
namespace Go.Proofs.YtnflndngkihaaabDoor
open Go.RowKit
set_option linter.unusedVariables false

/-- the days of the months as the program's table holds them -/
def months : List Int := [31, 28, 31, 30, 31, 30, 31, 31, 30, 31, 30, 31]
def Months (w : World) : Prop := ∀ (i : Nat) (z : Int), months[i]? = some z → w.cell? ⟨1, i, none⟩ = some (.int .i64 z)
theorem Months.below {w w1 : World} (h : Months w) (hb : Below w.heap.size w w1) : Months w1 := fun i z hz =>
  (hb.cell (p := ⟨1, i, none⟩) (World.block_lt_of_cell? w _ (h i z hz))).trans (h i z hz)

theorem leap_cases (y : Int) : ((y % 4 == 0) = true ∧ y % 4 = 0) ∨ ((y % 4 == 0) = false ∧ ¬ y % 4 = 0) := by
  by_cases h : y % 4 = 0
  · exact Or.inl ⟨by rw [beq_iff_eq]; exact h, h⟩
  · exact Or.inr ⟨by rw [beq_eq_false_iff_ne]; exact h, h⟩
theorem dom_not2 {y m : Int} (h : m ≠ 2) (y' : Int) : Dy.dom y m = Dy.dom y' m := by unfold Dy.dom; rw [if_neg h, if_neg h]
theorem dom_2t {y : Int} (h : y % 4 = 0) : Dy.dom y 2 = 29 := by unfold Dy.dom; rw [if_pos rfl, if_pos h]
theorem dom_2f {y : Int} (h : ¬ y % 4 = 0) : Dy.dom y 2 = 28 := by unfold Dy.dom; rw [if_pos rfl, if_neg h]

set_option maxHeartbeats 400000 in
theorem isLeapYear_any (y : Int) (w : World) (y1 : 0 ≤ y) (y2 : y ≤ 3000) :
    Calls Tryd.prog 68 #[.int .i64 y] w fun e w' => e = .returned (.bool (y % 4 == 0)) ∧ w = w' := by
  go_enter Tryd.func68, Tryd.ntmps68
  go_wp2
  go_ret
  exact ⟨rfl, rfl⟩
set_option maxHeartbeats 400000 in
theorem daysOfYear_any (y : Int) (w : World) (y1 : 0 ≤ y) (y2 : y ≤ 3000) :
    Calls Tryd.prog 65 #[.int .i64 y] w fun e w' => e = .returned (.int .i64 (Dy.ylen y)) ∧ w = w' := by
  rcases leap_cases y with ⟨hb, hl⟩ | ⟨hb, hl⟩
  · have hd : Hid (Dy.ylen y = 366) := Lib.hid (by unfold Dy.ylen; rw [if_pos hl])
    clear hl
    go_enter Tryd.func65, Tryd.ntmps65
    go_wp2_with (go_at_call 68; refine (isLeapYear_any _ _ (by omega) (by omega)).mono ?_; rintro e w' ⟨rfl, rfl⟩)
    go_ret
    exact ⟨ret_int hd.out.symm, rfl⟩
  · have hd : Hid (Dy.ylen y = 365) := Lib.hid (by unfold Dy.ylen; rw [if_neg hl])
    clear hl
    go_enter Tryd.func65, Tryd.ntmps65
    go_wp2_with (go_at_call 68; refine (isLeapYear_any _ _ (by omega) (by omega)).mono ?_; rintro e w' ⟨rfl, rfl⟩)
    go_ret
    exact ⟨ret_int hd.out.symm, rfl⟩
theorem month_cell {w : World} (h : Months w) (i : Nat) (z : Int) (hz : months[i]? = some z) : w.cell? ⟨1, i, none⟩ = some (.int .i64 z) := h i z hz
set_option maxHeartbeats 4000000 in
theorem daysOfMonth_any (y m : Int) (w : World) (hM : Months w) (h1 : 1 ≤ m) (h2 : m ≤ 12) (y1 : 0 ≤ y) (y2 : y ≤ 3000) :
    Calls Tryd.prog 45 #[.int .i64 y, .int .i64 m] w fun e w' => e = .returned (.int .i64 (Dy.dom y m)) ∧ w = w' := by
  by_cases hm : m = 2
  · subst hm
    rcases leap_cases y with ⟨hb, hl⟩ | ⟨hb, hl⟩
    · have hd := Lib.hid (dom_2t hl)
      clear hl hM
      go_enter Tryd.func45, Tryd.ntmps45
      go_wp2_with (go_at_call 68; refine (isLeapYear_any _ _ (by omega) (by omega)).mono ?_; rintro e w' ⟨rfl, rfl⟩)
      go_ret
      exact ⟨ret_int hd.out.symm, rfl⟩
    · have hd := Lib.hid (dom_2f hl)
      have hc := month_cell hM 1 28 rfl
      clear hl hM
      go_enter Tryd.func45, Tryd.ntmps45
      go_wp2_with (go_at_call 68; refine (isLeapYear_any _ _ (by omega) (by omega)).mono ?_; rintro e w' ⟨rfl, rfl⟩)
      go_ret
      exact ⟨ret_int hd.out.symm, rfl⟩
  · have hd := Lib.hid (dom_not2 (y := y) hm 0)
    have c1 := month_cell hM 0 31 rfl
    have c3 := month_cell hM 2 31 rfl
    have c4 := month_cell hM 3 30 rfl
    have c5 := month_cell hM 4 31 rfl
    have c6 := month_cell hM 5 30 rfl
    have c7 := month_cell hM 6 31 rfl
    have c8 := month_cell hM 7 31 rfl
    have c9 := month_cell hM 8 30 rfl
    have c10 := month_cell hM 9 31 rfl
    have c11 := month_cell hM 10 30 rfl
    have c12 := month_cell hM 11 31 rfl
    have hc : m = 1 ∨ m = 3 ∨ m = 4 ∨ m = 5 ∨ m = 6 ∨ m = 7 ∨ m = 8 ∨ m = 9 ∨ m = 10 ∨ m = 11 ∨ m = 12 := by omega
    clear hm h1 h2 hM
    rcases hc with rfl | rfl | rfl | rfl | rfl | rfl | rfl | rfl | rfl | rfl | rfl
    all_goals
      go_enter Tryd.func45, Tryd.ntmps45
      go_wp2
      go_ret
      exact ⟨ret_int (hd.out.trans rfl).symm, rfl⟩
end Go.Proofs.YtnflndngkihaaabDoor
