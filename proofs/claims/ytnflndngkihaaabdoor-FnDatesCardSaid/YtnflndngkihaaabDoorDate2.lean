/-
  Chapter 2's calendar: the date of a day and the day of a date, by the program and by the model. The program's table of months holds what its text lays.
-/
import Derived.Test.YtnflndngkihaaabDoorDate
import Derived.Lib.LaidTab
import Derived.LaidSub
import Derived.Laws.AppendOwn
import Derived.Lib.SmallJoins
namespace Go.Proofs.YtnflndngkihaaabDoor
open Go.RowKit
set_option linter.unusedVariables false

theorem gMonths : Tryd.prog.globalNamed "loop.example/g01013/impl.monthDays" = some 1 := by kernel_rfl
theorem tMonths : (Tryd.prog.globals[1]?).map (·.type) = some 97 := by kernel_rfl
theorem cMonths : Tryd.prog.cellsOf 97 = 12 := by kernel_rfl
theorem cI64 : Tryd.prog.cellsOf 2 = 1 := by kernel_rfl
theorem months_of {l : List (String × DataW Unit)} {w : World} (h : laidMet Tryd.prog l w) (hf : (l.filter fun x => x.1 == "loop.example/g01013/impl.monthDays") = [("loop.example/g01013/impl.monthDays", Lib.tabData .i64 months)]) : Months w := by
  have h' := laidMet.filter (fun x => x.1 == "loop.example/g01013/impl.monthDays") h
  rw [hf] at h'
  have t := Lib.tabIs_of_head (rest := []) gMonths tMonths Tryd.underlying97 Tryd.underlying2 cI64 cMonths h'
  intro i z hz
  have hi : i < months.length := (List.getElem?_eq_some_iff.1 hz).1
  have := Lib.TabIs.cell t gMonths i hi
  rw [List.getElem?_eq_getElem hi] at hz
  simp only [Option.some.injEq] at hz
  rw [this, List.getD_eq_getElem?_getD, List.getElem?_eq_getElem hi, Option.getD_some, hz]
theorem yr_2000 : Dy.yr 2000 = 0 := by decide
theorem dbt {w w1 w2 : World} (h1 : Below w.heap.size w w1) (h2 : Below w1.heap.size w1 w2) : Below w.heap.size w w2 := h1.trans (h2.mono h1.size)

/-- how the date of a day comes back -/
def DateIs (day : Int) (w : World) (e : Ending) (w' : World) : Prop := ∃ y m d : Int, Dy.isD y m d ∧ Dy.num y m + d = day + 1 ∧ e = .returned (.tuple #[.int .i64 y, .int .i64 m, .int .i64 d]) ∧ Below w.heap.size w w'
set_option maxHeartbeats 3200000 in
theorem date_any (day : Int) (w : World) (hM : Months w) (h1 : 0 ≤ day) (h2 : day ≤ 36524) :
    Calls Tryd.prog 42 #[.int .i64 day] w (DateIs day w) := by
  have HM := Lib.hid hM
  clear hM
  go_enter Tryd.func42, Tryd.ntmps42
  go_wp2
  go_loop [5, 7] (fun yv rv => ∃ y r : Int, yv = .int .i64 y ∧ rv = .int .i64 r ∧ 2000 ≤ y ∧ y ≤ 2099 ∧ 0 ≤ r ∧ r ≤ 36524 ∧ Hid (Dy.yr y + r = day)) (fun _ rv => (intOf rv).toNat)
  case atStart => exact ⟨2000, day, rfl, rfl, by omega, by omega, h1, h2, Lib.hid (by rw [yr_2000]; omega)⟩
  case round =>
    obtain ⟨y, r, rfl, rfl, y1, y2, r1, r2, hn⟩ := hrel
    have C := fun W => Lib.hid (daysOfYear_any y W (by omega) (by omega))
    obtain ⟨q1, q2⟩ := Dy.ylen_bd y
    by_cases hge : Dy.ylen y ≤ r
    · have hy : y + 1 ≤ 2099 := Dy.yr_le (by rw [Dy.yr_succ]; have := hn.out; omega)
      have HN : Hid (Dy.yr (y + 1) + (r - Dy.ylen y) = day) := Lib.hid (by rw [Dy.yr_succ]; have := hn.out; omega)
      clear hn
      generalize Dy.ylen y = q at *
      go_wp2_with fail
      refine (C _).out.mono ?_
      rintro e w1 ⟨rfl, rfl⟩
      go_wp2_with fail
      refine (C _).out.mono ?_
      rintro e w1 ⟨rfl, rfl⟩
      go_wp2_with fail
      exact ⟨⟨y + 1, r - q, rfl, rfl, by omega, by omega, by omega, by omega, HN⟩, by simp only [intOf]; omega⟩
    · have hlt : Hid (r < Dy.ylen y) := Lib.hid (by omega)
      generalize hq : Dy.ylen y = q at C q1 q2 hge
      have HQ := Lib.hid hq
      clear hq
      go_wp2_with fail
      refine (C _).out.mono ?_
      rintro e w1 ⟨rfl, rfl⟩
      go_wp2_with fail
      go_loop [6, 7] (fun mv rv => ∃ m s : Int, mv = .int .i64 m ∧ rv = .int .i64 s ∧ 1 ≤ m ∧ m ≤ 12 ∧ 0 ≤ s ∧ s ≤ 36524 ∧ Hid (Dy.cum y m + s = r)) (fun _ rv => (intOf rv).toNat)
      case atStart => exact ⟨1, r, rfl, rfl, by omega, by omega, r1, r2, Lib.hid (by rw [Dy.cum_one]; omega)⟩
      case round =>
        obtain ⟨m, s, rfl, rfl, m1, m2, s1, s2, hs⟩ := hrel
        have D := fun W h => Lib.hid (daysOfMonth_any y m W h m1 m2 (by omega) (by omega))
        obtain ⟨p1, p2⟩ := Dy.dom_bd y m
        by_cases hge2 : Dy.dom y m ≤ s
        · have hm2 : m + 1 ≤ 12 := by
            by_cases e : m = 12
            · subst e
              have := Dy.rest_month (y := y) (r := s) m2 m1 (by rw [hs.out]; exact hlt.out) rfl
              omega
            · omega
          have HS : Hid (Dy.cum y (m + 1) + (s - Dy.dom y m) = r) := Lib.hid (by rw [Dy.cum_succ y m m1 m2]; have := hs.out; omega)
          clear hs
          generalize Dy.dom y m = p at *
          go_wp2_with fail
          refine (D _ HM.out).out.mono ?_
          rintro e w1 ⟨rfl, rfl⟩
          go_wp2_with fail
          refine (D _ HM.out).out.mono ?_
          rintro e w1 ⟨rfl, rfl⟩
          go_wp2_with fail
          exact ⟨⟨m + 1, s - p, rfl, rfl, by omega, by omega, by omega, by omega, HS⟩, by simp only [intOf]; omega⟩
        · have HD : Hid (Dy.isD y m (s + 1)) := Lib.hid ⟨⟨y1, y2⟩, ⟨m1, m2⟩, by omega, by omega⟩
          have HN : Hid (Dy.num y m + (s + 1) = day + 1) := Lib.hid (by unfold Dy.num; have := hs.out; have := hn.out; omega)
          generalize Dy.dom y m = p at *
          go_wp2_with fail
          refine (D _ HM.out).out.mono ?_
          rintro e w1 ⟨rfl, rfl⟩
          go_wp2_with fail
          go_ret3
          exact ⟨y, m, s + 1, HD.out, HN.out, rfl, Below.refl _ _⟩
end Go.Proofs.YtnflndngkihaaabDoor
