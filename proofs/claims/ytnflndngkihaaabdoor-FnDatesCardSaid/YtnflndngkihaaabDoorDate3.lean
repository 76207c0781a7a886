/-
  DateOf and DayNumber of chapter 2, by the program and by the model. The program's table of months holds what its text lays.
-/
import Derived.Test.YtnflndngkihaaabDoorDate2
namespace Go.Proofs.YtnflndngkihaaabDoor
open Go.RowKit
set_option linter.unusedVariables false

theorem four_results {fn : Func} {t u v x : Tmp} (h : fn.results = #[.tmp t, .tmp u, .tmp v, .tmp x]) (tmps : Array Value) (P : Program) (w : World) :
    (results fn tmps).run P w = .ok (.tuple #[tmps.getD t undef, tmps.getD u undef, tmps.getD v undef, tmps.getD x undef]) w := by simp [results, h]
/-- how DateOf ends at a day -/
def Date4 (day : Int) (w : World) (e : Ending) (w' : World) : Prop := ∃ y m d : Int, Dy.isD y m d ∧ Dy.num y m + d = day + 1 ∧ e = .returned (.tuple #[.int .i64 y, .int .i64 m, .int .i64 d, .int .i64 0]) ∧ Below w.heap.size w w'
set_option maxHeartbeats 800000 in
theorem implDateOf_in (day : Int) (w : World) (hM : Months w) (h1 : 0 ≤ day) (h2 : day ≤ 36524) :
    Calls Tryd.prog 20 #[.int .i64 day] w (Date4 day w) := by
  have hi : Ar.inB 0 day 36524 = true := Ar.inB_t h1 h2
  have C := Lib.hid (date_any day w hM h1 h2)
  clear hM
  go_enter Tryd.func20, Tryd.ntmps20
  go_wp2_with (go_at_call 41; refine (isDay_any _ _).mono ?_; rintro e w' ⟨rfl, rfl⟩)
  refine C.out.mono ?_
  rintro e w1 ⟨y, m, d, hd, hn, rfl, b1⟩
  have H := Lib.hid hd
  have N := Lib.hid hn
  have B := Lib.hid b1
  clear hd hn b1
  go_wp2_with fail
  refine bodyPost_ret (four_results rfl _ _ _) rfl ?_
  exact ⟨y, m, d, H.out, N.out, rfl, B.out⟩
set_option maxHeartbeats 800000 in
theorem implDateOf_out (day : Int) (w : World) (h : ¬ (0 ≤ day ∧ day ≤ 36524)) :
    Calls Tryd.prog 20 #[.int .i64 day] w fun e w' => e = .returned (.tuple #[.int .i64 0, .int .i64 0, .int .i64 0, .int .i64 2]) ∧ w = w' := by
  have hi : Ar.inB 0 day 36524 = false := Ar.inB_f h
  clear h
  go_enter Tryd.func20, Tryd.ntmps20
  go_wp2_with (go_at_call 41; refine (isDay_any _ _).mono ?_; rintro e w' ⟨rfl, rfl⟩)
  refine bodyPost_ret (four_results rfl _ _ _) rfl ?_
  exact ⟨rfl, rfl⟩

/-- is it a date, and which day? -/
def numB (y m d : Int) : Bool := Ar.inB 2000 y 2099 && Ar.inB 1 m 12 && Ar.inB 1 d (Dy.dom y m)
def numV (y m d : Int) : Int := if numB y m d then Dy.num y m + d - 1 else 0
theorem num_yes {y m d : Int} (h : Dy.isD y m d) : numB y m d = true ∧ numV y m d = Dy.num y m + d - 1 := by
  obtain ⟨⟨a, b⟩, ⟨c, e⟩, f, g⟩ := h
  have : numB y m d = true := by unfold numB; rw [Ar.inB_t a b, Ar.inB_t c e, Ar.inB_t f g]; rfl
  exact ⟨this, by unfold numV; rw [this]; rfl⟩
theorem num_no {y m d : Int} (h : numB y m d = false) : numV y m d = 0 := by unfold numV; rw [h]; rfl
theorem num_no1 {y m d : Int} (h : Ar.inB 2000 y 2099 = false) : numB y m d = false := by unfold numB; rw [h]; rfl
theorem num_no2 {y m d : Int} (h : Ar.inB 1 m 12 = false) : numB y m d = false := by unfold numB; rw [h]; simp
theorem num_no3 {y m d : Int} (h : Ar.inB 1 d (Dy.dom y m) = false) : numB y m d = false := by unfold numB; rw [h]; simp
theorem ret_ib {a b : Int} {c d : Bool} (h : a = b) (h' : c = d) : Ending.returned (.tuple #[.int .i64 a, .bool c]) = .returned (.tuple #[.int .i64 b, .bool d]) := by rw [h, h']
theorem leap_yr (y : Int) : ((y % 4 == 0) = true ∧ Dy.yr (y + 1) = Dy.yr y + 365 + 1) ∨ ((y % 4 == 0) = false ∧ Dy.yr (y + 1) = Dy.yr y + 365) := by
  rcases leap_cases y with ⟨h, h'⟩ | ⟨h, h'⟩
  · exact Or.inl ⟨h, by rw [Dy.yr_succ]; unfold Dy.ylen; rw [if_pos h']; omega⟩
  · exact Or.inr ⟨h, by rw [Dy.yr_succ]; unfold Dy.ylen; rw [if_neg h']⟩
theorem yr_in {y z : Int} (h1 : 2000 ≤ y) (h2 : y ≤ z) (h3 : z ≤ 2099) : 0 ≤ Dy.yr y ∧ Dy.yr y ≤ 36525 := by
  have := Dy.yr_bd h1 (by omega)
  have := Dy.ylen_bd y
  omega
theorem cum_in (y : Int) {m : Int} (h1 : 1 ≤ m) (h2 : m ≤ 12) : 0 ≤ Dy.cum y m ∧ Dy.cum y m ≤ 366 := by
  have := Dy.cum_bd y h1 h2
  have := Dy.ylen_bd y
  have := Dy.dom_bd y m
  omega
set_option maxHeartbeats 3200000 in
theorem dayOfDate_any (y m d : Int) (w : World) (hM : Months w) (h : Dy.isD y m d) :
    Calls Tryd.prog 46 #[.int .i64 y, .int .i64 m, .int .i64 d] w fun e w' => e = .returned (.int .i64 (Dy.num y m + d - 1)) ∧ w = w' := by
  obtain ⟨⟨y1, y2⟩, ⟨m1, m2⟩, d1, d2⟩ := h
  obtain ⟨p1, p2⟩ := Dy.dom_bd y m
  have hd : d ≤ 31 := by omega
  clear d2 p1 p2
  have hend : Hid (Dy.yr y + Dy.cum y m + d - 1 = Dy.num y m + d - 1) := Lib.hid (by unfold Dy.num; rfl)
  have HM := Lib.hid hM
  clear hM
  go_enter Tryd.func46, Tryd.ntmps46
  go_wp2_with fail
  go_loop [7, 8] (fun dv yv => ∃ z : Int, yv = .int .i64 z ∧ 2000 ≤ z ∧ z ≤ y ∧ ∃ s : Int, dv = .int .i64 s ∧ 0 ≤ s ∧ s ≤ 40000 ∧ Hid (s = Dy.yr z + d - 1)) (fun _ yv => (y - intOf yv).toNat)
  case atStart => exact ⟨2000, rfl, by omega, y1, d - 1, rfl, by omega, by omega, Lib.hid (by rw [yr_2000]; omega)⟩
  case round =>
    obtain ⟨z, rfl, z1, z2, s, rfl, s1, s2, hs⟩ := hrel
    by_cases hlt : z < y
    · obtain ⟨v1, v2⟩ := yr_in (y := z + 1) (z := y) (by omega) (by omega) y2
      have C := fun W => Lib.hid (daysOfYear_any z W (by omega) (by omega))
      obtain ⟨e1, e2⟩ := Dy.ylen_bd z
      have HS : Hid (s + Dy.ylen z = Dy.yr (z + 1) + d - 1) := Lib.hid (by rw [Dy.yr_succ]; have := hs.out; omega)
      have s3 : s + Dy.ylen z ≤ 40000 := by have := HS.out; omega
      clear hs v1 v2
      generalize Dy.ylen z = p at *
      go_wp2_with fail
      refine (C _).out.mono ?_
      rintro e w2 ⟨rfl, rfl⟩
      go_wp2_with fail
      exact ⟨⟨z + 1, rfl, by omega, by omega, s + p, rfl, by omega, by omega, HS⟩, by simp only [intOf]; omega⟩
    · have hzy : z = y := by omega
      have HS : Hid (s = Dy.yr y + d - 1) := Lib.hid (by rw [← hzy]; exact hs.out)
      clear hs hzy
      go_wp2_with fail
      go_loop [7, 9] (fun dv mv => ∃ k : Int, mv = .int .i64 k ∧ 1 ≤ k ∧ k ≤ m ∧ ∃ t : Int, dv = .int .i64 t ∧ 0 ≤ t ∧ t ≤ 41000 ∧ Hid (t = Dy.yr y + Dy.cum y k + d - 1)) (fun _ mv => (m - intOf mv).toNat)
      case atStart => exact ⟨1, rfl, by omega, m1, s, rfl, s1, by omega, Lib.hid (by rw [Dy.cum_one]; have := HS.out; omega)⟩
      case round =>
        obtain ⟨k, rfl, k1, k2, t, rfl, t1, t2, ht⟩ := hrel
        by_cases hk : k < m
        · have D := fun W h => Lib.hid (daysOfMonth_any y k W h k1 (by omega) (by omega) (by omega))
          obtain ⟨e1, e2⟩ := Dy.dom_bd y k
          have HT : Hid (t + Dy.dom y k = Dy.yr y + Dy.cum y (k + 1) + d - 1) := Lib.hid (by rw [Dy.cum_succ y k k1 (by omega)]; have := ht.out; omega)
          have t3 : t + Dy.dom y k ≤ 41000 := by
            have := HT.out
            have := (yr_in y1 (Int.le_refl y) y2).2
            have := (cum_in y (m := k + 1) (by omega) (by omega)).2
            omega
          clear ht
          generalize Dy.dom y k = p at *
          go_wp2_with fail
          refine (D _ HM.out).out.mono ?_
          rintro e w2 ⟨rfl, rfl⟩
          go_wp2_with fail
          exact ⟨⟨k + 1, rfl, by omega, by omega, t + p, rfl, by omega, by omega, HT⟩, by simp only [intOf]; omega⟩
        · have hkm : k = m := by omega
          have HT : Hid (t = Dy.num y m + d - 1) := Lib.hid (by rw [← hend.out, ← hkm]; exact ht.out)
          clear ht hkm
          go_wp2_with fail
          go_ret
          exact ⟨ret_int HT.out, rfl⟩
set_option maxHeartbeats 1600000 in
theorem implDayNumber_yes (y m d : Int) (w : World) (hM : Months w) (h : Dy.isD y m d) :
    Calls Tryd.prog 22 #[.int .i64 y, .int .i64 m, .int .i64 d] w fun e w' => e = .returned (.tuple #[.int .i64 (Dy.num y m + d - 1), .int .i64 0]) ∧ w = w' := by
  have C := Lib.hid (dayOfDate_any y m d w hM h)
  obtain ⟨⟨y1, y2⟩, ⟨m1, m2⟩, d1, d2⟩ := h
  have D := Lib.hid (daysOfMonth_any y m w hM m1 m2 (by omega) (by omega))
  have i1 : Ar.inB 2000 y 2099 = true := Ar.inB_t y1 y2
  have i2 : Ar.inB 1 m 12 = true := Ar.inB_t m1 m2
  have i3 : Ar.inB 1 d (Dy.dom y m) = true := Ar.inB_t d1 d2
  clear hM
  generalize Dy.dom y m = q at *
  go_enter Tryd.func22, Tryd.ntmps22
  go_wp2_with (first | (go_at_call 28; refine (within_any _ _ _ _).mono ?_; rintro e w' ⟨rfl, rfl⟩) | (go_at_call 45; refine D.out.mono ?_; rintro e w' ⟨rfl, rfl⟩) | (go_at_call 46; refine C.out.mono ?_; rintro e w' ⟨rfl, rfl⟩))
  go_ret2
  exact ⟨rfl, rfl⟩
set_option maxHeartbeats 1600000 in
theorem implDayNumber_no (y m d : Int) (w : World) (hM : Months w) (h : ¬ Dy.isD y m d) :
    Calls Tryd.prog 22 #[.int .i64 y, .int .i64 m, .int .i64 d] w fun e w' => e = .returned (.tuple #[.int .i64 0, .int .i64 2]) ∧ w = w' := by
  rcases in_cases 2000 y 2099 with ⟨y1, y2, i1⟩ | ⟨-, i1⟩
  · rcases in_cases 1 m 12 with ⟨m1, m2, i2⟩ | ⟨-, i2⟩
    · rcases in_cases 1 d (Dy.dom y m) with ⟨d1, d2, i3⟩ | ⟨-, i3⟩
      · exact absurd ⟨⟨y1, y2⟩, ⟨m1, m2⟩, d1, d2⟩ h
      · have D := Lib.hid (daysOfMonth_any y m w hM m1 m2 (by omega) (by omega))
        clear h hM
        generalize Dy.dom y m = q at *
        go_enter Tryd.func22, Tryd.ntmps22
        go_wp2_with (first | (go_at_call 28; refine (within_any _ _ _ _).mono ?_; rintro e w' ⟨rfl, rfl⟩) | (go_at_call 45; refine D.out.mono ?_; rintro e w' ⟨rfl, rfl⟩))
        go_ret2
        exact ⟨rfl, rfl⟩
    · clear h hM
      go_enter Tryd.func22, Tryd.ntmps22
      go_wp2_with (go_at_call 28; refine (within_any _ _ _ _).mono ?_; rintro e w' ⟨rfl, rfl⟩)
      go_ret2
      exact ⟨rfl, rfl⟩
  · clear h hM
    go_enter Tryd.func22, Tryd.ntmps22
    go_wp2_with (go_at_call 28; refine (within_any _ _ _ _).mono ?_; rintro e w' ⟨rfl, rfl⟩)
    go_ret2
    exact ⟨rfl, rfl⟩
end Go.Proofs.YtnflndngkihaaabDoor
