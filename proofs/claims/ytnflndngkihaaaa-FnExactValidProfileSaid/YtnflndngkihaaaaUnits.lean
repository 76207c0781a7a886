import Derived.Test.YtnflndngkihaaaaNum
namespace Go.Proofs.Ytnflndngkihaaaa
open Go.RowKit
set_option linter.unusedVariables false

/-- a value and a code: of what is as it should be, and of what is not -/
def rv (b : Bool) (v : Int) : Int := if b then v else 0
def rc (b : Bool) (c : Int) : Int := if b then 0 else c
theorem rv_t (v : Int) : rv true v = v := rfl
theorem rv_f (v : Int) : rv false v = 0 := rfl
theorem rc_t (c : Int) : rc true c = 0 := rfl
theorem rc_f (c : Int) : rc false c = c := rfl
theorem ret_ii {a b c d : Int} (h : a = b) (h' : c = d) : Ending.returned (.tuple #[.int .i64 a, .int .i64 c]) = .returned (.tuple #[.int .i64 b, .int .i64 d]) := by rw [h, h']
theorem in_cases (l x h : Int) : (l ≤ x ∧ x ≤ h ∧ Ar.inB l x h = true) ∨ (¬ (l ≤ x ∧ x ≤ h) ∧ Ar.inB l x h = false) := by
  by_cases c : l ≤ x ∧ x ≤ h
  · exact Or.inl ⟨c.1, c.2, Ar.inB_t c.1 c.2⟩
  · exact Or.inr ⟨c, Ar.inB_f c⟩

theorem isDay_any (x : Int) (w : World) :
    Calls Try.prog 27 #[.int .i64 x] w fun e w' => e = .returned (.bool (Ar.inB 0 x 36524)) ∧ w = w' := by
  go_enter Try.func27, Try.ntmps27
  go_wp2_with (go_at_call 30; refine (within_any _ _ _ _).mono ?_; rintro e w' ⟨rfl, rfl⟩)
  go_ret
  exact ⟨rfl, rfl⟩
theorem l02Day_any (x : Int) (w : World) :
    Calls Try.prog 25 #[.int .i64 x] w fun e w' => e = .returned (.bool (Ar.inB 0 x 36524)) ∧ w = w' := by
  go_enter Try.func25, Try.ntmps25
  go_wp2_with (go_at_call 29; refine (l00In_any _ _ _ _).mono ?_; rintro e w' ⟨rfl, rfl⟩)
  go_ret
  exact ⟨rfl, rfl⟩
theorem isSnowDensity_any (x : Int) (w : World) :
    Calls Try.prog 32 #[.int .i64 x] w fun e w' => e = .returned (.bool (Ar.inB 1 x 1000)) ∧ w = w' := by
  go_enter Try.func32, Try.ntmps32
  go_wp2_with (go_at_call 30; refine (within_any _ _ _ _).mono ?_; rintro e w' ⟨rfl, rfl⟩)
  go_ret
  exact ⟨rfl, rfl⟩
theorem l02Density_any (x : Int) (w : World) :
    Calls Try.prog 31 #[.int .i64 x] w fun e w' => e = .returned (.bool (Ar.inB 1 x 1000)) ∧ w = w' := by
  go_enter Try.func31, Try.ntmps31
  go_wp2_with (go_at_call 29; refine (l00In_any _ _ _ _).mono ?_; rintro e w' ⟨rfl, rfl⟩)
  go_ret
  exact ⟨rfl, rfl⟩

/-- the weekday of a day -/
def wday (d : Int) : Int := (d + 5) % 7
set_option maxHeartbeats 400000 in
theorem weekday_any (d : Int) (w : World) (h1 : 0 ≤ d) (h2 : d ≤ 36524) :
    Calls Try.prog 28 #[.int .i64 d] w fun e w' => e = .returned (.int .i64 (wday d)) ∧ w = w' := by
  have hd : Hid (wday d = (5 + d) % 7) := Lib.hid (by unfold wday; rw [Int.add_comm])
  go_enter Try.func28, Try.ntmps28
  go_wp2
  go_ret
  exact ⟨ret_int hd.out.symm, rfl⟩
set_option maxHeartbeats 400000 in
theorem implWeekdayOf_any (d : Int) (w : World) :
    Calls Try.prog 10 #[.int .i64 d] w fun e w' => e = .returned (.tuple #[.int .i64 (rv (Ar.inB 0 d 36524) (wday d)), .int .i64 (rc (Ar.inB 0 d 36524) 2)]) ∧ w = w' := by
  rcases in_cases 0 d 36524 with ⟨h1, h2, hi⟩ | ⟨hn, hi⟩
  · have hr := Lib.hid (rv_t (wday d))
    rw [hi]
    go_enter Try.func10, Try.ntmps10
    go_wp2_with (first | (go_at_call 27; refine (isDay_any _ _).mono ?_; rintro e w' ⟨rfl, rfl⟩) | (go_at_call 28; refine (weekday_any _ _ (by omega) (by omega)).mono ?_; rintro e w' ⟨rfl, rfl⟩))
    go_ret2
    exact ⟨rfl, rfl⟩
  · rw [hi]
    clear hn
    go_enter Try.func10, Try.ntmps10
    go_wp2_with (go_at_call 27; refine (isDay_any _ _).mono ?_; rintro e w' ⟨rfl, rfl⟩)
    go_ret2
    exact ⟨rfl, rfl⟩
set_option maxHeartbeats 400000 in
theorem l02Weekday_any (d : Int) (w : World) (h1 : 0 ≤ d) (h2 : d ≤ 36524) :
    Calls Try.prog 26 #[.int .i64 d] w fun e w' => e = .returned (.int .i64 (wday d)) ∧ w = w' := by
  go_enter Try.func26, Try.ntmps26
  go_wp2
  go_ret
  exact ⟨rfl, rfl⟩
set_option maxHeartbeats 400000 in
theorem specWeekdayOf_any (d : Int) (w : World) :
    Calls Try.prog 9 #[.int .i64 d] w fun e w' => e = .returned (.tuple #[.int .i64 (rv (Ar.inB 0 d 36524) (wday d)), .int .i64 (rc (Ar.inB 0 d 36524) 2)]) ∧ w = w' := by
  rcases in_cases 0 d 36524 with ⟨h1, h2, hi⟩ | ⟨hn, hi⟩
  · rw [hi]
    go_enter Try.func9, Try.ntmps9
    go_wp2_with (first | (go_at_call 25; refine (l02Day_any _ _).mono ?_; rintro e w' ⟨rfl, rfl⟩) | (go_at_call 26; refine (l02Weekday_any _ _ (by omega) (by omega)).mono ?_; rintro e w' ⟨rfl, rfl⟩))
    go_ret2
    exact ⟨rfl, rfl⟩
  · rw [hi]
    clear hn
    go_enter Try.func9, Try.ntmps9
    go_wp2_with (go_at_call 25; refine (l02Day_any _ _).mono ?_; rintro e w' ⟨rfl, rfl⟩)
    go_ret2
    exact ⟨rfl, rfl⟩

/-- are both numbers within their bounds? -/
def two (l1 x1 h1 l2 x2 h2 : Int) : Bool := Ar.inB l1 x1 h1 && Ar.inB l2 x2 h2
theorem two_t {l1 x1 h1 l2 x2 h2 : Int} (h : Ar.inB l1 x1 h1 = true) (h' : Ar.inB l2 x2 h2 = true) : two l1 x1 h1 l2 x2 h2 = true := by unfold two; rw [h, h']; rfl
theorem two_f {l1 x1 h1 l2 x2 h2 : Int} (h : Ar.inB l1 x1 h1 = false ∨ Ar.inB l2 x2 h2 = false) : two l1 x1 h1 l2 x2 h2 = false := by
  unfold two; rcases h with h | h <;> rw [h] <;> simp
set_option maxHeartbeats 800000 in
theorem implHourNumber_any (d h : Int) (w : World) :
    Calls Try.prog 12 #[.int .i64 d, .int .i64 h] w fun e w' => e = .returned (.tuple #[.int .i64 (rv (two 0 d 36524 0 h 23) (24 * d + h)), .int .i64 (rc (two 0 d 36524 0 h 23) 2)]) ∧ w = w' := by
  rcases in_cases 0 d 36524 with ⟨h1, h2, hi⟩ | ⟨hn, hi⟩
  · rcases in_cases 0 h 23 with ⟨k1, k2, ki⟩ | ⟨kn, ki⟩
    · rw [two_t hi ki]
      go_enter Try.func12, Try.ntmps12
      go_wp2_with (first | (go_at_call 27; refine (isDay_any _ _).mono ?_; rintro e w' ⟨rfl, rfl⟩) | (go_at_call 30; refine (within_any _ _ _ _).mono ?_; rintro e w' ⟨rfl, rfl⟩))
      go_ret2
      exact ⟨rfl, rfl⟩
    · rw [two_f (Or.inr ki)]
      clear kn
      go_enter Try.func12, Try.ntmps12
      go_wp2_with (first | (go_at_call 27; refine (isDay_any _ _).mono ?_; rintro e w' ⟨rfl, rfl⟩) | (go_at_call 30; refine (within_any _ _ _ _).mono ?_; rintro e w' ⟨rfl, rfl⟩))
      go_ret2
      exact ⟨rfl, rfl⟩
  · rw [two_f (Or.inl hi)]
    clear hn
    go_enter Try.func12, Try.ntmps12
    go_wp2_with (first | (go_at_call 27; refine (isDay_any _ _).mono ?_; rintro e w' ⟨rfl, rfl⟩) | (go_at_call 30; refine (within_any _ _ _ _).mono ?_; rintro e w' ⟨rfl, rfl⟩))
    go_ret2
    exact ⟨rfl, rfl⟩
set_option maxHeartbeats 800000 in
theorem specHourNumber_any (d h : Int) (w : World) :
    Calls Try.prog 11 #[.int .i64 d, .int .i64 h] w fun e w' => e = .returned (.tuple #[.int .i64 (rv (two 0 d 36524 0 h 23) (24 * d + h)), .int .i64 (rc (two 0 d 36524 0 h 23) 2)]) ∧ w = w' := by
  rcases in_cases 0 d 36524 with ⟨h1, h2, hi⟩ | ⟨hn, hi⟩
  · rcases in_cases 0 h 23 with ⟨k1, k2, ki⟩ | ⟨kn, ki⟩
    · rw [two_t hi ki]
      go_enter Try.func11, Try.ntmps11
      go_wp2_with (first | (go_at_call 25; refine (l02Day_any _ _).mono ?_; rintro e w' ⟨rfl, rfl⟩) | (go_at_call 29; refine (l00In_any _ _ _ _).mono ?_; rintro e w' ⟨rfl, rfl⟩))
      go_ret2
      exact ⟨rfl, rfl⟩
    · rw [two_f (Or.inr ki)]
      clear kn
      go_enter Try.func11, Try.ntmps11
      go_wp2_with (first | (go_at_call 25; refine (l02Day_any _ _).mono ?_; rintro e w' ⟨rfl, rfl⟩) | (go_at_call 29; refine (l00In_any _ _ _ _).mono ?_; rintro e w' ⟨rfl, rfl⟩))
      go_ret2
      exact ⟨rfl, rfl⟩
  · rw [two_f (Or.inl hi)]
    clear hn
    go_enter Try.func11, Try.ntmps11
    go_wp2_with (first | (go_at_call 25; refine (l02Day_any _ _).mono ?_; rintro e w' ⟨rfl, rfl⟩) | (go_at_call 29; refine (l00In_any _ _ _ _).mono ?_; rintro e w' ⟨rfl, rfl⟩))
    go_ret2
    exact ⟨rfl, rfl⟩
theorem prod_bd {a b m n : Int} (h1 : 0 ≤ a) (h2 : a ≤ m) (h3 : 0 ≤ b) (h4 : b ≤ n) : 0 ≤ a * b ∧ a * b ≤ m * n := by
  have e1 : a * b ≤ m * b := Int.mul_le_mul_of_nonneg_right h2 h3
  have e2 : m * b ≤ m * n := Int.mul_le_mul_of_nonneg_left h4 (by omega)
  exact ⟨Int.mul_nonneg h1 h3, by omega⟩
set_option maxHeartbeats 800000 in
theorem implSnowMass_any (d h : Int) (w : World) :
    Calls Try.prog 14 #[.int .i64 d, .int .i64 h] w fun e w' => e = .returned (.tuple #[.int .i64 (rv (two 0 d 2000 1 h 1000) (10 * d * h)), .int .i64 (rc (two 0 d 2000 1 h 1000) 2)]) ∧ w = w' := by
  rcases in_cases 0 d 2000 with ⟨h1, h2, hi⟩ | ⟨hn, hi⟩
  · rcases in_cases 1 h 1000 with ⟨k1, k2, ki⟩ | ⟨kn, ki⟩
    · rw [two_t hi ki]
      obtain ⟨p1, p2⟩ := prod_bd (a := 10 * d) (b := h) (m := 20000) (n := 1000) (by omega) (by omega) (by omega) (by omega)
      go_enter Try.func14, Try.ntmps14
      go_wp2_with (first | (go_at_call 32; refine (isSnowDensity_any _ _).mono ?_; rintro e w' ⟨rfl, rfl⟩) | (go_at_call 30; refine (within_any _ _ _ _).mono ?_; rintro e w' ⟨rfl, rfl⟩))
      go_ret2
      exact ⟨rfl, rfl⟩
    · rw [two_f (Or.inr ki)]
      clear kn
      go_enter Try.func14, Try.ntmps14
      go_wp2_with (first | (go_at_call 32; refine (isSnowDensity_any _ _).mono ?_; rintro e w' ⟨rfl, rfl⟩) | (go_at_call 30; refine (within_any _ _ _ _).mono ?_; rintro e w' ⟨rfl, rfl⟩))
      go_ret2
      exact ⟨rfl, rfl⟩
  · rw [two_f (Or.inl hi)]
    clear hn
    go_enter Try.func14, Try.ntmps14
    go_wp2_with (first | (go_at_call 32; refine (isSnowDensity_any _ _).mono ?_; rintro e w' ⟨rfl, rfl⟩) | (go_at_call 30; refine (within_any _ _ _ _).mono ?_; rintro e w' ⟨rfl, rfl⟩))
    go_ret2
    exact ⟨rfl, rfl⟩
set_option maxHeartbeats 800000 in
theorem specSnowMass_any (d h : Int) (w : World) :
    Calls Try.prog 13 #[.int .i64 d, .int .i64 h] w fun e w' => e = .returned (.tuple #[.int .i64 (rv (two 0 d 2000 1 h 1000) (10 * d * h)), .int .i64 (rc (two 0 d 2000 1 h 1000) 2)]) ∧ w = w' := by
  rcases in_cases 0 d 2000 with ⟨h1, h2, hi⟩ | ⟨hn, hi⟩
  · rcases in_cases 1 h 1000 with ⟨k1, k2, ki⟩ | ⟨kn, ki⟩
    · rw [two_t hi ki]
      obtain ⟨p1, p2⟩ := prod_bd (a := 10 * d) (b := h) (m := 20000) (n := 1000) (by omega) (by omega) (by omega) (by omega)
      go_enter Try.func13, Try.ntmps13
      go_wp2_with (first | (go_at_call 31; refine (l02Density_any _ _).mono ?_; rintro e w' ⟨rfl, rfl⟩) | (go_at_call 29; refine (l00In_any _ _ _ _).mono ?_; rintro e w' ⟨rfl, rfl⟩))
      go_ret2
      exact ⟨rfl, rfl⟩
    · rw [two_f (Or.inr ki)]
      clear kn
      go_enter Try.func13, Try.ntmps13
      go_wp2_with (first | (go_at_call 31; refine (l02Density_any _ _).mono ?_; rintro e w' ⟨rfl, rfl⟩) | (go_at_call 29; refine (l00In_any _ _ _ _).mono ?_; rintro e w' ⟨rfl, rfl⟩))
      go_ret2
      exact ⟨rfl, rfl⟩
  · rw [two_f (Or.inl hi)]
    clear hn
    go_enter Try.func13, Try.ntmps13
    go_wp2_with (first | (go_at_call 31; refine (l02Density_any _ _).mono ?_; rintro e w' ⟨rfl, rfl⟩) | (go_at_call 29; refine (l00In_any _ _ _ _).mono ?_; rintro e w' ⟨rfl, rfl⟩))
    go_ret2
    exact ⟨rfl, rfl⟩
set_option maxHeartbeats 800000 in
theorem implSnowHeight_any (d h : Int) (w : World) :
    Calls Try.prog 16 #[.int .i64 d, .int .i64 h] w fun e w' => e = .returned (.tuple #[.int .i64 (rv (two 0 d 1000000000 1 h 1000) (Ar.dr d (10 * h))), .int .i64 (rc (two 0 d 1000000000 1 h 1000) 2)]) ∧ w = w' := by
  rcases in_cases 0 d 1000000000 with ⟨h1, h2, hi⟩ | ⟨hn, hi⟩
  · rcases in_cases 1 h 1000 with ⟨k1, k2, ki⟩ | ⟨kn, ki⟩
    · rw [two_t hi ki]
      have hd : Hid (Ar.dR d (10 * h) = Ar.dr d (10 * h)) := Lib.hid (by unfold Ar.dR; rw [if_neg (by omega)])
      go_enter Try.func16, Try.ntmps16
      go_wp2_with (first | (go_at_call 32; refine (isSnowDensity_any _ _).mono ?_; rintro e w' ⟨rfl, rfl⟩) | (go_at_call 30; refine (within_any _ _ _ _).mono ?_; rintro e w' ⟨rfl, rfl⟩) | (go_at_call 34; refine (implDivRound_any _ _ _).mono ?_; rintro e w' ⟨rfl, rfl⟩))
      go_ret2
      exact ⟨ret_ii hd.out rfl, rfl⟩
    · rw [two_f (Or.inr ki)]
      clear kn
      go_enter Try.func16, Try.ntmps16
      go_wp2_with (first | (go_at_call 32; refine (isSnowDensity_any _ _).mono ?_; rintro e w' ⟨rfl, rfl⟩) | (go_at_call 30; refine (within_any _ _ _ _).mono ?_; rintro e w' ⟨rfl, rfl⟩))
      go_ret2
      exact ⟨rfl, rfl⟩
  · rw [two_f (Or.inl hi)]
    clear hn
    go_enter Try.func16, Try.ntmps16
    go_wp2_with (first | (go_at_call 32; refine (isSnowDensity_any _ _).mono ?_; rintro e w' ⟨rfl, rfl⟩) | (go_at_call 30; refine (within_any _ _ _ _).mono ?_; rintro e w' ⟨rfl, rfl⟩))
    go_ret2
    exact ⟨rfl, rfl⟩
set_option maxHeartbeats 800000 in
theorem specSnowHeight_any (d h : Int) (w : World) :
    Calls Try.prog 15 #[.int .i64 d, .int .i64 h] w fun e w' => e = .returned (.tuple #[.int .i64 (rv (two 0 d 1000000000 1 h 1000) (Ar.dr d (10 * h))), .int .i64 (rc (two 0 d 1000000000 1 h 1000) 2)]) ∧ w = w' := by
  rcases in_cases 0 d 1000000000 with ⟨h1, h2, hi⟩ | ⟨hn, hi⟩
  · rcases in_cases 1 h 1000 with ⟨k1, k2, ki⟩ | ⟨kn, ki⟩
    · rw [two_t hi ki]
      go_enter Try.func15, Try.ntmps15
      go_wp2_with (first | (go_at_call 31; refine (l02Density_any _ _).mono ?_; rintro e w' ⟨rfl, rfl⟩) | (go_at_call 29; refine (l00In_any _ _ _ _).mono ?_; rintro e w' ⟨rfl, rfl⟩) | (go_at_call 33; refine (l01Div_any _ _ _ (by omega) (by omega) (by omega) (by omega) (by omega)).mono ?_; rintro e w' ⟨rfl, rfl⟩))
      go_ret2
      exact ⟨rfl, rfl⟩
    · rw [two_f (Or.inr ki)]
      clear kn
      go_enter Try.func15, Try.ntmps15
      go_wp2_with (first | (go_at_call 31; refine (l02Density_any _ _).mono ?_; rintro e w' ⟨rfl, rfl⟩) | (go_at_call 29; refine (l00In_any _ _ _ _).mono ?_; rintro e w' ⟨rfl, rfl⟩))
      go_ret2
      exact ⟨rfl, rfl⟩
  · rw [two_f (Or.inl hi)]
    clear hn
    go_enter Try.func15, Try.ntmps15
    go_wp2_with (first | (go_at_call 31; refine (l02Density_any _ _).mono ?_; rintro e w' ⟨rfl, rfl⟩) | (go_at_call 29; refine (l00In_any _ _ _ _).mono ?_; rintro e w' ⟨rfl, rfl⟩))
    go_ret2
    exact ⟨rfl, rfl⟩
end Go.Proofs.Ytnflndngkihaaaa
