import Derived.Test.YtnflndngkihaaabDoorNum
namespace Go.Proofs.YtnflndngkihaaabDoor
open Go.RowKit
set_option linter.unusedVariables false

/-- a value and a code: of what is as it should be, and of what is not -/
def rv (b : Bool) (v : Int) : Int := if b then v else 0
def rc (b : Bool) (c : Int) : Int := if b then 0 else c
theorem rv_t (v : Int) : rv true v = v := rfl
theorem rv_f (v : Int) : rv false v = 0 := rfl
theorem rc_t (c : Int) : rc true c = 0 := rfl
theorem rc_f (c : Int) : rc false c = c := rfl
theorem ret_ii {a b c d : Int} (h : a = b) (h' : c = d) : Ending.returned (.tuple #[.int .i64 a, .int .i64 c]) = .returned (.tuple #[.int .i64 b, .int .i64 d]) := by rw [h, h']
theorem in_cases (l x h : Int) : (l ≤ x ∧ x ≤ h ∧ Ar.inB l x h = true) ∨ (¬ (l ≤ x ∧ x ≤ h) ∧ Ar.inB l x h = false) := by
  by_cases c : l ≤ x ∧ x ≤ h
  · exact Or.inl ⟨c.1, c.2, Ar.inB_t c.1 c.2⟩
  · exact Or.inr ⟨c, Ar.inB_f c⟩

theorem isDay_any (x : Int) (w : World) :
    Calls Tryd.prog 41 #[.int .i64 x] w fun e w' => e = .returned (.bool (Ar.inB 0 x 36524)) ∧ w = w' := by
  go_enter Tryd.func41, Tryd.ntmps41
  go_wp2_with (go_at_call 28; refine (within_any _ _ _ _).mono ?_; rintro e w' ⟨rfl, rfl⟩)
  go_ret
  exact ⟨rfl, rfl⟩

/-- the weekday of a day -/
def wday (d : Int) : Int := (d + 5) % 7
set_option maxHeartbeats 400000 in
theorem weekday_any (d : Int) (w : World) (h1 : 0 ≤ d) (h2 : d ≤ 36524) :
    Calls Tryd.prog 48 #[.int .i64 d] w fun e w' => e = .returned (.int .i64 (wday d)) ∧ w = w' := by
  have hd : Hid (wday d = (5 + d) % 7) := Lib.hid (by unfold wday; rw [Int.add_comm])
  go_enter Tryd.func48, Tryd.ntmps48
  go_wp2
  go_ret
  exact ⟨ret_int hd.out.symm, rfl⟩
set_option maxHeartbeats 400000 in
theorem implWeekdayOf_any (d : Int) (w : World) :
    Calls Tryd.prog 24 #[.int .i64 d] w fun e w' => e = .returned (.tuple #[.int .i64 (rv (Ar.inB 0 d 36524) (wday d)), .int .i64 (rc (Ar.inB 0 d 36524) 2)]) ∧ w = w' := by
  rcases in_cases 0 d 36524 with ⟨h1, h2, hi⟩ | ⟨hn, hi⟩
  · have hr := Lib.hid (rv_t (wday d))
    rw [hi]
    go_enter Tryd.func24, Tryd.ntmps24
    go_wp2_with (first | (go_at_call 41; refine (isDay_any _ _).mono ?_; rintro e w' ⟨rfl, rfl⟩) | (go_at_call 48; refine (weekday_any _ _ (by omega) (by omega)).mono ?_; rintro e w' ⟨rfl, rfl⟩))
    go_ret2
    exact ⟨rfl, rfl⟩
  · rw [hi]
    clear hn
    go_enter Tryd.func24, Tryd.ntmps24
    go_wp2_with (go_at_call 41; refine (isDay_any _ _).mono ?_; rintro e w' ⟨rfl, rfl⟩)
    go_ret2
    exact ⟨rfl, rfl⟩

/-- are both numbers within their bounds? -/
def two (l1 x1 h1 l2 x2 h2 : Int) : Bool := Ar.inB l1 x1 h1 && Ar.inB l2 x2 h2
theorem two_t {l1 x1 h1 l2 x2 h2 : Int} (h : Ar.inB l1 x1 h1 = true) (h' : Ar.inB l2 x2 h2 = true) : two l1 x1 h1 l2 x2 h2 = true := by unfold two; rw [h, h']; rfl
theorem two_f {l1 x1 h1 l2 x2 h2 : Int} (h : Ar.inB l1 x1 h1 = false ∨ Ar.inB l2 x2 h2 = false) : two l1 x1 h1 l2 x2 h2 = false := by
  unfold two; rcases h with h | h <;> rw [h] <;> simp
set_option maxHeartbeats 800000 in
theorem implHourNumber_any (d h : Int) (w : World) :
    Calls Tryd.prog 26 #[.int .i64 d, .int .i64 h] w fun e w' => e = .returned (.tuple #[.int .i64 (rv (two 0 d 36524 0 h 23) (24 * d + h)), .int .i64 (rc (two 0 d 36524 0 h 23) 2)]) ∧ w = w' := by
  rcases in_cases 0 d 36524 with ⟨h1, h2, hi⟩ | ⟨hn, hi⟩
  · rcases in_cases 0 h 23 with ⟨k1, k2, ki⟩ | ⟨kn, ki⟩
    · rw [two_t hi ki]
      go_enter Tryd.func26, Tryd.ntmps26
      go_wp2_with (first | (go_at_call 41; refine (isDay_any _ _).mono ?_; rintro e w' ⟨rfl, rfl⟩) | (go_at_call 28; refine (within_any _ _ _ _).mono ?_; rintro e w' ⟨rfl, rfl⟩))
      go_ret2
      exact ⟨rfl, rfl⟩
    · rw [two_f (Or.inr ki)]
      clear kn
      go_enter Tryd.func26, Tryd.ntmps26
      go_wp2_with (first | (go_at_call 41; refine (isDay_any _ _).mono ?_; rintro e w' ⟨rfl, rfl⟩) | (go_at_call 28; refine (within_any _ _ _ _).mono ?_; rintro e w' ⟨rfl, rfl⟩))
      go_ret2
      exact ⟨rfl, rfl⟩
  · rw [two_f (Or.inl hi)]
    clear hn
    go_enter Tryd.func26, Tryd.ntmps26
    go_wp2_with (first | (go_at_call 41; refine (isDay_any _ _).mono ?_; rintro e w' ⟨rfl, rfl⟩) | (go_at_call 28; refine (within_any _ _ _ _).mono ?_; rintro e w' ⟨rfl, rfl⟩))
    go_ret2
    exact ⟨rfl, rfl⟩
end Go.Proofs.YtnflndngkihaaabDoor
