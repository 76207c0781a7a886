import Derived.Test.YtommcckihanedaaGreatDoorNum
namespace Go.Proofs.YtommcckihanedaaGreatDoor
open Go.RowKit
set_option linter.unusedVariables false

/-- a value and a code: of what is as it should be, and of what is not -/
def rv (b : Bool) (v : Int) : Int := if b then v else 0
def rc (b : Bool) (c : Int) : Int := if b then 0 else c
theorem rv_t (v : Int) : rv true v = v := rfl
theorem rv_f (v : Int) : rv false v = 0 := rfl
theorem rc_t (c : Int) : rc true c = 0 := rfl
theorem rc_f (c : Int) : rc false c = c := rfl
theorem ret_ii {a b c d : Int} (h : a = b) (h' : c = d) : Ending.returned (.tuple #[.int .i64 a, .int .i64 c]) = .returned (.tuple #[.int .i64 b, .int .i64 d]) := by rw [h, h']
theorem in_cases (l x h : Int) : (l ≤ x ∧ x ≤ h ∧ Ar.inB l x h = true) ∨ (¬ (l ≤ x ∧ x ≤ h) ∧ Ar.inB l x h = false) := by
  by_cases c : l ≤ x ∧ x ≤ h
  · exact Or.inl ⟨c.1, c.2, Ar.inB_t c.1 c.2⟩
  · exact Or.inr ⟨c, Ar.inB_f c⟩

theorem isSnowDensity_any (x : Int) (w : World) :
    Calls Tryz.prog 32 #[.int .i64 x] w fun e w' => e = .returned (.bool (Ar.inB 1 x 1000)) ∧ w = w' := by
  go_enter Tryz.func32, Tryz.ntmps32
  go_wp2_with (go_at_call 21; refine (within_any _ _ _ _).mono ?_; rintro e w' ⟨rfl, rfl⟩)
  go_ret
  exact ⟨rfl, rfl⟩

/-- the weekday of a day -/
def wday (d : Int) : Int := (d + 5) % 7

/-- are both numbers within their bounds? -/
def two (l1 x1 h1 l2 x2 h2 : Int) : Bool := Ar.inB l1 x1 h1 && Ar.inB l2 x2 h2
theorem two_t {l1 x1 h1 l2 x2 h2 : Int} (h : Ar.inB l1 x1 h1 = true) (h' : Ar.inB l2 x2 h2 = true) : two l1 x1 h1 l2 x2 h2 = true := by unfold two; rw [h, h']; rfl
theorem two_f {l1 x1 h1 l2 x2 h2 : Int} (h : Ar.inB l1 x1 h1 = false ∨ Ar.inB l2 x2 h2 = false) : two l1 x1 h1 l2 x2 h2 = false := by
  unfold two; rcases h with h | h <;> rw [h] <;> simp
theorem prod_bd {a b m n : Int} (h1 : 0 ≤ a) (h2 : a ≤ m) (h3 : 0 ≤ b) (h4 : b ≤ n) : 0 ≤ a * b ∧ a * b ≤ m * n := by
  have e1 : a * b ≤ m * b := Int.mul_le_mul_of_nonneg_right h2 h3
  have e2 : m * b ≤ m * n := Int.mul_le_mul_of_nonneg_left h4 (by omega)
  exact ⟨Int.mul_nonneg h1 h3, by omega⟩
set_option maxHeartbeats 800000 in
theorem implSnowMass_any (d h : Int) (w : World) :
    Calls Tryz.prog 12 #[.int .i64 d, .int .i64 h] w fun e w' => e = .returned (.tuple #[.int .i64 (rv (two 0 d 2000 1 h 1000) (10 * d * h)), .int .i64 (rc (two 0 d 2000 1 h 1000) 2)]) ∧ w = w' := by
  rcases in_cases 0 d 2000 with ⟨h1, h2, hi⟩ | ⟨hn, hi⟩
  · rcases in_cases 1 h 1000 with ⟨k1, k2, ki⟩ | ⟨kn, ki⟩
    · rw [two_t hi ki]
      obtain ⟨p1, p2⟩ := prod_bd (a := 10 * d) (b := h) (m := 20000) (n := 1000) (by omega) (by omega) (by omega) (by omega)
      go_enter Tryz.func12, Tryz.ntmps12
      go_wp2_with (first | (go_at_call 32; refine (isSnowDensity_any _ _).mono ?_; rintro e w' ⟨rfl, rfl⟩) | (go_at_call 21; refine (within_any _ _ _ _).mono ?_; rintro e w' ⟨rfl, rfl⟩))
      go_ret2
      exact ⟨rfl, rfl⟩
    · rw [two_f (Or.inr ki)]
      clear kn
      go_enter Tryz.func12, Tryz.ntmps12
      go_wp2_with (first | (go_at_call 32; refine (isSnowDensity_any _ _).mono ?_; rintro e w' ⟨rfl, rfl⟩) | (go_at_call 21; refine (within_any _ _ _ _).mono ?_; rintro e w' ⟨rfl, rfl⟩))
      go_ret2
      exact ⟨rfl, rfl⟩
  · rw [two_f (Or.inl hi)]
    clear hn
    go_enter Tryz.func12, Tryz.ntmps12
    go_wp2_with (first | (go_at_call 32; refine (isSnowDensity_any _ _).mono ?_; rintro e w' ⟨rfl, rfl⟩) | (go_at_call 21; refine (within_any _ _ _ _).mono ?_; rintro e w' ⟨rfl, rfl⟩))
    go_ret2
    exact ⟨rfl, rfl⟩
set_option maxHeartbeats 800000 in
theorem implSnowHeight_any (d h : Int) (w : World) :
    Calls Tryz.prog 13 #[.int .i64 d, .int .i64 h] w fun e w' => e = .returned (.tuple #[.int .i64 (rv (two 0 d 1000000000 1 h 1000) (Ar.dr d (10 * h))), .int .i64 (rc (two 0 d 1000000000 1 h 1000) 2)]) ∧ w = w' := by
  rcases in_cases 0 d 1000000000 with ⟨h1, h2, hi⟩ | ⟨hn, hi⟩
  · rcases in_cases 1 h 1000 with ⟨k1, k2, ki⟩ | ⟨kn, ki⟩
    · rw [two_t hi ki]
      have hd : Hid (Ar.dR d (10 * h) = Ar.dr d (10 * h)) := Lib.hid (by unfold Ar.dR; rw [if_neg (by omega)])
      go_enter Tryz.func13, Tryz.ntmps13
      go_wp2_with (first | (go_at_call 32; refine (isSnowDensity_any _ _).mono ?_; rintro e w' ⟨rfl, rfl⟩) | (go_at_call 21; refine (within_any _ _ _ _).mono ?_; rintro e w' ⟨rfl, rfl⟩) | (go_at_call 33; refine (implDivRound_any _ _ _).mono ?_; rintro e w' ⟨rfl, rfl⟩))
      go_ret2
      exact ⟨ret_ii hd.out rfl, rfl⟩
    · rw [two_f (Or.inr ki)]
      clear kn
      go_enter Tryz.func13, Tryz.ntmps13
      go_wp2_with (first | (go_at_call 32; refine (isSnowDensity_any _ _).mono ?_; rintro e w' ⟨rfl, rfl⟩) | (go_at_call 21; refine (within_any _ _ _ _).mono ?_; rintro e w' ⟨rfl, rfl⟩))
      go_ret2
      exact ⟨rfl, rfl⟩
  · rw [two_f (Or.inl hi)]
    clear hn
    go_enter Tryz.func13, Tryz.ntmps13
    go_wp2_with (first | (go_at_call 32; refine (isSnowDensity_any _ _).mono ?_; rintro e w' ⟨rfl, rfl⟩) | (go_at_call 21; refine (within_any _ _ _ _).mono ?_; rintro e w' ⟨rfl, rfl⟩))
    go_ret2
    exact ⟨rfl, rfl⟩
end Go.Proofs.YtommcckihanedaaGreatDoor
