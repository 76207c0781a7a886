import Derived.Test.YtommcckihanedaaGreatDoorRows
import Derived.Test.YtommcckihanedaaGreatDoorArith
import Derived.WalkKit
import Derived.WalkSpells
import Derived.WalkLawsBesides
import Derived.Outline
import Derived.IntWalk
import Derived.Lib.Hide
namespace Go.Proofs.YtommcckihanedaaGreatDoor
open Go.RowKit
set_option linter.unusedVariables false

theorem ret_int {k : IntKind} {a b : Int} (h : a = b) : Ending.returned (.int k a) = .returned (.int k b) := by rw [h]
theorem u64_wrap (a : Int) : IntKind.u64.wrap a = a % 18446744073709551616 := by
  unfold IntKind.wrap; simp only [IntKind.signed, IntKind.bits, Bool.false_and, Bool.false_eq_true, if_false]
  rfl
theorem u64_neg (a : Int) (h1 : -1000000000000000000 ≤ a) (h2 : a < 0) : IntKind.u64.wrap (-IntKind.u64.wrap a) = -a := by
  rw [u64_wrap, u64_wrap]; omega
theorem u64_in (a : Int) (h1 : 0 ≤ a) (h2 : a ≤ 1000000000000000000) : IntKind.u64.wrap a = a := by
  rw [u64_wrap]; omega
set_option maxHeartbeats 400000 in
theorem magnitude_any (a : Int) (w : World) (h1 : -1000000000000000000 ≤ a) (h2 : a ≤ 1000000000000000000) :
    Calls Tryz.prog 70 #[.int .i64 a] w fun e w' => e = .returned (.int .u64 (Ar.ab a)) ∧ w = w' := by
  by_cases h : a < 0
  · have ha : Ar.ab a = -a := by unfold Ar.ab; rw [if_pos h]
    have hu := u64_neg a h1 h
    go_enter Tryz.func70, Tryz.ntmps70
    go_wp2
    go_ret
    exact ⟨ret_int ha.symm, rfl⟩
  · have ha : Ar.ab a = a := by unfold Ar.ab; rw [if_neg h]
    go_enter Tryz.func70, Tryz.ntmps70
    go_wp2
    go_ret
    exact ⟨rfl, rfl⟩
set_option maxHeartbeats 400000 in
theorem nearest_any (a b : Int) (w : World) (h1 : -1000000000000000000 ≤ a) (h2 : a ≤ 1000000000000000000) (h3 : -1000000000000000000 ≤ b) (h4 : b ≤ 1000000000000000000) (hb : b < 0 ∨ 0 < b) :
    Calls Tryz.prog 51 #[.int .i64 a, .int .i64 b] w fun e w' => e = .returned (.int .i64 (Ar.dr a b)) ∧ w = w' := by
  have e := Lib.hid (Ar.near_eq a b hb)
  have hm := Ar.tmod_lt (a := a) hb
  obtain ⟨hr1, hr2⟩ := Ar.tmod_bd (a := a) (m := 1000000000000000000) hb (by omega) (by omega)
  obtain ⟨hq1, hq2⟩ := Ar.tdiv_le (b := b) (m := 1000000000000000000) (a := a) (by omega) (by omega)
  have hn := Ar.ab_nonneg (a.tmod b)
  have hbl := Ar.ab_le (a := b) (m := 1000000000000000000) (by omega) (by omega)
  have hu : IntKind.u64.wrap (Ar.ab b - Ar.ab (a.tmod b)) = Ar.ab b - Ar.ab (a.tmod b) := u64_in _ (by omega) (by omega)
  have hb0 : (b == 0) = false := by simp; omega
  have hbn : ¬ b = 0 := by omega
  clear hb
  by_cases c1 : Ar.ab (a.tmod b) < Ar.ab b - Ar.ab (a.tmod b)
  · have hd : Hid (Ar.near a b = a.tdiv b) := Lib.hid (by unfold Ar.near; rw [if_pos c1])
    go_enter Tryz.func51, Tryz.ntmps51
    go_wp2_with (go_at_call 70; refine (magnitude_any _ _ (by omega) (by omega)).mono ?_; rintro e w' ⟨rfl, rfl⟩)
    go_ret
    exact ⟨ret_int (by rw [← e.out, hd.out]), rfl⟩
  · by_cases c2 : (!(decide (a < 0) == decide (b < 0))) = true
    · have hd : Hid (Ar.near a b = a.tdiv b - 1) := Lib.hid (by unfold Ar.near; rw [if_neg c1, if_pos c2])
      go_enter Tryz.func51, Tryz.ntmps51
      go_wp2_with (go_at_call 70; refine (magnitude_any _ _ (by omega) (by omega)).mono ?_; rintro e w' ⟨rfl, rfl⟩)
      go_ret
      exact ⟨ret_int (by rw [← e.out, hd.out]), rfl⟩
    · have hd : Hid (Ar.near a b = a.tdiv b + 1) := Lib.hid (by unfold Ar.near; rw [if_neg c1, if_neg c2])
      have c2' : (!(decide (a < 0) == decide (b < 0))) = false := by simpa using c2
      clear c2
      go_enter Tryz.func51, Tryz.ntmps51
      go_wp2_with (go_at_call 70; refine (magnitude_any _ _ (by omega) (by omega)).mono ?_; rintro e w' ⟨rfl, rfl⟩)
      go_ret
      exact ⟨ret_int (by rw [← e.out, hd.out]), rfl⟩

theorem ret_bool {a b : Bool} (h : a = b) : Ending.returned (.bool a) = .returned (.bool b) := by rw [h]
set_option maxHeartbeats 400000 in
theorem within_any (x l h : Int) (w : World) :
    Calls Tryz.prog 21 #[.int .i64 x, .int .i64 l, .int .i64 h] w fun e w' => e = .returned (.bool (Ar.inB l x h)) ∧ w = w' := by
  by_cases h1 : l ≤ x
  · go_enter Tryz.func21, Tryz.ntmps21
    go_wp2
    go_ret
    exact ⟨ret_bool (by unfold Ar.inB; simp [h1]), rfl⟩
  · go_enter Tryz.func21, Tryz.ntmps21
    go_wp2
    go_ret
    exact ⟨ret_bool (by rw [Ar.inB_f]; omega), rfl⟩
theorem isValue_any (x : Int) (w : World) :
    Calls Tryz.prog 50 #[.int .i64 x] w fun e w' => e = .returned (.bool (Ar.inB (-1000000000000) x 1000000000000)) ∧ w = w' := by
  go_enter Tryz.func50, Tryz.ntmps50
  go_wp2_with (go_at_call 21; refine (within_any _ _ _ _).mono ?_; rintro e w' ⟨rfl, rfl⟩)
  go_ret
  exact ⟨rfl, rfl⟩

theorem inV_cases (x : Int) : ((-1000000000000 ≤ x ∧ x ≤ 1000000000000) ∧ Ar.inB (-1000000000000) x 1000000000000 = true) ∨ (¬ (-1000000000000 ≤ x ∧ x ≤ 1000000000000) ∧ Ar.inB (-1000000000000) x 1000000000000 = false) := by
  by_cases h : -1000000000000 ≤ x ∧ x ≤ 1000000000000
  · exact Or.inl ⟨h, Ar.inB_t h.1 h.2⟩
  · exact Or.inr ⟨h, Ar.inB_f h⟩
set_option maxHeartbeats 400000 in
theorem nearest_zero (a : Int) (w : World) :
    Calls Tryz.prog 51 #[.int .i64 a, .int .i64 0] w fun e w' => e = .returned (.int .i64 0) ∧ w = w' := by
  go_enter Tryz.func51, Tryz.ntmps51
  go_wp2
  go_ret
  exact ⟨rfl, rfl⟩
set_option maxHeartbeats 800000 in
theorem implDivRound_any (a b : Int) (w : World) :
    Calls Tryz.prog 33 #[.int .i64 a, .int .i64 b] w fun e w' => e = .returned (.int .i64 (Ar.dR a b)) ∧ w = w' := by
  rcases inV_cases a with ⟨ha, ia⟩ | ⟨ha, ia⟩
  · rcases inV_cases b with ⟨hv, ib⟩ | ⟨hv, ib⟩
    · by_cases hb : b = 0
      · subst hb
        have hd : Hid (Ar.dR a 0 = 0) := Lib.hid (by unfold Ar.dR; rw [if_pos (Or.inl rfl)])
        clear hv ha
        go_enter Tryz.func33, Tryz.ntmps33
        go_wp2_with (first | (go_at_call 50; refine (isValue_any _ _).mono ?_; rintro e w' ⟨rfl, rfl⟩) | (go_at_call 51; refine (nearest_zero _ _).mono ?_; rintro e w' ⟨rfl, rfl⟩))
        go_ret
        exact ⟨ret_int hd.out.symm, rfl⟩
      · have hd : Hid (Ar.dR a b = Ar.dr a b) := Lib.hid (by unfold Ar.dR; rw [if_neg (by simp [hb, ha, hv])])
        obtain ⟨ha1, ha2⟩ := ha
        obtain ⟨hv1, hv2⟩ := hv
        go_enter Tryz.func33, Tryz.ntmps33
        go_wp2_with (first | (go_at_call 50; refine (isValue_any _ _).mono ?_; rintro e w' ⟨rfl, rfl⟩) | (go_at_call 51; refine (nearest_any _ _ _ (by omega) (by omega) (by omega) (by omega) (by omega)).mono ?_; rintro e w' ⟨rfl, rfl⟩))
        go_ret
        exact ⟨ret_int hd.out.symm, rfl⟩
    · have hd : Hid (Ar.dR a b = 0) := Lib.hid (by unfold Ar.dR; rw [if_pos (Or.inr (Or.inr hv))])
      clear hv ha
      go_enter Tryz.func33, Tryz.ntmps33
      go_wp2_with (go_at_call 50; refine (isValue_any _ _).mono ?_; rintro e w' ⟨rfl, rfl⟩)
      go_ret
      exact ⟨ret_int hd.out.symm, rfl⟩
  · have hd : Hid (Ar.dR a b = 0) := Lib.hid (by unfold Ar.dR; rw [if_pos (Or.inr (Or.inl ha))])
    clear ha
    go_enter Tryz.func33, Tryz.ntmps33
    go_wp2_with (go_at_call 50; refine (isValue_any _ _).mono ?_; rintro e w' ⟨rfl, rfl⟩)
    go_ret
    exact ⟨ret_int hd.out.symm, rfl⟩
end Go.Proofs.YtommcckihanedaaGreatDoor
