/-
  SlabVolume, SlabTonnes, DepositDepth by the model and by the program (chapter 12). No condition of its own.
-/
import Derived.Test.YtobcflcmlejajaaVoA
namespace Go.Proofs.Ytobcflcmlejajaa
open Go.RowKit Go.Shelf
set_option linter.unusedVariables false
set_option maxRecDepth 100000

namespace Vm
theorem mul2 {q d : Int} (h1 : 0 ≤ q) (h2 : q ≤ 1000000) (h3 : 0 ≤ d) (h4 : d ≤ 1000) : 0 ≤ q * d ∧ q * d ≤ 1000000000 := by
  obtain ⟨a, b, _, _⟩ := prod3 h1 h2 h3 h4 (show (0:Int) ≤ 0 by omega) (by omega); exact ⟨a, b⟩
theorem mul2p {q d : Int} (h1 : 1 ≤ q) (h2 : q ≤ 1000000) (h3 : 1 ≤ d) (h4 : d ≤ 1000) : 1 ≤ q * d ∧ q * d ≤ 1000000000 := by
  have := Int.mul_le_mul h1 h3 (by omega) (by omega : (0 : Int) ≤ q)
  obtain ⟨a, b⟩ := mul2 (show 0 ≤ q by omega) h2 (show 0 ≤ d by omega) h4
  exact ⟨by omega, b⟩
theorem nand {b c : Bool} (h : ¬ (b = true ∧ c = true)) : (b && c) = false := by cases b <;> cases c <;> simp_all
end Vm
set_option maxHeartbeats 800000 in
theorem l12Slab_any (q d : Int) (w : World) :
    Calls Try.prog 30 #[.int .i64 q, .int .i64 d] w fun e w' => e = .returned (.bool (Ar.inB 0 q 1000000 && Ar.inB 0 d 1000)) ∧ w = w' := by
  rcases in_cases 0 q 1000000 with ⟨h1, h2, hi⟩ | ⟨hn, hi⟩
  · rw [hi, Bool.true_and]
    go_enter Try.func30, Try.ntmps30
    go_wp2_with (go_at_call 39; refine (l00In_any _ _ _ _).mono ?_; rintro e w' ⟨rfl, rfl⟩)
    go_ret
    exact ⟨rfl, rfl⟩
  · rw [hi, Bool.false_and]
    clear hn
    go_enter Try.func30, Try.ntmps30
    go_wp2_with (go_at_call 39; refine (l00In_any _ _ _ _).mono ?_; rintro e w' ⟨rfl, rfl⟩)
    go_ret
    exact ⟨rfl, rfl⟩
set_option maxHeartbeats 3200000 in
theorem specSlabVolume_any (q d : Int) (w : World) :
    Calls Try.prog 13 #[.int .i64 q, .int .i64 d] w fun e w' => e = .returned (.tuple #[.int .i64 (Vm.slV q d), .int .i64 (Vm.slC q d)]) ∧ w = w' := by
  unfold Vm.slV Vm.slC
  rcases in_cases 0 q 1000000 with ⟨h0, k0, i0⟩ | ⟨hn0, i0⟩ <;> rcases in_cases 0 d 1000 with ⟨h1, k1, i1⟩ | ⟨hn1, i1⟩
  all_goals rw [i0, i1]
  all_goals first
    | (
      obtain ⟨m0, m1⟩ := Vm.mul2 h0 k0 h1 k1
      have C := Lib.hid (fun W => l01Div_any (q * d) 100 W (by omega) (by omega) (by omega) (by omega) (Or.inr (by omega)))
      go_enter Try.func13, Try.ntmps13
      go_wp2_with (first | (go_at_call 30; refine (l12Slab_any _ _ _).mono ?_; rintro e w' ⟨rfl, rfl⟩) | (go_at_call 31; refine (C.out _).mono ?_; rintro e w' ⟨rfl, rfl⟩))
      go_ret2
      exact ⟨rfl, rfl⟩)
    | (
      try clear hn0
      try clear hn1
      go_enter Try.func13, Try.ntmps13
      go_wp2_with (first | (go_at_call 30; refine (l12Slab_any _ _ _).mono ?_; rintro e w' ⟨rfl, rfl⟩))
      go_ret2
      exact ⟨rfl, rfl⟩)
set_option maxHeartbeats 3200000 in
theorem implSlabVolume_any (q d : Int) (w : World) :
    Calls Try.prog 14 #[.int .i64 q, .int .i64 d] w fun e w' => e = .returned (.tuple #[.int .i64 (Vm.slV q d), .int .i64 (Vm.slC q d)]) ∧ w = w' := by
  unfold Vm.slV Vm.slC
  rcases in_cases 0 q 1000000 with ⟨h0, k0, i0⟩ | ⟨hn0, i0⟩ <;> rcases in_cases 0 d 1000 with ⟨h1, k1, i1⟩ | ⟨hn1, i1⟩
  all_goals rw [i0, i1]
  all_goals first
    | (
      obtain ⟨m0, m1⟩ := Vm.mul2 h0 k0 h1 k1
      have C := Lib.hid (fun W => divR_any (q * d) 100 W (by omega) (by omega) (by omega) (by omega))
      go_enter Try.func14, Try.ntmps14
      go_wp2_with (first | (go_at_call 32; refine (within_any _ _ _ _).mono ?_; rintro e w' ⟨rfl, rfl⟩) | (go_at_call 33; refine (C.out _).mono ?_; rintro e w' ⟨rfl, rfl⟩))
      go_ret2
      exact ⟨rfl, rfl⟩)
    | (
      try clear hn0
      try clear hn1
      go_enter Try.func14, Try.ntmps14
      go_wp2_with (first | (go_at_call 32; refine (within_any _ _ _ _).mono ?_; rintro e w' ⟨rfl, rfl⟩))
      go_ret2
      exact ⟨rfl, rfl⟩)
set_option maxHeartbeats 3200000 in
theorem specSlabTonnes_any (q d n : Int) (w : World) :
    Calls Try.prog 15 #[.int .i64 q, .int .i64 d, .int .i64 n] w fun e w' => e = .returned (.tuple #[.int .i64 (Vm.stV q d n), .int .i64 (Vm.stC q d n)]) ∧ w = w' := by
  unfold Vm.stV Vm.stC
  rcases in_cases 0 q 1000000 with ⟨h0, k0, i0⟩ | ⟨hn0, i0⟩ <;> rcases in_cases 0 d 1000 with ⟨h1, k1, i1⟩ | ⟨hn1, i1⟩ <;> rcases in_cases 1 n 1000 with ⟨h2, k2, i2⟩ | ⟨hn2, i2⟩
  all_goals rw [i0, i1, i2]
  all_goals first
    | (
      have C := Lib.hid (fun W => l12Mass_any q d n W h0 k0 h1 k1 (by omega) k2)
      go_enter Try.func15, Try.ntmps15
      go_wp2_with (first | (go_at_call 30; refine (l12Slab_any _ _ _).mono ?_; rintro e w' ⟨rfl, rfl⟩) | (go_at_call 34; refine (l02Density_any _ _).mono ?_; rintro e w' ⟨rfl, rfl⟩) | (go_at_call 35; refine (C.out _).mono ?_; rintro e w' ⟨rfl, rfl⟩))
      go_ret2
      exact ⟨rfl, rfl⟩)
    | (
      try clear hn0
      try clear hn1
      try clear hn2
      go_enter Try.func15, Try.ntmps15
      go_wp2_with (first | (go_at_call 30; refine (l12Slab_any _ _ _).mono ?_; rintro e w' ⟨rfl, rfl⟩) | (go_at_call 34; refine (l02Density_any _ _).mono ?_; rintro e w' ⟨rfl, rfl⟩))
      go_ret2
      exact ⟨rfl, rfl⟩)
set_option maxHeartbeats 3200000 in
theorem implSlabTonnes_any (q d n : Int) (w : World) :
    Calls Try.prog 16 #[.int .i64 q, .int .i64 d, .int .i64 n] w fun e w' => e = .returned (.tuple #[.int .i64 (Vm.stV q d n), .int .i64 (Vm.stC q d n)]) ∧ w = w' := by
  unfold Vm.stV Vm.stC
  rcases in_cases 0 q 1000000 with ⟨h0, k0, i0⟩ | ⟨hn0, i0⟩ <;> rcases in_cases 0 d 1000 with ⟨h1, k1, i1⟩ | ⟨hn1, i1⟩ <;> rcases in_cases 1 n 1000 with ⟨h2, k2, i2⟩ | ⟨hn2, i2⟩
  all_goals rw [i0, i1, i2]
  all_goals first
    | (
      have C := Lib.hid (fun W => slabTonnes_any q d n W h0 k0 h1 k1 (by omega) k2)
      go_enter Try.func16, Try.ntmps16
      go_wp2_with (first | (go_at_call 32; refine (within_any _ _ _ _).mono ?_; rintro e w' ⟨rfl, rfl⟩) | (go_at_call 36; refine (isSnowDensity_any _ _).mono ?_; rintro e w' ⟨rfl, rfl⟩) | (go_at_call 37; refine (C.out _).mono ?_; rintro e w' ⟨rfl, rfl⟩))
      go_ret2
      exact ⟨rfl, rfl⟩)
    | (
      try clear hn0
      try clear hn1
      try clear hn2
      go_enter Try.func16, Try.ntmps16
      go_wp2_with (first | (go_at_call 32; refine (within_any _ _ _ _).mono ?_; rintro e w' ⟨rfl, rfl⟩) | (go_at_call 36; refine (isSnowDensity_any _ _).mono ?_; rintro e w' ⟨rfl, rfl⟩))
      go_ret2
      exact ⟨rfl, rfl⟩)
theorem l12Tonnes_any2 (t : Int) (w : World) : Calls Try.prog 38 #[.int .i64 t] w fun e w' => e = .returned (.bool (Ar.inB 0 t 100000000)) ∧ w = w' := l12Tonnes_any t w
theorem isTonnes_any2 (t : Int) (w : World) : Calls Try.prog 40 #[.int .i64 t] w fun e w' => e = .returned (.bool (Ar.inB 0 t 100000000)) ∧ w = w' := isTonnes_any t w
set_option maxHeartbeats 3200000 in
theorem specDepositDepth_any (t q n : Int) (w : World) :
    Calls Try.prog 23 #[.int .i64 t, .int .i64 q, .int .i64 n] w fun e w' => e = .returned (.tuple #[.int .i64 (Vm.ddV t q n), .int .i64 (Vm.ddC t q n)]) ∧ w = w' := by
  unfold Vm.ddV Vm.ddC Vm.ton
  rcases in_cases 0 t 100000000 with ⟨h0, k0, i0⟩ | ⟨hn0, i0⟩ <;> rcases in_cases 1 q 1000000 with ⟨h1, k1, i1⟩ | ⟨hn1, i1⟩ <;> rcases in_cases 1 n 1000 with ⟨h2, k2, i2⟩ | ⟨hn2, i2⟩
  all_goals rw [i0, i1, i2]
  all_goals first
    | (
      obtain ⟨m0, m1⟩ := Vm.mul2p h1 k1 h2 k2
      have C := Lib.hid (fun W => l01Div_any (t * 100000) (q * n) W (by omega) (by omega) (by omega) (by omega) (Or.inr (by omega)))
      go_enter Try.func23, Try.ntmps23
      go_wp2_with (first | (go_at_call 38; refine (l12Tonnes_any2 _ _).mono ?_; rintro e w' ⟨rfl, rfl⟩) | (go_at_call 39; refine (l00In_any _ _ _ _).mono ?_; rintro e w' ⟨rfl, rfl⟩) | (go_at_call 34; refine (l02Density_any _ _).mono ?_; rintro e w' ⟨rfl, rfl⟩) | (go_at_call 31; refine (C.out _).mono ?_; rintro e w' ⟨rfl, rfl⟩))
      go_ret2
      exact ⟨rfl, rfl⟩)
    | (
      try clear hn0
      try clear hn1
      try clear hn2
      go_enter Try.func23, Try.ntmps23
      go_wp2_with (first | (go_at_call 38; refine (l12Tonnes_any2 _ _).mono ?_; rintro e w' ⟨rfl, rfl⟩) | (go_at_call 39; refine (l00In_any _ _ _ _).mono ?_; rintro e w' ⟨rfl, rfl⟩) | (go_at_call 34; refine (l02Density_any _ _).mono ?_; rintro e w' ⟨rfl, rfl⟩))
      go_ret2
      exact ⟨rfl, rfl⟩)
set_option maxHeartbeats 3200000 in
theorem implDepositDepth_any (t q n : Int) (w : World) :
    Calls Try.prog 24 #[.int .i64 t, .int .i64 q, .int .i64 n] w fun e w' => e = .returned (.tuple #[.int .i64 (Vm.ddV t q n), .int .i64 (Vm.ddC t q n)]) ∧ w = w' := by
  unfold Vm.ddV Vm.ddC Vm.ton
  rcases in_cases 0 t 100000000 with ⟨h0, k0, i0⟩ | ⟨hn0, i0⟩ <;> rcases in_cases 1 q 1000000 with ⟨h1, k1, i1⟩ | ⟨hn1, i1⟩ <;> rcases in_cases 1 n 1000 with ⟨h2, k2, i2⟩ | ⟨hn2, i2⟩
  all_goals rw [i0, i1, i2]
  all_goals first
    | (
      obtain ⟨m0, m1⟩ := Vm.mul2p h1 k1 h2 k2
      have C := Lib.hid (fun W => nearest_any (t * 100000) (q * n) W (by omega) (by omega) (by omega) (by omega) (Or.inr (by omega)))
      go_enter Try.func24, Try.ntmps24
      go_wp2_with (first | (go_at_call 40; refine (isTonnes_any2 _ _).mono ?_; rintro e w' ⟨rfl, rfl⟩) | (go_at_call 32; refine (within_any _ _ _ _).mono ?_; rintro e w' ⟨rfl, rfl⟩) | (go_at_call 36; refine (isSnowDensity_any _ _).mono ?_; rintro e w' ⟨rfl, rfl⟩) | (go_at_call 44; refine (C.out _).mono ?_; rintro e w' ⟨rfl, rfl⟩))
      go_ret2
      exact ⟨rfl, rfl⟩)
    | (
      try clear hn0
      try clear hn1
      try clear hn2
      go_enter Try.func24, Try.ntmps24
      go_wp2_with (first | (go_at_call 40; refine (isTonnes_any2 _ _).mono ?_; rintro e w' ⟨rfl, rfl⟩) | (go_at_call 32; refine (within_any _ _ _ _).mono ?_; rintro e w' ⟨rfl, rfl⟩) | (go_at_call 36; refine (isSnowDensity_any _ _).mono ?_; rintro e w' ⟨rfl, rfl⟩))
      go_ret2
      exact ⟨rfl, rfl⟩)
end Go.Proofs.Ytobcflcmlejajaa
