/-
  SlabVolume, SlabTonnes, DepositDepth by the model and by the program (chapter 12). No condition of its own.
-/
import Derived.Test.YtobcflcmlejajaaDoorVoA
namespace Go.Proofs.YtobcflcmlejajaaDoor
open Go.RowKit Go.Shelf
set_option linter.unusedVariables false
set_option maxRecDepth 100000

namespace Vm
theorem mul2 {q d : Int} (h1 : 0 ≤ q) (h2 : q ≤ 1000000) (h3 : 0 ≤ d) (h4 : d ≤ 1000) : 0 ≤ q * d ∧ q * d ≤ 1000000000 := by
  obtain ⟨a, b, _, _⟩ := prod3 h1 h2 h3 h4 (show (0:Int) ≤ 0 by omega) (by omega); exact ⟨a, b⟩
theorem mul2p {q d : Int} (h1 : 1 ≤ q) (h2 : q ≤ 1000000) (h3 : 1 ≤ d) (h4 : d ≤ 1000) : 1 ≤ q * d ∧ q * d ≤ 1000000000 := by
  have := Int.mul_le_mul h1 h3 (by omega) (by omega : (0 : Int) ≤ q)
  obtain ⟨a, b⟩ := mul2 (show 0 ≤ q by omega) h2 (show 0 ≤ d by omega) h4
  exact ⟨by omega, b⟩
theorem nand {b c : Bool} (h : ¬ (b = true ∧ c = true)) : (b && c) = false := by cases b <;> cases c <;> simp_all
end Vm
set_option maxHeartbeats 3200000 in
theorem implSlabVolume_any (q d : Int) (w : World) :
    Calls Tryd.prog 34 #[.int .i64 q, .int .i64 d] w fun e w' => e = .returned (.tuple #[.int .i64 (Vm.slV q d), .int .i64 (Vm.slC q d)]) ∧ w = w' := by
  unfold Vm.slV Vm.slC
  rcases in_cases 0 q 1000000 with ⟨h0, k0, i0⟩ | ⟨hn0, i0⟩ <;> rcases in_cases 0 d 1000 with ⟨h1, k1, i1⟩ | ⟨hn1, i1⟩
  all_goals rw [i0, i1]
  all_goals first
    | (
      obtain ⟨m0, m1⟩ := Vm.mul2 h0 k0 h1 k1
      have C := Lib.hid (fun W => divR_any (q * d) 100 W (by omega) (by omega) (by omega) (by omega))
      go_enter Tryd.func34, Tryd.ntmps34
      go_wp2_with (first | (go_at_call 69; refine (within_any _ _ _ _).mono ?_; rintro e w' ⟨rfl, rfl⟩) | (go_at_call 72; refine (C.out _).mono ?_; rintro e w' ⟨rfl, rfl⟩))
      go_ret2
      exact ⟨rfl, rfl⟩)
    | (
      try clear hn0
      try clear hn1
      go_enter Tryd.func34, Tryd.ntmps34
      go_wp2_with (first | (go_at_call 69; refine (within_any _ _ _ _).mono ?_; rintro e w' ⟨rfl, rfl⟩))
      go_ret2
      exact ⟨rfl, rfl⟩)
set_option maxHeartbeats 3200000 in
theorem implSlabTonnes_any (q d n : Int) (w : World) :
    Calls Tryd.prog 32 #[.int .i64 q, .int .i64 d, .int .i64 n] w fun e w' => e = .returned (.tuple #[.int .i64 (Vm.stV q d n), .int .i64 (Vm.stC q d n)]) ∧ w = w' := by
  unfold Vm.stV Vm.stC
  rcases in_cases 0 q 1000000 with ⟨h0, k0, i0⟩ | ⟨hn0, i0⟩ <;> rcases in_cases 0 d 1000 with ⟨h1, k1, i1⟩ | ⟨hn1, i1⟩ <;> rcases in_cases 1 n 1000 with ⟨h2, k2, i2⟩ | ⟨hn2, i2⟩
  all_goals rw [i0, i1, i2]
  all_goals first
    | (
      have C := Lib.hid (fun W => slabTonnes_any q d n W h0 k0 h1 k1 (by omega) k2)
      go_enter Tryd.func32, Tryd.ntmps32
      go_wp2_with (first | (go_at_call 69; refine (within_any _ _ _ _).mono ?_; rintro e w' ⟨rfl, rfl⟩) | (go_at_call 70; refine (isSnowDensity_any _ _).mono ?_; rintro e w' ⟨rfl, rfl⟩) | (go_at_call 71; refine (C.out _).mono ?_; rintro e w' ⟨rfl, rfl⟩))
      go_ret2
      exact ⟨rfl, rfl⟩)
    | (
      try clear hn0
      try clear hn1
      try clear hn2
      go_enter Tryd.func32, Tryd.ntmps32
      go_wp2_with (first | (go_at_call 69; refine (within_any _ _ _ _).mono ?_; rintro e w' ⟨rfl, rfl⟩) | (go_at_call 70; refine (isSnowDensity_any _ _).mono ?_; rintro e w' ⟨rfl, rfl⟩))
      go_ret2
      exact ⟨rfl, rfl⟩)
theorem l12Tonnes_any2 (t : Int) (w : World) : Calls Tryd.prog 47 #[.int .i64 t] w fun e w' => e = .returned (.bool (Ar.inB 0 t 100000000)) ∧ w = w' := l12Tonnes_any t w
theorem isTonnes_any2 (t : Int) (w : World) : Calls Tryd.prog 49 #[.int .i64 t] w fun e w' => e = .returned (.bool (Ar.inB 0 t 100000000)) ∧ w = w' := isTonnes_any t w
set_option maxHeartbeats 3200000 in
theorem implDepositDepth_any (t q n : Int) (w : World) :
    Calls Tryd.prog 36 #[.int .i64 t, .int .i64 q, .int .i64 n] w fun e w' => e = .returned (.tuple #[.int .i64 (Vm.ddV t q n), .int .i64 (Vm.ddC t q n)]) ∧ w = w' := by
  unfold Vm.ddV Vm.ddC Vm.ton
  rcases in_cases 0 t 100000000 with ⟨h0, k0, i0⟩ | ⟨hn0, i0⟩ <;> rcases in_cases 1 q 1000000 with ⟨h1, k1, i1⟩ | ⟨hn1, i1⟩ <;> rcases in_cases 1 n 1000 with ⟨h2, k2, i2⟩ | ⟨hn2, i2⟩
  all_goals rw [i0, i1, i2]
  all_goals first
    | (
      obtain ⟨m0, m1⟩ := Vm.mul2p h1 k1 h2 k2
      have C := Lib.hid (fun W => nearest_any (t * 100000) (q * n) W (by omega) (by omega) (by omega) (by omega) (Or.inr (by omega)))
      go_enter Tryd.func36, Tryd.ntmps36
      go_wp2_with (first | (go_at_call 49; refine (isTonnes_any2 _ _).mono ?_; rintro e w' ⟨rfl, rfl⟩) | (go_at_call 69; refine (within_any _ _ _ _).mono ?_; rintro e w' ⟨rfl, rfl⟩) | (go_at_call 70; refine (isSnowDensity_any _ _).mono ?_; rintro e w' ⟨rfl, rfl⟩) | (go_at_call 73; refine (C.out _).mono ?_; rintro e w' ⟨rfl, rfl⟩))
      go_ret2
      exact ⟨rfl, rfl⟩)
    | (
      try clear hn0
      try clear hn1
      try clear hn2
      go_enter Tryd.func36, Tryd.ntmps36
      go_wp2_with (first | (go_at_call 49; refine (isTonnes_any2 _ _).mono ?_; rintro e w' ⟨rfl, rfl⟩) | (go_at_call 69; refine (within_any _ _ _ _).mono ?_; rintro e w' ⟨rfl, rfl⟩) | (go_at_call 70; refine (isSnowDensity_any _ _).mono ?_; rintro e w' ⟨rfl, rfl⟩))
      go_ret2
      exact ⟨rfl, rfl⟩)
end Go.Proofs.YtobcflcmlejajaaDoor
