/-
  Sets of small indices as bits of a word. The condition: the indices lie between 0 and 63.
-/
import Derived.Test.YtaldmdammipfjaaDoorRlB
import Derived.Laws.Bits64b
namespace Go.Proofs.YtaldmdammipfjaaDoor
open Go.RowKit Go.Shelf
set_option linter.unusedVariables false
set_option maxRecDepth 100000
namespace Rl
/-- the word of a set -/
def sN (xs : List Int) : Nat := xs.foldl (fun s i => s ||| 2 ^ i.toNat) 0
theorem sN_snoc (xs : List Int) (i : Int) : sN (xs ++ [i]) = sN xs ||| 2 ^ i.toNat := by unfold sN; rw [List.foldl_append]; rfl
theorem fold_bit (xs : List Int) (s i : Nat) : (xs.foldl (fun s i => s ||| 2 ^ i.toNat) s).testBit i = (s.testBit i || xs.any (fun x => decide (x.toNat = i))) := by
  induction xs generalizing s with
  | nil => simp
  | cons x xs ih =>
    rw [List.foldl_cons, ih, Nat.testBit_or, Nat.testBit_two_pow, List.any_cons, Bool.or_assoc]
theorem sN_bit (xs : List Int) (i : Nat) : (sN xs).testBit i = xs.any (fun x => decide (x.toNat = i)) := by unfold sN; rw [fold_bit]; simp
theorem fold_lt (xs : List Int) (s : Nat) (hs : s < 2 ^ 64) (hx : ∀ x ∈ xs, x.toNat < 64) : xs.foldl (fun s i => s ||| 2 ^ i.toNat) s < 2 ^ 64 := by
  induction xs generalizing s with
  | nil => exact hs
  | cons x xs ih =>
    rw [List.foldl_cons]
    exact ih _ (Nat.or_lt_two_pow hs (Nat.pow_lt_pow_right (by decide) (hx x (List.mem_cons_self ..)))) (fun y hy => hx y (List.mem_cons_of_mem _ hy))
theorem sN_lt {xs : List Int} (hx : ∀ x ∈ xs, x.toNat < 64) : sN xs < 2 ^ 64 := fold_lt xs 0 (by decide) hx
theorem and_bit (s i : Nat) : (((s &&& 2 ^ i : Nat) : Int) != 0) = s.testBit i := by
  cases h : s.testBit i with
  | false =>
    have h0 : s &&& 2 ^ i = 0 := by
      apply Nat.eq_of_testBit_eq
      intro j
      rw [Nat.testBit_and, Nat.testBit_two_pow, Nat.zero_testBit]
      by_cases hj : i = j
      · subst hj; rw [h]; rfl
      · simp [hj]
    rw [h0]; rfl
  | true =>
    have h1 : (s &&& 2 ^ i).testBit i = true := by rw [Nat.testBit_and, Nat.testBit_two_pow, h]; simp
    have h2 : s &&& 2 ^ i ≠ 0 := fun e => by rw [e, Nat.zero_testBit] at h1; cases h1
    rw [bne_iff_ne]
    omega
theorem pw_lt {i : Nat} (h : i < 64) : 2 ^ i < 18446744073709551616 := by
  have : 2 ^ i < 2 ^ 64 := Nat.pow_lt_pow_right (by decide) h
  simpa using this
theorem pw_wrap {i : Nat} (h : i < 64) : IntKind.u64.wrap ((2 : Int) ^ i) = ((2 ^ i : Nat) : Int) := by
  have h1 := pw_lt h
  have h2 : ((2 ^ i : Nat) : Int) = (2 : Int) ^ i := by norm_cast
  rw [← h2]
  generalize 2 ^ i = n at *
  rw [IntKind.wrap_u64]
  omega
end Rl
set_option maxHeartbeats 400000 in
theorem with_any (s : Nat) (i : Nat) (w : World) (hs : s < 2 ^ 64) (hi : i < 64) :
    Calls Tryd.prog 83 #[.int .u64 (s : Int), .int .i64 (i : Int)] w fun e w' => e = .returned (.int .u64 ((s ||| 2 ^ i : Nat) : Int)) ∧ w = w' := by
  have h1 := Lib.hid (Rl.pw_wrap hi)
  have h2 := Lib.hid (bits_or_u64_nat s (2 ^ i) (by simpa using hs) (Rl.pw_lt hi))
  clear hs
  go_enter Tryd.func83, Tryd.ntmps83
  go_wp2
  go_ret
  exact ⟨by rw [h1.out, h2.out]; rfl, rfl⟩
end Go.Proofs.YtaldmdammipfjaaDoor
