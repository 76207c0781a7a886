/-
  Sets of small indices as bits of a word. The condition: the indices lie between 0 and 63.
-/
import Derived.Test.YtaldmdammipfjaaRlB
import Derived.Laws.Bits64b
namespace Go.Proofs.Ytaldmdammipfjaa
open Go.RowKit Go.Shelf
set_option linter.unusedVariables false
set_option maxRecDepth 100000
namespace Rl
/-- the word of a set -/
def sN (xs : List Int) : Nat := xs.foldl (fun s i => s ||| 2 ^ i.toNat) 0
theorem sN_snoc (xs : List Int) (i : Int) : sN (xs ++ [i]) = sN xs ||| 2 ^ i.toNat := by unfold sN; rw [List.foldl_append]; rfl
theorem fold_bit (xs : List Int) (s i : Nat) : (xs.foldl (fun s i => s ||| 2 ^ i.toNat) s).testBit i = (s.testBit i || xs.any (fun x => decide (x.toNat = i))) := by
  induction xs generalizing s with
  | nil => simp
  | cons x xs ih =>
    rw [List.foldl_cons, ih, Nat.testBit_or, Nat.testBit_two_pow, List.any_cons, Bool.or_assoc]
theorem sN_bit (xs : List Int) (i : Nat) : (sN xs).testBit i = xs.any (fun x => decide (x.toNat = i)) := by unfold sN; rw [fold_bit]; simp
theorem fold_lt (xs : List Int) (s : Nat) (hs : s < 2 ^ 64) (hx : ∀ x ∈ xs, x.toNat < 64) : xs.foldl (fun s i => s ||| 2 ^ i.toNat) s < 2 ^ 64 := by
  induction xs generalizing s with
  | nil => exact hs
  | cons x xs ih =>
    rw [List.foldl_cons]
    exact ih _ (Nat.or_lt_two_pow hs (Nat.pow_lt_pow_right (by decide) (hx x (List.mem_cons_self ..)))) (fun y hy => hx y (List.mem_cons_of_mem _ hy))
theorem sN_lt {xs : List Int} (hx : ∀ x ∈ xs, x.toNat < 64) : sN xs < 2 ^ 64 := fold_lt xs 0 (by decide) hx
theorem and_bit (s i : Nat) : (((s &&& 2 ^ i : Nat) : Int) != 0) = s.testBit i := by
  cases h : s.testBit i with
  | false =>
    have h0 : s &&& 2 ^ i = 0 := by
      apply Nat.eq_of_testBit_eq
      intro j
      rw [Nat.testBit_and, Nat.testBit_two_pow, Nat.zero_testBit]
      by_cases hj : i = j
      · subst hj; rw [h]; rfl
      · simp [hj]
    rw [h0]; rfl
  | true =>
    have h1 : (s &&& 2 ^ i).testBit i = true := by rw [Nat.testBit_and, Nat.testBit_two_pow, h]; simp
    have h2 : s &&& 2 ^ i ≠ 0 := fun e => by rw [e, Nat.zero_testBit] at h1; cases h1
    rw [bne_iff_ne]
    omega
theorem pw_lt {i : Nat} (h : i < 64) : 2 ^ i < 18446744073709551616 := by
  have : 2 ^ i < 2 ^ 64 := Nat.pow_lt_pow_right (by decide) h
  simpa using this
theorem pw_wrap {i : Nat} (h : i < 64) : IntKind.u64.wrap ((2 : Int) ^ i) = ((2 ^ i : Nat) : Int) := by
  have h1 := pw_lt h
  have h2 : ((2 ^ i : Nat) : Int) = (2 : Int) ^ i := by norm_cast
  rw [← h2]
  generalize 2 ^ i = n at *
  rw [IntKind.wrap_u64]
  omega
end Rl
set_option maxHeartbeats 400000 in
theorem with_any (s : Nat) (i : Nat) (w : World) (hs : s < 2 ^ 64) (hi : i < 64) :
    Calls Try.prog 113 #[.int .u64 (s : Int), .int .i64 (i : Int)] w fun e w' => e = .returned (.int .u64 ((s ||| 2 ^ i : Nat) : Int)) ∧ w = w' := by
  have h1 := Lib.hid (Rl.pw_wrap hi)
  have h2 := Lib.hid (bits_or_u64_nat s (2 ^ i) (by simpa using hs) (Rl.pw_lt hi))
  clear hs
  go_enter Try.func113, Try.ntmps113
  go_wp2
  go_ret
  exact ⟨by rw [h1.out, h2.out]; rfl, rfl⟩
set_option maxHeartbeats 400000 in
theorem has_any (s : Nat) (i : Nat) (w : World) (hs : s < 2 ^ 64) (hi : i < 64) :
    Calls Try.prog 64 #[.int .u64 (s : Int), .int .i64 (i : Int)] w fun e w' => e = .returned (.bool (s.testBit i)) ∧ w = w' := by
  have h1 := Lib.hid (Rl.pw_wrap hi)
  have h2 := Lib.hid (bits_and_u64_nat s (2 ^ i) (by simpa using hs) (Rl.pw_lt hi))
  clear hs
  go_enter Try.func64, Try.ntmps64
  go_wp2
  go_ret
  exact ⟨by rw [h1.out, h2.out, Rl.and_bit]; rfl, rfl⟩
set_option maxHeartbeats 1600000 in
theorem setOf_any (w : World) (v : Value) (xs : List Int) (hv : Sl w v xs) (hl : xs.length ≤ 1048576) (hx : ∀ x ∈ xs, 0 ≤ x ∧ x < 64) :
    Calls Try.prog 90 #[v] w fun e w' => e = .returned (.int .u64 (Rl.sN xs : Int)) ∧ Below w.heap.size w w' := by
  obtain ⟨a, cap, rfl⟩ := hv.form
  have HV := Lib.hid hv
  have HX := Lib.hid hx
  clear hv hx
  go_enter Try.func90, Try.ntmps90
  go_wp2
  go_loopw [3, 5, 8] (fun s _ i wr => ∃ k : Nat, k ≤ xs.length ∧ i = .int .i64 (k : Int) ∧ s = .int .u64 (Rl.sN (xs.take k) : Int) ∧ Hid (Below w.heap.size w wr)) (fun _ _ i _ => xs.length - (intOf i).toNat)
  case atStart => exact ⟨0, Nat.zero_le _, rfl, rfl, Lib.hid (Below.refl _ _)⟩
  case round =>
    obtain ⟨k, hk, rfl, rfl, hb⟩ := hrel
    by_cases hlt : k < xs.length
    · have hltz : (k : Int) < (xs.length : Int) := by omega
      obtain ⟨b, off, cap1, hn, hbl, hcc⟩ := (HV.out.below hb.out).atI hlt
      simp only [Value.slice.injEq] at hn
      obtain ⟨rfl, -, rfl⟩ := hn
      have c0 := hcc k hlt
      obtain ⟨q0, q1⟩ := HX.out xs[k] (List.getElem_mem hlt)
      have hst : Hid (Rl.sN (xs.take (k + 1)) = Rl.sN (xs.take k) ||| 2 ^ xs[k].toNat) := Lib.hid (by rw [List.take_succ_eq_append_getElem hlt, Rl.sN_snoc])
      have hsl : Hid (Rl.sN (xs.take k) < 2 ^ 64) := Lib.hid (Rl.sN_lt (fun x h => by have := HX.out x (List.mem_of_mem_take h); omega))
      obtain ⟨n, hn⟩ : ∃ n : Nat, xs[k] = (n : Int) := ⟨xs[k].toNat, (Int.toNat_of_nonneg q0).symm⟩
      rw [hn] at c0 hst q1
      rw [Int.toNat_natCast] at hst
      have C := Lib.hid (fun W => with_any (Rl.sN (xs.take k)) n W hsl.out (by omega))
      clear hcc hn q0 q1
      generalize Rl.sN (xs.take k) = s at *
      go_wp2_with fail
      refine (C.out _).mono ?_
      rintro e w2 ⟨rfl, rfl⟩
      go_wp2_with fail
      exact ⟨⟨k + 1, by omega, by go_num, by rw [hst.out], hb⟩, by simp only [intOf]; omega⟩
    · have hltz : ¬ (k : Int) < (xs.length : Int) := by omega
      have hkn : Hid (xs.take k = xs) := Lib.hid (List.take_of_length_le (by omega))
      go_wp2
      go_ret
      exact ⟨by rw [hkn.out]; rfl, hb.out⟩
end Go.Proofs.Ytaldmdammipfjaa
