import Derived.Test.YtommcckihanedaaGreatDoorBytes
import Derived.Lib.ItoaNum
namespace Go.Proofs.YtommcckihanedaaGreatDoor
open Go.RowKit
set_option linter.unusedVariables false

/-- the digits of a number that is not 0, and none for 0 -/
def dgs (m : Nat) : List UInt8 := if m = 0 then [] else Lib.decDigits m
theorem dgs_step {m : Nat} (h : m ≠ 0) : dgs m = dgs (m / 10) ++ [UInt8.ofNat (48 + m % 10)] := by
  unfold dgs
  rw [if_neg h]
  by_cases h1 : m < 10
  · rw [if_pos (by omega), Lib.decDigits, dif_pos h1, Nat.mod_eq_of_lt h1]; rfl
  · rw [if_neg (by omega), Lib.decDigits, dif_neg h1]
theorem dgs_len (m : Nat) : ∀ k, m < 10 ^ k → (dgs m).length ≤ k := by
  intro k
  induction k generalizing m with
  | zero => intro h; have : m = 0 := by simp at h; omega
            subst this; simp [dgs]
  | succ k ih =>
    intro h
    by_cases hm : m = 0
    · subst hm; simp [dgs]
    · rw [dgs_step hm, List.length_append, List.length_singleton]
      have := ih (m / 10) (by rw [Nat.pow_succ] at h; omega)
      omega


theorem itoa_zero : Lib.itoa 0 = [48] := by unfold Lib.itoa Lib.decDigits; rfl
theorem dgs_bd {n : Int} (h1 : -9223372036854775808 ≤ n) (h2 : n ≤ 9223372036854775807) : (dgs n.natAbs).length ≤ 19 := dgs_len _ 19 (by omega)
/-- a digit's byte -/
def db (m : Int) : UInt8 := UInt8.ofNat (48 + m.natAbs % 10)
theorem db_val (m : Int) : ((db m).toNat : Int) = 48 + ((m.natAbs % 10 : Nat) : Int) := by
  unfold db; rw [UInt8.toNat_ofNat']; omega
theorem tdiv_abs (m : Int) : (m.tdiv 10).natAbs = m.natAbs / 10 := by rw [Int.natAbs_tdiv]; rfl
theorem tmod_abs (m : Int) : (m.tmod 10).natAbs = m.natAbs % 10 := by rw [Int.natAbs_tmod]; rfl

theorem itoa_neg {n : Int} (h : n < 0) : Lib.itoa n = 45 :: dgs n.natAbs := by unfold Lib.itoa dgs; rw [if_pos h, if_neg (by omega)]
theorem itoa_pos {n : Int} (h : 0 < n) : Lib.itoa n = dgs n.natAbs := by
  unfold Lib.itoa dgs; rw [if_neg (by omega), if_neg (by omega)]
  congr 1; omega
/-- what the second loop reads: the k-th byte of the reverse -/
theorem rev_at {L R : List UInt8} (hR : R = L.reverse) {k : Nat} (hk : k < R.length) : ∃ c : UInt8, L[R.length - 1 - k]? = some c ∧ R.take (k + 1) = R.take k ++ [c] := by
  refine ⟨R[k], ?_, by rw [List.take_succ_eq_append_getElem hk]⟩
  subst hR
  rw [List.getElem_reverse]
  simp only [List.length_reverse] at hk ⊢
  rw [List.getElem?_eq_getElem (by omega)]

end Go.Proofs.YtommcckihanedaaGreatDoor
