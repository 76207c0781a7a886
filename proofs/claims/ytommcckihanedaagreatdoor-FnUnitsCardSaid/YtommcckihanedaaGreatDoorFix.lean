/-
  FixedText of chapter 2, by the program and by the model. The library's table of powers of ten holds what its text lays: no other condition of its own.
-/
import Derived.Test.YtommcckihanedaaGreatDoorBld
import Derived.Test.YtommcckihanedaaGreatDoorSplit
import Derived.Test.YtommcckihanedaaGreatDoorNames
namespace Go.Proofs.YtommcckihanedaaGreatDoor
open Go.RowKit
set_option linter.unusedVariables false

theorem ext_len (t : ByteArray) (a b : Nat) : (t.extract a b).data.toList.length ≤ t.size ∧ (t.extract a b).size ≤ t.size := by
  have h : (t.extract a b).data.toList.length = (t.extract a b).size := by simp; omega
  have h2 : (t.extract a b).size ≤ t.size := by rw [ByteArray.size_extract]; omega
  exact ⟨by omega, h2⟩
theorem ext_drop (t : ByteArray) (a b : Nat) (hb : t.size ≤ b) : (t.extract a b).data.toList = t.data.toList.drop a := by
  rw [ext_eq, mk_data, List.take_of_length_le (by simp; omega)]
theorem ext_take (t : ByteArray) (b : Nat) : (t.extract 0 b).data.toList = t.data.toList.take b := by
  rw [ext_eq, mk_data, List.drop_zero, Nat.sub_zero]
/-- what FixedText answers -/
def fxV (n p : Int) : List UInt8 := if (-1000000000 ≤ n ∧ n ≤ 1000000000) ∧ 1 ≤ p ∧ p ≤ 6 then Dg.fx n p.toNat else []
theorem fxV_in {n : Int} {p : Nat} (h1 : -1000000000 ≤ n) (h2 : n ≤ 1000000000) (h3 : 1 ≤ p) (h4 : p ≤ 6) : fxV n p = Dg.fx n p := by
  unfold fxV; rw [if_pos ⟨⟨h1, h2⟩, by omega, by omega⟩]; simp
theorem fxV_out {n p : Int} (h : ¬ ((-1000000000 ≤ n ∧ n ≤ 1000000000) ∧ 1 ≤ p ∧ p ≤ 6)) : fxV n p = [] := by unfold fxV; rw [if_neg h]
theorem fx_parts (n : Int) (p : Nat) : (Dg.zpad (p + 1) n.natAbs).take (Lib.decDigits (n.natAbs / 10 ^ p)).length = Lib.decDigits (n.natAbs / 10 ^ p) ∧ (Dg.zpad (p + 1) n.natAbs).drop (Lib.decDigits (n.natAbs / 10 ^ p)).length = Dg.pad p (n.natAbs % 10 ^ p) ∧ (Dg.zpad (p + 1) n.natAbs).length = (Lib.decDigits (n.natAbs / 10 ^ p)).length + p := by
  rw [Dg.zpad_split]
  exact ⟨by simp, by simp, by simp [Dg.pad_length]⟩
theorem ten_bd {p : Nat} (h : p ≤ 6) : 1 ≤ 10 ^ p ∧ 10 ^ p ≤ 1000000 :=
  ⟨Nat.pow_pos (by decide), Nat.le_trans (Nat.pow_le_pow_right (by decide) h) (by decide)⟩
theorem drewBelow {w w1 : World} (h : Below w.drew.heap.size w.drew w1) : Below w.heap.size w w1 := ⟨h.os, h.tape, h.output, h.size, h.block⟩

end Go.Proofs.YtommcckihanedaaGreatDoor
