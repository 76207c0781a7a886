import Derived.Test.YtmieckchppfogaaGreatDoorTab
import Derived.Test.YtmieckchppfogaaGreatDoorNumber
namespace Go.Proofs.YtmieckchppfogaaGreatDoor
open Go.RowKit
set_option linter.unusedVariables false

theorem rd_none {l : List UInt8} (h : Nu.body l = [] ∨ 18 < (Nu.body l).length ∨ (Nu.hd48 (Nu.body l) = true ∧ 1 < l.length) ∨ (Nu.body l).all Nu.dgB = false) : Nu.rd l = none := by
  unfold Nu.rd; rw [if_pos h]
theorem rd_yes {l : List UInt8} (h1 : Nu.body l ≠ []) (h2 : (Nu.body l).length ≤ 18) (h3 : ¬ (Nu.hd48 (Nu.body l) = true ∧ 1 < l.length)) (h4 : (Nu.body l).all Nu.dgB = true) :
    Nu.rd l = some (if Nu.neg l then -(Nu.val (Nu.body l) : Int) else Nu.val (Nu.body l)) := by
  unfold Nu.rd; rw [if_neg (by rintro (h | h | h | h) <;> first | exact h1 h | omega | exact h3 h | (rw [h4] at h; cases h))]
theorem drop_cons (s : ByteArray) (k : Nat) (h : k < s.size) : s.data.toList.drop k = s[k] :: s.data.toList.drop (k + 1) := by
  rw [List.drop_eq_getElem_cons (by simpa using h)]; rfl
theorem hd_at {s : ByteArray} {k : Nat} (h : k < s.size) : Nu.hd48 (s.data.toList.drop k) = decide (s[k].toNat = 48) := by
  rw [drop_cons s k h]; rfl
theorem body_neg {s : ByteArray} (h : 0 < s.size) (h45 : s[0].toNat = 45) : Nu.body s.data.toList = s.data.toList.drop 1 ∧ Nu.neg s.data.toList = true := by
  have e := drop_cons s 0 h
  rw [List.drop_zero] at e
  rw [e]
  constructor
  · simp only [Nu.body, h45, if_true]; simp
  · simp [Nu.neg, h45]
theorem body_pos {s : ByteArray} (h : 0 < s.size) (h45 : ¬ s[0].toNat = 45) : Nu.body s.data.toList = s.data.toList.drop 0 ∧ Nu.neg s.data.toList = false := by
  have e := drop_cons s 0 h
  rw [List.drop_zero] at e ⊢
  constructor
  · conv => lhs; rw [e]
    simp only [Nu.body, h45, if_false]; exact e.symm
  · rw [e]; simp [Nu.neg, h45]
theorem sz (s : ByteArray) : s.data.toList.length = s.size := by simp
theorem at_drop {s : ByteArray} {a j : Nat} (h : a + j < s.size) : (s.data.toList.drop a).take (j + 1) = (s.data.toList.drop a).take j ++ [s[a + j]] := by
  rw [List.take_succ_eq_append_getElem (by have := sz s; simp; omega)]
  simp; rfl
theorem at_drop0 {s : ByteArray} {j : Nat} (h : j < s.size) : (s.data.toList.drop 0).take (j + 1) = (s.data.toList.drop 0).take j ++ [s[j]] := by
  have := at_drop (s := s) (a := 0) (j := j) (by omega)
  simpa using this
theorem all_take_f {l : List UInt8} {k : Nat} (h : (l.take k).all Nu.dgB = false) : l.all Nu.dgB = false := by
  rw [← List.take_append_drop k l, List.all_append, h]; rfl

theorem ret_num {l : List UInt8} {o : Option Int} (h : Nu.rd l = o) {v : Int} {b : Bool} (hv : o.getD 0 = v) (hb : o.isSome = b) : Ending.returned (.tuple #[.int .i64 v, .bool b]) = .returned (.tuple #[.int .i64 ((Nu.rd l).getD 0), .bool (Nu.rd l).isSome]) := by
  rw [h, hv, hb]
end Go.Proofs.YtmieckchppfogaaGreatDoor
