/-
  Numbers that strictly increase between bounds, by the model and by the program; the code of an ordered list. No condition of its own.
-/
import Derived.Test.YtmieckchppfogaaGreatDoorIntG
import Derived.Test.YtmieckchppfogaaGreatDoorCd
import Derived.Test.YtmieckchppfogaaGreatDoorUnits
import Derived.Deep.QuietTactic
import Derived.BigQuiet
import Derived.Defers
namespace Go.Proofs.YtmieckchppfogaaGreatDoor
open Go.RowKit Go.Shelf
set_option linter.unusedVariables false
set_option maxRecDepth 100000
namespace Rl
def be : Option Int → Int → Bool
  | none, _ => true
  | some y, x => decide (y < x)
def up : Option Int → List Int → Bool
  | _, [] => true
  | p, x :: xs => be p x && up (some x) xs
def la : Option Int → List Int → Option Int
  | p, [] => p
  | _, x :: xs => la (some x) xs
theorem la_app (p : Option Int) (xs : List Int) (x : Int) : la p (xs ++ [x]) = some x := by
  induction xs generalizing p with
  | nil => rfl
  | cons y ys ih => exact ih _
theorem up_app (p : Option Int) (xs : List Int) (x : Int) : up p (xs ++ [x]) = (up p xs && be (la p xs) x) := by
  induction xs generalizing p with
  | nil => simp [up, la]
  | cons y ys ih => rw [List.cons_append, up, up, la, ih, Bool.and_assoc]
theorem la_take (p : Option Int) {xs : List Int} {k : Nat} (h : k < xs.length) : la p (xs.take (k + 1)) = some xs[k] := by
  rw [List.take_succ_eq_append_getElem h, la_app]
theorem up_snoc {p : Option Int} {xs : List Int} {k : Nat} (h : k < xs.length) : up p (xs.take (k + 1)) = (up p (xs.take k) && be (la p (xs.take k)) xs[k]) := by
  rw [List.take_succ_eq_append_getElem h, up_app]
theorem up_pre (p : Option Int) (xs ys : List Int) (h : up p (xs ++ ys) = true) : up p xs = true := by
  induction xs generalizing p with
  | nil => rfl
  | cons x xs ih =>
    rw [List.cons_append, up, Bool.and_eq_true] at h
    rw [up, h.1, ih _ h.2]; rfl
theorem up_no {xs : List Int} {k : Nat} (h : up none (xs.take k) = false) : up none xs = false := by
  rw [Bool.eq_false_iff]; intro hc
  have := up_pre none (xs.take k) (xs.drop k) (by rw [List.take_append_drop]; exact hc)
  rw [h] at this; cases this
theorem up_one {xs : List Int} (h : 0 < xs.length) : up none (xs.take (0 + 1)) = true := by rw [up_snoc h]; rfl
/-- numbers between bounds that strictly increase -/
def ri (lo hi : Int) (xs : List Int) : Bool := xs.all (fun x => Ar.inB lo x hi) && up none xs
theorem ri_snoc {lo hi : Int} {xs : List Int} {k : Nat} (h : k < xs.length) : ri lo hi (xs.take (k + 1)) = (ri lo hi (xs.take k) && (Ar.inB lo xs[k] hi && be (la none (xs.take k)) xs[k])) := by
  unfold ri
  rw [up_snoc h, List.take_succ_eq_append_getElem h, List.all_append]
  simp only [List.all_cons, List.all_nil, Bool.and_true]
  cases (xs.take k).all (fun x => Ar.inB lo x hi) <;> cases up none (xs.take k) <;> cases Ar.inB lo xs[k] hi <;> simp
theorem ri_no {lo hi : Int} {xs : List Int} {k : Nat} (h : ri lo hi (xs.take k) = false) : ri lo hi xs = false := by
  rw [Bool.eq_false_iff]; intro hc
  unfold ri at hc h
  rw [Bool.and_eq_true] at hc
  have h1 : (xs.take k).all (fun x => Ar.inB lo x hi) = true := by rw [List.all_eq_true] at *; exact fun x hx => hc.1 x (List.mem_of_mem_take hx)
  rw [h1, Bool.true_and] at h
  rw [up_no h] at hc; exact absurd hc.2 (by decide)
theorem ri_out {lo hi : Int} {xs : List Int} {k : Nat} (h : k < xs.length) (hi' : Ar.inB lo xs[k] hi = false) : ri lo hi xs = false := ri_no (k := k + 1) (by rw [ri_snoc h, hi']; simp)
theorem ri_first {lo hi : Int} {xs : List Int} (h : 0 < xs.length) (hi' : Ar.inB lo xs[0] hi = true) : ri lo hi (xs.take (0 + 1)) = true := by rw [ri_snoc h, hi']; rfl
theorem ri_next {lo hi : Int} {xs : List Int} {m : Nat} (h : m + 1 < xs.length) (hr : ri lo hi (xs.take (m + 1)) = true) (hi' : Ar.inB lo xs[m + 1] hi = true) (hlt : (xs[m]'(by omega)) < xs[m + 1]) : ri lo hi (xs.take (m + 1 + 1)) = true := by
  rw [ri_snoc h, hr, hi', la_take none (show m < xs.length by omega)]
  show (true && (true && decide _)) = true
  rw [decide_eq_true hlt]; rfl
theorem ri_turn {lo hi : Int} {xs : List Int} {m : Nat} (h : m + 1 < xs.length) (hge : ¬ (xs[m]'(by omega)) < xs[m + 1]) : ri lo hi xs = false := ri_no (k := m + 1 + 1) (by
  rw [ri_snoc h, la_take none (show m < xs.length by omega)]
  show (_ && (_ && decide _)) = false
  rw [decide_eq_false hge]; simp)
theorem ri_eq (lo hi : Int) (xs : List Int) : (up none xs && !xs.any fun x => !Ar.inB lo x hi) = ri lo hi xs := by
  unfold ri
  rw [List.not_any_eq_all_not]
  simp only [Bool.not_not]
  exact Bool.and_comm _ _
end Rl
end Go.Proofs.YtmieckchppfogaaGreatDoor
