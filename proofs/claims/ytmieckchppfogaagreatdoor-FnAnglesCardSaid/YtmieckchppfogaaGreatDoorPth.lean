import Derived.Test.YtmieckchppfogaaGreatDoorArith
/-
  Plain mathematics of the type PathPoint: 2 numbers; a list of them. No Go in sight.
-/
namespace Go.Proofs.YtmieckchppfogaaGreatDoor

/-- 2 numbers -/
structure Pth where
  di : Int
  he : Int

namespace Pp
/-- its numbers -/
def lv (x : Pth) : List Int := [x.di, x.he]
theorem lv_inj {x y : Pth} (h : lv x = lv y) : x = y := by
  cases x; cases y
  simp only [lv, List.cons.injEq, and_true] at h
  obtain ⟨rfl, rfl⟩ := h
  rfl
theorem lv_length (x : Pth) : (lv x).length = 2 := rfl
/-- the numbers of all, one after the other -/
def fl (xs : List Pth) : List Int := xs.flatMap lv
theorem fl_nil : fl [] = [] := rfl
theorem fl_cons (x : Pth) (xs : List Pth) : fl (x :: xs) = lv x ++ fl xs := rfl
theorem fl_app (xs ys : List Pth) : fl (xs ++ ys) = fl xs ++ fl ys := by unfold fl; rw [List.flatMap_append]
theorem fl_one (x : Pth) : fl [x] = lv x := by simp [fl]
theorem fl_length (xs : List Pth) : (fl xs).length = 2 * xs.length := by
  induction xs with
  | nil => rfl
  | cons x xs ih => rw [fl_cons, List.length_append, lv_length, ih, List.length_cons]; omega
theorem fl_at {xs : List Pth} {i : Nat} {x : Pth} (h : xs[i]? = some x) {j : Nat} (hj : j < 2) : (fl xs)[2 * i + j]? = (lv x)[j]? := by
  induction xs generalizing i with
  | nil => cases h
  | cons y ys ih =>
    rw [fl_cons]
    cases i with
    | zero =>
      simp only [List.getElem?_cons_zero, Option.some.injEq] at h
      subst h
      rw [Nat.mul_zero, Nat.zero_add, List.getElem?_append_left (by rw [lv_length]; omega)]
    | succ i =>
      rw [List.getElem?_cons_succ] at h
      rw [List.getElem?_append_right (by rw [lv_length]; omega), lv_length, show 2 * (i + 1) + j - 2 = 2 * i + j by omega]
      exact ih h
theorem fl_take (xs : List Pth) (k : Nat) : (fl xs).take (2 * k) = fl (xs.take k) := by
  induction xs generalizing k with
  | nil => simp [fl]
  | cons x xs ih =>
    cases k with
    | zero => rfl
    | succ k =>
      rw [List.take_succ_cons, fl_cons, fl_cons, ← ih k, List.take_append, lv_length, List.take_of_length_le (by rw [lv_length]; omega), show 2 * (k + 1) - 2 = 2 * k by omega]
theorem fl_drop (xs : List Pth) (k : Nat) : (fl xs).drop (2 * k) = fl (xs.drop k) := by
  induction xs generalizing k with
  | nil => simp [fl]
  | cons x xs ih =>
    cases k with
    | zero => rfl
    | succ k =>
      rw [List.drop_succ_cons, fl_cons, ← ih k, List.drop_append, lv_length, List.drop_of_length_le (by rw [lv_length]; omega), show 2 * (k + 1) - 2 = 2 * k by omega, List.nil_append]
theorem fl_inj {xs ys : List Pth} (h : fl xs = fl ys) : xs = ys := by
  induction xs generalizing ys with
  | nil =>
    cases ys with
    | nil => rfl
    | cons y ys => have := congrArg List.length h; rw [fl_length, fl_length] at this; simp at this
  | cons x xs ih =>
    cases ys with
    | nil => have := congrArg List.length h; rw [fl_length, fl_length] at this; simp at this
    | cons y ys =>
      rw [fl_cons, fl_cons] at h
      obtain ⟨h1, h2⟩ := List.append_inj h (by rw [lv_length, lv_length])
      rw [lv_inj h1, ih h2]
theorem fl_snoc {xs : List Pth} {k : Nat} (h : k < xs.length) : fl (xs.take (k + 1)) = fl (xs.take k) ++ lv xs[k] := by
  rw [List.take_succ_eq_append_getElem h, fl_app]; simp [fl]
/-- are two of them, two lists equal? -/
def eqL (x y : Pth) : Bool := lv x == lv y
def eqP (xs ys : List Pth) : Bool := fl xs == fl ys
theorem eqP_self (xs : List Pth) : eqP xs xs = true := by unfold eqP; exact beq_self_eq_true _
theorem eqL_self (x : Pth) : eqL x x = true := by unfold eqL; exact beq_self_eq_true _
theorem eqP_len {xs ys : List Pth} (h : xs.length ≠ ys.length) : eqP xs ys = false := by
  unfold eqP; rw [beq_eq_false_iff_ne]; intro e; exact h (by rw [fl_inj e])
theorem eqP_take {xs ys : List Pth} (hl : xs.length = ys.length) (h : xs.take xs.length = ys.take xs.length) : eqP xs ys = true := by
  rw [List.take_length, hl, List.take_length] at h; rw [h]; exact eqP_self ys
theorem eqP_at {xs ys : List Pth} {k : Nat} (h1 : k < xs.length) (h2 : k < ys.length) (h : eqL xs[k] ys[k] = false) : eqP xs ys = false := by
  unfold eqP; rw [beq_eq_false_iff_ne]; intro e
  have := fl_inj e
  subst this
  unfold eqL at h; rw [beq_self_eq_true] at h; cases h
theorem eqL_true {x y : Pth} (h : eqL x y = true) : x = y := lv_inj (by unfold eqL at h; simpa using h)
theorem take_eqL {xs ys : List Pth} {k : Nat} (h1 : k < xs.length) (h2 : k < ys.length) (hp : xs.take k = ys.take k) (h : eqL xs[k] ys[k] = true) : xs.take (k + 1) = ys.take (k + 1) := by
  rw [List.take_succ_eq_append_getElem h1, List.take_succ_eq_append_getElem h2, hp, eqL_true h]
theorem eqL_f {x y : Pth} (h : lv x ≠ lv y) : eqL x y = false := by unfold eqL; rw [beq_eq_false_iff_ne]; exact h
theorem eqL_0 {x y : Pth} (h : (x.di != y.di) = true) : eqL x y = false := by
  refine eqL_f (fun e => ?_)
  rw [lv_inj e, bne_self_eq_false'] at h; cases h
theorem eqL_1 {x y : Pth} (h : (x.he != y.he) = true) : eqL x y = false := by
  refine eqL_f (fun e => ?_)
  rw [lv_inj e, bne_self_eq_false'] at h; cases h
theorem eqL_t {x y : Pth} (h0 : (x.di != y.di) = false) (h1 : (x.he != y.he) = false) : eqL x y = true := by
  simp only [bne_eq_false_iff_eq] at *
  unfold eqL lv; rw [h0, h1]; exact beq_self_eq_true _
/-- the sum of a number of all -/
def sm (f : Pth → Int) (xs : List Pth) : Int := (xs.map f).sum
theorem sm_nil (f : Pth → Int) : sm f [] = 0 := rfl
theorem sm_cons (f : Pth → Int) (x : Pth) (xs : List Pth) : sm f (x :: xs) = f x + sm f xs := rfl
theorem sm_app (f : Pth → Int) (xs ys : List Pth) : sm f (xs ++ ys) = sm f xs + sm f ys := by unfold sm; rw [List.map_append, List.sum_append]
theorem sm_snoc (f : Pth → Int) {xs : List Pth} {k : Nat} (h : k < xs.length) : sm f (xs.take (k + 1)) = sm f (xs.take k) + f xs[k] := by
  rw [List.take_succ_eq_append_getElem h, sm_app]; simp [sm]
end Pp
end Go.Proofs.YtmieckchppfogaaGreatDoor
