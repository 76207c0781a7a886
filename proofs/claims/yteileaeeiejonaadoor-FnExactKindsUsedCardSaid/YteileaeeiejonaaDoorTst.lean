import Derived.Test.YteileaeeiejonaaDoorArith
/-
  Plain mathematics of the type Test: 5 numbers; a list of them. No Go in sight.
-/
namespace Go.Proofs.YteileaeeiejonaaDoor

/-- 5 numbers -/
structure Tst where
  ki : Int
  sc : Int
  qu : Int
  de : Int
  ho : Int

namespace Te
/-- its numbers -/
def lv (x : Tst) : List Int := [x.ki, x.sc, x.qu, x.de, x.ho]
theorem lv_inj {x y : Tst} (h : lv x = lv y) : x = y := by
  cases x; cases y
  simp only [lv, List.cons.injEq, and_true] at h
  obtain ⟨rfl, rfl, rfl, rfl, rfl⟩ := h
  rfl
theorem lv_length (x : Tst) : (lv x).length = 5 := rfl
/-- the numbers of all, one after the other -/
def fl (xs : List Tst) : List Int := xs.flatMap lv
theorem fl_nil : fl [] = [] := rfl
theorem fl_cons (x : Tst) (xs : List Tst) : fl (x :: xs) = lv x ++ fl xs := rfl
theorem fl_app (xs ys : List Tst) : fl (xs ++ ys) = fl xs ++ fl ys := by unfold fl; rw [List.flatMap_append]
theorem fl_one (x : Tst) : fl [x] = lv x := by simp [fl]
theorem fl_length (xs : List Tst) : (fl xs).length = 5 * xs.length := by
  induction xs with
  | nil => rfl
  | cons x xs ih => rw [fl_cons, List.length_append, lv_length, ih, List.length_cons]; omega
theorem fl_at {xs : List Tst} {i : Nat} {x : Tst} (h : xs[i]? = some x) {j : Nat} (hj : j < 5) : (fl xs)[5 * i + j]? = (lv x)[j]? := by
  induction xs generalizing i with
  | nil => cases h
  | cons y ys ih =>
    rw [fl_cons]
    cases i with
    | zero =>
      simp only [List.getElem?_cons_zero, Option.some.injEq] at h
      subst h
      rw [Nat.mul_zero, Nat.zero_add, List.getElem?_append_left (by rw [lv_length]; omega)]
    | succ i =>
      rw [List.getElem?_cons_succ] at h
      rw [List.getElem?_append_right (by rw [lv_length]; omega), lv_length, show 5 * (i + 1) + j - 5 = 5 * i + j by omega]
      exact ih h
theorem fl_take (xs : List Tst) (k : Nat) : (fl xs).take (5 * k) = fl (xs.take k) := by
  induction xs generalizing k with
  | nil => simp [fl]
  | cons x xs ih =>
    cases k with
    | zero => rfl
    | succ k =>
      rw [List.take_succ_cons, fl_cons, fl_cons, ← ih k, List.take_append, lv_length, List.take_of_length_le (by rw [lv_length]; omega), show 5 * (k + 1) - 5 = 5 * k by omega]
theorem fl_drop (xs : List Tst) (k : Nat) : (fl xs).drop (5 * k) = fl (xs.drop k) := by
  induction xs generalizing k with
  | nil => simp [fl]
  | cons x xs ih =>
    cases k with
    | zero => rfl
    | succ k =>
      rw [List.drop_succ_cons, fl_cons, ← ih k, List.drop_append, lv_length, List.drop_of_length_le (by rw [lv_length]; omega), show 5 * (k + 1) - 5 = 5 * k by omega, List.nil_append]
theorem fl_inj {xs ys : List Tst} (h : fl xs = fl ys) : xs = ys := by
  induction xs generalizing ys with
  | nil =>
    cases ys with
    | nil => rfl
    | cons y ys => have := congrArg List.length h; rw [fl_length, fl_length] at this; simp at this
  | cons x xs ih =>
    cases ys with
    | nil => have := congrArg List.length h; rw [fl_length, fl_length] at this; simp at this
    | cons y ys =>
      rw [fl_cons, fl_cons] at h
      obtain ⟨h1, h2⟩ := List.append_inj h (by rw [lv_length, lv_length])
      rw [lv_inj h1, ih h2]
theorem fl_snoc {xs : List Tst} {k : Nat} (h : k < xs.length) : fl (xs.take (k + 1)) = fl (xs.take k) ++ lv xs[k] := by
  rw [List.take_succ_eq_append_getElem h, fl_app]; simp [fl]
/-- are two of them, two lists equal? -/
def eqL (x y : Tst) : Bool := lv x == lv y
def eqP (xs ys : List Tst) : Bool := fl xs == fl ys
theorem eqP_self (xs : List Tst) : eqP xs xs = true := by unfold eqP; exact beq_self_eq_true _
theorem eqL_self (x : Tst) : eqL x x = true := by unfold eqL; exact beq_self_eq_true _
theorem eqP_len {xs ys : List Tst} (h : xs.length ≠ ys.length) : eqP xs ys = false := by
  unfold eqP; rw [beq_eq_false_iff_ne]; intro e; exact h (by rw [fl_inj e])
theorem eqP_take {xs ys : List Tst} (hl : xs.length = ys.length) (h : xs.take xs.length = ys.take xs.length) : eqP xs ys = true := by
  rw [List.take_length, hl, List.take_length] at h; rw [h]; exact eqP_self ys
theorem eqP_at {xs ys : List Tst} {k : Nat} (h1 : k < xs.length) (h2 : k < ys.length) (h : eqL xs[k] ys[k] = false) : eqP xs ys = false := by
  unfold eqP; rw [beq_eq_false_iff_ne]; intro e
  have := fl_inj e
  subst this
  unfold eqL at h; rw [beq_self_eq_true] at h; cases h
theorem eqL_true {x y : Tst} (h : eqL x y = true) : x = y := lv_inj (by unfold eqL at h; simpa using h)
theorem take_eqL {xs ys : List Tst} {k : Nat} (h1 : k < xs.length) (h2 : k < ys.length) (hp : xs.take k = ys.take k) (h : eqL xs[k] ys[k] = true) : xs.take (k + 1) = ys.take (k + 1) := by
  rw [List.take_succ_eq_append_getElem h1, List.take_succ_eq_append_getElem h2, hp, eqL_true h]
theorem eqL_f {x y : Tst} (h : lv x ≠ lv y) : eqL x y = false := by unfold eqL; rw [beq_eq_false_iff_ne]; exact h
theorem eqL_0 {x y : Tst} (h : (x.ki != y.ki) = true) : eqL x y = false := by
  refine eqL_f (fun e => ?_)
  rw [lv_inj e, bne_self_eq_false'] at h; cases h
theorem eqL_1 {x y : Tst} (h : (x.sc != y.sc) = true) : eqL x y = false := by
  refine eqL_f (fun e => ?_)
  rw [lv_inj e, bne_self_eq_false'] at h; cases h
theorem eqL_2 {x y : Tst} (h : (x.qu != y.qu) = true) : eqL x y = false := by
  refine eqL_f (fun e => ?_)
  rw [lv_inj e, bne_self_eq_false'] at h; cases h
theorem eqL_3 {x y : Tst} (h : (x.de != y.de) = true) : eqL x y = false := by
  refine eqL_f (fun e => ?_)
  rw [lv_inj e, bne_self_eq_false'] at h; cases h
theorem eqL_4 {x y : Tst} (h : (x.ho != y.ho) = true) : eqL x y = false := by
  refine eqL_f (fun e => ?_)
  rw [lv_inj e, bne_self_eq_false'] at h; cases h
theorem eqL_t {x y : Tst} (h0 : (x.ki != y.ki) = false) (h1 : (x.sc != y.sc) = false) (h2 : (x.qu != y.qu) = false) (h3 : (x.de != y.de) = false) (h4 : (x.ho != y.ho) = false) : eqL x y = true := by
  simp only [bne_eq_false_iff_eq] at *
  unfold eqL lv; rw [h0, h1, h2, h3, h4]; exact beq_self_eq_true _
/-- the sum of a number of all -/
def sm (f : Tst → Int) (xs : List Tst) : Int := (xs.map f).sum
theorem sm_nil (f : Tst → Int) : sm f [] = 0 := rfl
theorem sm_cons (f : Tst → Int) (x : Tst) (xs : List Tst) : sm f (x :: xs) = f x + sm f xs := rfl
theorem sm_app (f : Tst → Int) (xs ys : List Tst) : sm f (xs ++ ys) = sm f xs + sm f ys := by unfold sm; rw [List.map_append, List.sum_append]
theorem sm_snoc (f : Tst → Int) {xs : List Tst} {k : Nat} (h : k < xs.length) : sm f (xs.take (k + 1)) = sm f (xs.take k) + f xs[k] := by
  rw [List.take_succ_eq_append_getElem h, sm_app]; simp [sm]
end Te
end Go.Proofs.YteileaeeiejonaaDoor
