import Derived.Test.YthcmpalbhaefbaaDoorArith
/-
  Plain mathematics of the type gridStep: 5 numbers; a list of them. No Go in sight.
-/
namespace Go.Proofs.YthcmpalbhaefbaaDoor

/-- 5 numbers -/
structure Gsp where
  di : Int
  ro : Int
  co : Int
  fa : Int
  sl : Int

namespace Gp
/-- its numbers -/
def lv (x : Gsp) : List Int := [x.di, x.ro, x.co, x.fa, x.sl]
theorem lv_inj {x y : Gsp} (h : lv x = lv y) : x = y := by
  cases x; cases y
  simp only [lv, List.cons.injEq, and_true] at h
  obtain ⟨rfl, rfl, rfl, rfl, rfl⟩ := h
  rfl
theorem lv_length (x : Gsp) : (lv x).length = 5 := rfl
/-- the numbers of all, one after the other -/
def fl (xs : List Gsp) : List Int := xs.flatMap lv
theorem fl_nil : fl [] = [] := rfl
theorem fl_cons (x : Gsp) (xs : List Gsp) : fl (x :: xs) = lv x ++ fl xs := rfl
theorem fl_app (xs ys : List Gsp) : fl (xs ++ ys) = fl xs ++ fl ys := by unfold fl; rw [List.flatMap_append]
theorem fl_one (x : Gsp) : fl [x] = lv x := by simp [fl]
theorem fl_length (xs : List Gsp) : (fl xs).length = 5 * xs.length := by
  induction xs with
  | nil => rfl
  | cons x xs ih => rw [fl_cons, List.length_append, lv_length, ih, List.length_cons]; omega
theorem fl_at {xs : List Gsp} {i : Nat} {x : Gsp} (h : xs[i]? = some x) {j : Nat} (hj : j < 5) : (fl xs)[5 * i + j]? = (lv x)[j]? := by
  induction xs generalizing i with
  | nil => cases h
  | cons y ys ih =>
    rw [fl_cons]
    cases i with
    | zero =>
      simp only [List.getElem?_cons_zero, Option.some.injEq] at h
      subst h
      rw [Nat.mul_zero, Nat.zero_add, List.getElem?_append_left (by rw [lv_length]; omega)]
    | succ i =>
      rw [List.getElem?_cons_succ] at h
      rw [List.getElem?_append_right (by rw [lv_length]; omega), lv_length, show 5 * (i + 1) + j - 5 = 5 * i + j by omega]
      exact ih h
theorem fl_take (xs : List Gsp) (k : Nat) : (fl xs).take (5 * k) = fl (xs.take k) := by
  induction xs generalizing k with
  | nil => simp [fl]
  | cons x xs ih =>
    cases k with
    | zero => rfl
    | succ k =>
      rw [List.take_succ_cons, fl_cons, fl_cons, ← ih k, List.take_append, lv_length, List.take_of_length_le (by rw [lv_length]; omega), show 5 * (k + 1) - 5 = 5 * k by omega]
theorem fl_drop (xs : List Gsp) (k : Nat) : (fl xs).drop (5 * k) = fl (xs.drop k) := by
  induction xs generalizing k with
  | nil => simp [fl]
  | cons x xs ih =>
    cases k with
    | zero => rfl
    | succ k =>
      rw [List.drop_succ_cons, fl_cons, ← ih k, List.drop_append, lv_length, List.drop_of_length_le (by rw [lv_length]; omega), show 5 * (k + 1) - 5 = 5 * k by omega, List.nil_append]
theorem fl_inj {xs ys : List Gsp} (h : fl xs = fl ys) : xs = ys := by
  induction xs generalizing ys with
  | nil =>
    cases ys with
    | nil => rfl
    | cons y ys => have := congrArg List.length h; rw [fl_length, fl_length] at this; simp at this
  | cons x xs ih =>
    cases ys with
    | nil => have := congrArg List.length h; rw [fl_length, fl_length] at this; simp at this
    | cons y ys =>
      rw [fl_cons, fl_cons] at h
      obtain ⟨h1, h2⟩ := List.append_inj h (by rw [lv_length, lv_length])
      rw [lv_inj h1, ih h2]
theorem fl_snoc {xs : List Gsp} {k : Nat} (h : k < xs.length) : fl (xs.take (k + 1)) = fl (xs.take k) ++ lv xs[k] := by
  rw [List.take_succ_eq_append_getElem h, fl_app]; simp [fl]
/-- are two of them, two lists equal? -/
def eqL (x y : Gsp) : Bool := lv x == lv y
def eqP (xs ys : List Gsp) : Bool := fl xs == fl ys
theorem eqP_self (xs : List Gsp) : eqP xs xs = true := by unfold eqP; exact beq_self_eq_true _
theorem eqL_self (x : Gsp) : eqL x x = true := by unfold eqL; exact beq_self_eq_true _
theorem eqP_len {xs ys : List Gsp} (h : xs.length ≠ ys.length) : eqP xs ys = false := by
  unfold eqP; rw [beq_eq_false_iff_ne]; intro e; exact h (by rw [fl_inj e])
theorem eqP_take {xs ys : List Gsp} (hl : xs.length = ys.length) (h : xs.take xs.length = ys.take xs.length) : eqP xs ys = true := by
  rw [List.take_length, hl, List.take_length] at h; rw [h]; exact eqP_self ys
theorem eqP_at {xs ys : List Gsp} {k : Nat} (h1 : k < xs.length) (h2 : k < ys.length) (h : eqL xs[k] ys[k] = false) : eqP xs ys = false := by
  unfold eqP; rw [beq_eq_false_iff_ne]; intro e
  have := fl_inj e
  subst this
  unfold eqL at h; rw [beq_self_eq_true] at h; cases h
theorem eqL_true {x y : Gsp} (h : eqL x y = true) : x = y := lv_inj (by unfold eqL at h; simpa using h)
theorem take_eqL {xs ys : List Gsp} {k : Nat} (h1 : k < xs.length) (h2 : k < ys.length) (hp : xs.take k = ys.take k) (h : eqL xs[k] ys[k] = true) : xs.take (k + 1) = ys.take (k + 1) := by
  rw [List.take_succ_eq_append_getElem h1, List.take_succ_eq_append_getElem h2, hp, eqL_true h]
theorem eqL_f {x y : Gsp} (h : lv x ≠ lv y) : eqL x y = false := by unfold eqL; rw [beq_eq_false_iff_ne]; exact h
theorem eqL_0 {x y : Gsp} (h : (x.di != y.di) = true) : eqL x y = false := by
  refine eqL_f (fun e => ?_)
  rw [lv_inj e, bne_self_eq_false'] at h; cases h
theorem eqL_1 {x y : Gsp} (h : (x.ro != y.ro) = true) : eqL x y = false := by
  refine eqL_f (fun e => ?_)
  rw [lv_inj e, bne_self_eq_false'] at h; cases h
theorem eqL_2 {x y : Gsp} (h : (x.co != y.co) = true) : eqL x y = false := by
  refine eqL_f (fun e => ?_)
  rw [lv_inj e, bne_self_eq_false'] at h; cases h
theorem eqL_3 {x y : Gsp} (h : (x.fa != y.fa) = true) : eqL x y = false := by
  refine eqL_f (fun e => ?_)
  rw [lv_inj e, bne_self_eq_false'] at h; cases h
theorem eqL_4 {x y : Gsp} (h : (x.sl != y.sl) = true) : eqL x y = false := by
  refine eqL_f (fun e => ?_)
  rw [lv_inj e, bne_self_eq_false'] at h; cases h
theorem eqL_t {x y : Gsp} (h0 : (x.di != y.di) = false) (h1 : (x.ro != y.ro) = false) (h2 : (x.co != y.co) = false) (h3 : (x.fa != y.fa) = false) (h4 : (x.sl != y.sl) = false) : eqL x y = true := by
  simp only [bne_eq_false_iff_eq] at *
  unfold eqL lv; rw [h0, h1, h2, h3, h4]; exact beq_self_eq_true _
/-- the sum of a number of all -/
def sm (f : Gsp → Int) (xs : List Gsp) : Int := (xs.map f).sum
theorem sm_nil (f : Gsp → Int) : sm f [] = 0 := rfl
theorem sm_cons (f : Gsp → Int) (x : Gsp) (xs : List Gsp) : sm f (x :: xs) = f x + sm f xs := rfl
theorem sm_app (f : Gsp → Int) (xs ys : List Gsp) : sm f (xs ++ ys) = sm f xs + sm f ys := by unfold sm; rw [List.map_append, List.sum_append]
theorem sm_snoc (f : Gsp → Int) {xs : List Gsp} {k : Nat} (h : k < xs.length) : sm f (xs.take (k + 1)) = sm f (xs.take k) + f xs[k] := by
  rw [List.take_succ_eq_append_getElem h, sm_app]; simp [sm]
end Gp
end Go.Proofs.YthcmpalbhaefbaaDoor
