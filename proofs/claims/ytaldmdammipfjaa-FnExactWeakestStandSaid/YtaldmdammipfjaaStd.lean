import Derived.Test.YtaldmdammipfjaaGen
/-
  The type Stand in plain words: 5 fields; a list of them, as cells.
-/
namespace Go.Proofs.Ytaldmdammipfjaa
set_option linter.unusedVariables false

/-- 5 fields -/
structure Std where
  id : List UInt8
  tr : Int
  he : Int
  co : Int
  ga : Int
deriving DecidableEq

namespace Sn
/-- its cells -/
def lv (x : Std) : List Value := [.string ⟨x.id.toArray⟩, .int .i64 x.tr, .int .i64 x.he, .int .i64 x.co, .int .i64 x.ga]
theorem lv_inj {x y : Std} (h : lv x = lv y) : x = y := by
  cases x; cases y
  simpa [lv] using h
theorem lv_length (x : Std) : (lv x).length = 5 := rfl
theorem lv_one (x : Std) : ∀ u ∈ lv x, u.oneCell' = true := by
  intro u hu
  simp only [lv, List.mem_cons, List.not_mem_nil, or_false] at hu
  rcases hu with rfl | rfl | rfl | rfl | rfl <;> rfl
/-- the numbers of all, one after the other -/
def fl (xs : List Std) : List Value := xs.flatMap lv
theorem fl_nil : fl [] = [] := rfl
theorem fl_cons (x : Std) (xs : List Std) : fl (x :: xs) = lv x ++ fl xs := rfl
theorem fl_app (xs ys : List Std) : fl (xs ++ ys) = fl xs ++ fl ys := by unfold fl; rw [List.flatMap_append]
theorem fl_one (x : Std) : fl [x] = lv x := by simp [fl]
theorem fl_length (xs : List Std) : (fl xs).length = 5 * xs.length := by
  induction xs with
  | nil => rfl
  | cons x xs ih => rw [fl_cons, List.length_append, lv_length, ih, List.length_cons]; omega
theorem fl_at {xs : List Std} {i : Nat} {x : Std} (h : xs[i]? = some x) {j : Nat} (hj : j < 5) : (fl xs)[5 * i + j]? = (lv x)[j]? := by
  induction xs generalizing i with
  | nil => cases h
  | cons y ys ih =>
    rw [fl_cons]
    cases i with
    | zero =>
      simp only [List.getElem?_cons_zero, Option.some.injEq] at h
      subst h
      rw [Nat.mul_zero, Nat.zero_add, List.getElem?_append_left (by rw [lv_length]; omega)]
    | succ i =>
      rw [List.getElem?_cons_succ] at h
      rw [List.getElem?_append_right (by rw [lv_length]; omega), lv_length, show 5 * (i + 1) + j - 5 = 5 * i + j by omega]
      exact ih h
theorem fl_take (xs : List Std) (k : Nat) : (fl xs).take (5 * k) = fl (xs.take k) := by
  induction xs generalizing k with
  | nil => simp [fl]
  | cons x xs ih =>
    cases k with
    | zero => rfl
    | succ k =>
      rw [List.take_succ_cons, fl_cons, fl_cons, ← ih k, List.take_append, lv_length, List.take_of_length_le (by rw [lv_length]; omega), show 5 * (k + 1) - 5 = 5 * k by omega]
theorem fl_drop (xs : List Std) (k : Nat) : (fl xs).drop (5 * k) = fl (xs.drop k) := by
  induction xs generalizing k with
  | nil => simp [fl]
  | cons x xs ih =>
    cases k with
    | zero => rfl
    | succ k =>
      rw [List.drop_succ_cons, fl_cons, ← ih k, List.drop_append, lv_length, List.drop_of_length_le (by rw [lv_length]; omega), show 5 * (k + 1) - 5 = 5 * k by omega, List.nil_append]
theorem fl_inj {xs ys : List Std} (h : fl xs = fl ys) : xs = ys := by
  induction xs generalizing ys with
  | nil =>
    cases ys with
    | nil => rfl
    | cons y ys => have := congrArg List.length h; rw [fl_length, fl_length] at this; simp at this
  | cons x xs ih =>
    cases ys with
    | nil => have := congrArg List.length h; rw [fl_length, fl_length] at this; simp at this
    | cons y ys =>
      rw [fl_cons, fl_cons] at h
      obtain ⟨h1, h2⟩ := List.append_inj h (by rw [lv_length, lv_length])
      rw [lv_inj h1, ih h2]
theorem fl_snoc {xs : List Std} {k : Nat} (h : k < xs.length) : fl (xs.take (k + 1)) = fl (xs.take k) ++ lv xs[k] := by
  rw [List.take_succ_eq_append_getElem h, fl_app]; simp [fl]
/-- are two of them, two lists equal? -/
def eqL (x y : Std) : Bool := decide (x = y)
def eqP (xs ys : List Std) : Bool := decide (xs = ys)
theorem eqP_self (xs : List Std) : eqP xs xs = true := decide_eq_true rfl
theorem eqL_self (x : Std) : eqL x x = true := decide_eq_true rfl
theorem eqP_len {xs ys : List Std} (h : xs.length ≠ ys.length) : eqP xs ys = false := decide_eq_false (fun e => h (by rw [e]))
theorem eqP_take {xs ys : List Std} (hl : xs.length = ys.length) (h : xs.take xs.length = ys.take xs.length) : eqP xs ys = true := by
  rw [List.take_length, hl, List.take_length] at h; rw [h]; exact eqP_self ys
theorem eqL_true {x y : Std} (h : eqL x y = true) : x = y := of_decide_eq_true h
theorem eqP_at {xs ys : List Std} {k : Nat} (h1 : k < xs.length) (h2 : k < ys.length) (h : eqL xs[k] ys[k] = false) : eqP xs ys = false :=
  decide_eq_false (fun e => by subst e; rw [eqL_self] at h; cases h)
theorem take_eqL {xs ys : List Std} {k : Nat} (h1 : k < xs.length) (h2 : k < ys.length) (hp : xs.take k = ys.take k) (h : eqL xs[k] ys[k] = true) : xs.take (k + 1) = ys.take (k + 1) := by
  rw [List.take_succ_eq_append_getElem h1, List.take_succ_eq_append_getElem h2, hp, eqL_true h]
theorem eqL_f {x y : Std} (h : x ≠ y) : eqL x y = false := decide_eq_false h
theorem eqL_0 {x y : Std} (h : (x.id != y.id) = true) : eqL x y = false :=
  eqL_f (fun e => by subst e; simp at h)
theorem eqL_1 {x y : Std} (h : (x.tr != y.tr) = true) : eqL x y = false :=
  eqL_f (fun e => by subst e; simp at h)
theorem eqL_2 {x y : Std} (h : (x.he != y.he) = true) : eqL x y = false :=
  eqL_f (fun e => by subst e; simp at h)
theorem eqL_3 {x y : Std} (h : (x.co != y.co) = true) : eqL x y = false :=
  eqL_f (fun e => by subst e; simp at h)
theorem eqL_4 {x y : Std} (h : (x.ga != y.ga) = true) : eqL x y = false :=
  eqL_f (fun e => by subst e; simp at h)
theorem eqL_t {x y : Std} (h0 : (x.id != y.id) = false) (h1 : (x.tr != y.tr) = false) (h2 : (x.he != y.he) = false) (h3 : (x.co != y.co) = false) (h4 : (x.ga != y.ga) = false) : eqL x y = true := by
  simp only [bne_eq_false_iff_eq] at *
  cases x; cases y
  simp only at *
  subst h0 h1 h2 h3 h4
  exact eqL_self _
/-- the sum of a number of all -/
def sm (f : Std → Int) (xs : List Std) : Int := (xs.map f).sum
theorem sm_nil (f : Std → Int) : sm f [] = 0 := rfl
theorem sm_cons (f : Std → Int) (x : Std) (xs : List Std) : sm f (x :: xs) = f x + sm f xs := rfl
theorem sm_app (f : Std → Int) (xs ys : List Std) : sm f (xs ++ ys) = sm f xs + sm f ys := by unfold sm; rw [List.map_append, List.sum_append]
theorem sm_snoc (f : Std → Int) {xs : List Std} {k : Nat} (h : k < xs.length) : sm f (xs.take (k + 1)) = sm f (xs.take k) + f xs[k] := by
  rw [List.take_succ_eq_append_getElem h, sm_app]; simp [sm]
/-- its strings are no longer than a string may be -/
def Bd (x : Std) : Prop := x.id.length ≤ maxLen
/-- the bytes of its strings -/
def szn (x : Std) : Nat := x.id.length
def szl (xs : List Std) : Nat := (xs.map szn).sum
theorem szl_nil : szl [] = 0 := rfl
theorem szl_cons (x : Std) (xs : List Std) : szl (x :: xs) = szn x + szl xs := rfl
theorem szl_app (xs ys : List Std) : szl (xs ++ ys) = szl xs + szl ys := by unfold szl; rw [List.map_append, List.sum_append_nat]
theorem szl_snoc {xs : List Std} {k : Nat} (h : k < xs.length) : szl (xs.take (k + 1)) = szl (xs.take k) + szn xs[k] := by
  rw [List.take_succ_eq_append_getElem h, szl_app]; simp [szl]
theorem szl_le (xs : List Std) (k : Nat) : szl (xs.take k) ≤ szl xs := by
  have h := szl_app (xs.take k) (xs.drop k)
  rw [List.take_append_drop] at h; omega
theorem szn_le {xs : List Std} {x : Std} (h : x ∈ xs) : szn x ≤ szl xs := by
  induction xs with
  | nil => cases h
  | cons y ys ih =>
    rw [szl_cons]
    rcases List.mem_cons.1 h with rfl | h
    · omega
    · have := ih h; omega
/-- no string of theirs is long -/
def Sh1 (x : Std) : Prop := x.id.length ≤ 1048576
def Sh (xs : List Std) : Prop := ∀ x ∈ xs, Sh1 x
theorem sh1_of {x : Std} (h : szn x ≤ 1048576) : Sh1 x := by unfold szn at h; unfold Sh1; omega
theorem sh_of {xs : List Std} (h : szl xs ≤ 1048576) : Sh xs := fun x hx => sh1_of (Nat.le_trans (szn_le hx) h)
end Sn
end Go.Proofs.Ytaldmdammipfjaa
