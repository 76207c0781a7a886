/-
  Plain mathematics of chapter 10, what the questions answer. No Go in sight.
-/
import Derived.Test.YtaldmdammipfjaaFo
import Derived.Test.YtaldmdammipfjaaCd
namespace Go.Proofs.Ytaldmdammipfjaa
namespace Fo
set_option linter.unusedVariables false
/-! ### the searches, step by step -/
/-- of the numbers from 0 to z -/
def tz (p : Nat → Bool) (z : Int) : Option Nat := if z < 0 then none else tp p z.toNat
theorem tz_neg {p : Nat → Bool} {z : Int} (h : z < 0) : tz p z = none := by unfold tz; rw [if_pos h]
theorem tz_yes {p : Nat → Bool} {z : Int} (h0 : 0 ≤ z) (h : p z.toNat = true) : tz p z = some z.toNat := by unfold tz; rw [if_neg (by omega), tp_yes h]
theorem tz_no {p : Nat → Bool} {z : Int} (h0 : 0 ≤ z) (h : p z.toNat = false) : tz p z = tz p (z - 1) := by
  unfold tz
  rw [if_neg (by omega)]
  by_cases h1 : z = 0
  · subst h1; rw [if_pos (by omega)]; exact tp_zero h
  · rw [if_neg (by omega)]
    obtain ⟨k, hk⟩ : ∃ k, z.toNat = k + 1 := ⟨z.toNat - 1, by omega⟩
    rw [hk] at h ⊢
    rw [tp_no h, show (z - 1).toNat = k by omega]
theorem tz_nat {p : Nat → Bool} (n : Nat) : tz p (n : Int) = tp p n := by unfold tz; rw [if_neg (by omega)]; rfl
def msV (x : Std) (l : Int) : Int := Cd.vl (ok1 x) (Ar.inB 0 l 1000) (oV (msO x l))
def msC (x : Std) (l : Int) : Int := Cd.cd (ok1 x) (Ar.inB 0 l 1000) (oC (msO x l))
def yuV (x : Std) (s l : Int) : Int := Cd.vl (ok1 x) (lim s l) (oV (yuO x s l))
def yuC (x : Std) (s l : Int) : Int := Cd.cd (ok1 x) (lim s l) (oC (yuO x s l))
def mfV (x : Std) (s l : Int) : Int := Cd.vl (ok1 x) (lim s l) (oV (mfO x s l))
def mfC (x : Std) (s l : Int) : Int := Cd.cd (ok1 x) (lim s l) (oC (mfO x s l))
def zS : Std := ⟨[], 0, 0, 0, 0⟩
def rs (a b : Bool) (y : Std) : Std := if a = true then (if b = true then y else zS) else zS
theorem rs_t (y : Std) : rs true true y = y := rfl
theorem rs_f (b : Bool) (y : Std) : rs false b y = zS := rfl
theorem rs_tf (y : Std) : rs true false y = zS := rfl
def grS (x : Std) (y : Int) : Std := rs (ok1 x) (Ar.inB 0 y 200) (ys y.toNat x)
def grC (x : Std) (y : Int) : Int := Cd.cd (ok1 x) (Ar.inB 0 y 200) 0
def ftS (x : Std) (t : Int) : Std := rs (ok1 x) (Ar.inB 0 t 2000) (if x.tr < t then zS else fe x t)
def ftC (x : Std) (t : Int) : Int := Cd.cd (ok1 x) (Ar.inB 0 t 2000) (if x.tr < t then 6 else 0)
/-! ### lists -/
/-- the indices of those of which p holds -/
def ixs (p : Std → Bool) : Nat → List Std → List Int
  | _, [] => []
  | o, x :: xs => if p x then (o : Int) :: ixs p (o + 1) xs else ixs p (o + 1) xs
theorem ixs_app (p : Std → Bool) (o : Nat) (xs : List Std) (x : Std) : ixs p o (xs ++ [x]) = ixs p o xs ++ (if p x then [((o + xs.length : Nat) : Int)] else []) := by
  induction xs generalizing o with
  | nil => simp [ixs]
  | cons y ys ih => simp only [List.cons_append, ixs, ih, List.length_cons]; split <;> simp [show o + 1 + ys.length = o + (ys.length + 1) by omega]
theorem ixs_take {p : Std → Bool} {xs : List Std} {k : Nat} (h : k < xs.length) : ixs p 0 (xs.take (k + 1)) = ixs p 0 (xs.take k) ++ (if p xs[k] then [(k : Int)] else []) := by
  rw [List.take_succ_eq_append_getElem h, ixs_app, Nat.zero_add, List.length_take, Nat.min_eq_left (by omega)]
theorem ixs_yes {p : Std → Bool} {xs : List Std} {k : Nat} (h : k < xs.length) (hp : p xs[k] = true) : ixs p 0 (xs.take (k + 1)) = ixs p 0 (xs.take k) ++ [(k : Int)] := by rw [ixs_take h, if_pos hp]
theorem ixs_no {p : Std → Bool} {xs : List Std} {k : Nat} (h : k < xs.length) (hp : p xs[k] = false) : ixs p 0 (xs.take (k + 1)) = ixs p 0 (xs.take k) := by rw [ixs_take h, hp]; simp
theorem ixs_len (p : Std → Bool) (o : Nat) (xs : List Std) : (ixs p o xs).length ≤ xs.length := by
  induction xs generalizing o with
  | nil => simp [ixs]
  | cons x xs ih => simp only [ixs]; split <;> simp <;> have := ih (o + 1) <;> omega
def psL (xs : List Std) (s l : Int) : List Int := Cd.ls (okS xs) (lim s l) (ixs (met s l) 0 xs)
def psC (xs : List Std) (s l : Int) : Int := Cd.cd (okS xs) (lim s l) 0
theorem psL_len {xs : List Std} {s l : Int} (h : xs.length ≤ 1048576) : (psL xs s l).length ≤ 1048576 := by
  have := ixs_len (met s l) 0 xs
  exact Cd.ls_len (by omega)
/-- the first stand that protects least -/
structure Wk (xs : List Std) (s : Int) (b : Nat) : Prop where
  lt : b < xs.length
  le : ∀ j (hj : j < xs.length), pr (xs[b]'lt) s ≤ pr xs[j] s
  first : ∀ j (hj : j < b), pr (xs[b]'lt) s < pr (xs[j]'(by omega)) s
theorem Wk.uniq {xs : List Std} {s : Int} {a b : Nat} (h : Wk xs s a) (k : Wk xs s b) : a = b := by
  rcases Nat.lt_trichotomy a b with h1 | h1 | h1
  · have := k.first a h1; have := h.le b k.lt; omega
  · exact h1
  · have := h.first b h1; have := k.le a h.lt; omega
noncomputable def wk (xs : List Std) (s : Int) : Nat := open Classical in if h : ∃ b, Wk xs s b then h.choose else 0
theorem wk_of {xs : List Std} {s : Int} {b : Nat} (h : Wk xs s b) : wk xs s = b := by
  have e : ∃ b, Wk xs s b := ⟨b, h⟩
  unfold wk
  rw [dif_pos e]
  exact e.choose_spec.uniq h
def prAt (xs : List Std) (s : Int) (b : Nat) : Int := if h : b < xs.length then pr xs[b] s else 0
theorem prAt_of {xs : List Std} {s : Int} {b : Nat} (h : b < xs.length) : prAt xs s b = pr xs[b] s := by unfold prAt; rw [dif_pos h]
noncomputable def wkI (xs : List Std) (s : Int) : Int := Cd.vl (okS xs) (Ar.inB 0 s 2000) (if xs.length = 0 then 0 else (wk xs s : Int))
noncomputable def wkM (xs : List Std) (s : Int) : Int := Cd.vl (okS xs) (Ar.inB 0 s 2000) (if xs.length = 0 then 0 else prAt xs s (wk xs s))
def wkC (xs : List Std) (s : Int) : Int := Cd.cd (okS xs) (Ar.inB 0 s 2000) (if xs.length = 0 then 3 else 0)
end Fo
end Go.Proofs.Ytaldmdammipfjaa
