import Derived.Test.YtaldmdammipfjaaDoorLay
/-
  Plain mathematics of chapter 7: strength, stress, index, the weakest layer, when a profile is stable, and how that hangs on a load and on a slope. No Go in sight.
-/
namespace Go.Proofs.YtaldmdammipfjaaDoor.Sb
set_option linter.unusedVariables false

/-- the factor of a form -/
def fac (fo : Int) : Int := ([20, 22, 30, 12, 8, 35] : List Int).getD (fo - 1).toNat 0
theorem form_cases {x : Lay} (h : La.Fits x) : x.fo = 1 ∨ x.fo = 2 ∨ x.fo = 3 ∨ x.fo = 4 ∨ x.fo = 5 ∨ x.fo = 6 := by
  have := h.f1; have := h.f2; omega
theorem fac_bd {x : Lay} (h : La.Fits x) : 0 ≤ fac x.fo ∧ fac x.fo ≤ 35 := by
  rcases form_cases h with e | e | e | e | e | e <;> rw [e] <;> decide
/-- density twice, and the factor -/
def raw (x : Lay) : Int := x.de * x.de * fac x.fo
theorem sq_bd {x : Lay} (h : La.Fits x) : 0 ≤ x.de * x.de ∧ x.de * x.de ≤ 810000 := by
  have h1 := h.d1; have h2 := h.d2
  have e0 : 0 ≤ x.de * x.de := Int.mul_nonneg (by omega) (by omega)
  have e1 : x.de * x.de ≤ 900 * x.de := Int.mul_le_mul_of_nonneg_right h2 (by omega)
  omega
theorem raw_bd {x : Lay} (h : La.Fits x) : 0 ≤ raw x ∧ raw x ≤ 28350000 := by
  obtain ⟨s0, s1⟩ := sq_bd h
  obtain ⟨f0, f1⟩ := fac_bd h
  have e0 : 0 ≤ x.de * x.de * fac x.fo := Int.mul_nonneg s0 f0
  have e1 : x.de * x.de * fac x.fo ≤ 810000 * fac x.fo := Int.mul_le_mul_of_nonneg_right s1 f0
  unfold raw; omega
/-- the strength of a layer -/
def base (x : Lay) : Int := Ar.dr (raw x) 1000
theorem base_bd {x : Lay} (h : La.Fits x) : 0 ≤ base x ∧ base x ≤ 28351 := by
  obtain ⟨r0, r1⟩ := raw_bd h
  unfold base Ar.dr Ar.drp
  rw [if_neg (by omega), if_neg (by omega)]
  omega
/-- its bounds -/
def lo (x : Lay) (d : Int) : Int := base x * (1000 - d) / 1000
def hi (x : Lay) (d : Int) : Int := (base x * (1000 + d) + 1000 - 1) / 1000
theorem lo_in {x : Lay} {d : Int} (h : La.Fits x) (h0 : 0 ≤ d) (h1 : d ≤ 1000) : 0 ≤ base x * (1000 - d) ∧ base x * (1000 - d) ≤ 28351000 := by
  obtain ⟨b0, b1⟩ := base_bd h
  have e0 : 0 ≤ base x * (1000 - d) := Int.mul_nonneg b0 (by omega)
  have e1 : base x * (1000 - d) ≤ 28351 * (1000 - d) := Int.mul_le_mul_of_nonneg_right b1 (by omega)
  omega
theorem hi_in {x : Lay} {d : Int} (h : La.Fits x) (h0 : 0 ≤ d) (h1 : d ≤ 1000) : 0 ≤ base x * (1000 + d) ∧ base x * (1000 + d) ≤ 56702000 := by
  obtain ⟨b0, b1⟩ := base_bd h
  have e0 : 0 ≤ base x * (1000 + d) := Int.mul_nonneg b0 (by omega)
  have e1 : base x * (1000 + d) ≤ 28351 * (1000 + d) := Int.mul_le_mul_of_nonneg_right b1 (by omega)
  omega
theorem lo_bd {x : Lay} {d : Int} (h : La.Fits x) (h0 : 0 ≤ d) (h1 : d ≤ 1000) : 0 ≤ lo x d ∧ lo x d ≤ 28351 := by
  have := lo_in h h0 h1
  unfold lo; omega
theorem hi_bd {x : Lay} {d : Int} (h : La.Fits x) (h0 : 0 ≤ d) (h1 : d ≤ 1000) : 0 ≤ hi x d ∧ hi x d ≤ 56703 := by
  have := hi_in h h0 h1
  unfold hi; omega

/-- what the stress is divided by, and what is divided -/
def den (ri ru : Int) : Int := ri * ri + ru * ru
def num (l ri ru : Int) : Int := 981 * l * ri * ru
/-- the stress under a load -/
def st (l ri ru : Int) : Int := Ar.dr (num l ri ru) (100000 * den ri ru)
structure Slo (ri ru : Int) : Prop where
  r0 : 0 ≤ ri
  r1 : ri ≤ 1000
  u0 : 1 ≤ ru
  u1 : ru ≤ 1000
theorem den_bd {ri ru : Int} (h : Slo ri ru) : 0 ≤ ri * ri ∧ ri * ri ≤ 1000000 ∧ 1 ≤ ru * ru ∧ ru * ru ≤ 1000000 ∧ 1 ≤ den ri ru ∧ den ri ru ≤ 2000000 := by
  obtain ⟨a, b, c, d⟩ := h
  have e0 : 0 ≤ ri * ri := Int.mul_nonneg a a
  have e1 : ri * ri ≤ 1000 * ri := Int.mul_le_mul_of_nonneg_right b a
  have e2 : 1 * ru ≤ ru * ru := Int.mul_le_mul_of_nonneg_right c (by omega)
  have e3 : ru * ru ≤ 1000 * ru := Int.mul_le_mul_of_nonneg_right d (by omega)
  unfold den; omega
theorem num_bd {l ri ru : Int} (h : Slo ri ru) (h0 : 0 ≤ l) (h1 : l ≤ 40000000) :
    0 ≤ 981 * l ∧ 981 * l ≤ 39240000000 ∧ 0 ≤ 981 * l * ri ∧ 981 * l * ri ≤ 39240000000000 ∧ 0 ≤ num l ri ru ∧ num l ri ru ≤ 39240000000000000 := by
  obtain ⟨a, b, c, d⟩ := h
  have e0 : 0 ≤ 981 * l * ri := Int.mul_nonneg (by omega) a
  have e1 : 981 * l * ri ≤ 39240000000 * ri := Int.mul_le_mul_of_nonneg_right (by omega) a
  have e2 : 0 ≤ 981 * l * ri * ru := Int.mul_nonneg e0 (by omega)
  have e3 : 981 * l * ri * ru ≤ 39240000000000 * ru := Int.mul_le_mul_of_nonneg_right (by omega) (by omega)
  unfold num; omega
/-- twice the product is at most the sum of the squares -/
theorem two_prod (ri ru : Int) : 2 * (ri * ru) ≤ den ri ru := by
  have h : 0 ≤ (ri - ru) * (ri - ru) := by
    rcases Int.le_total 0 (ri - ru) with h | h
    · exact Int.mul_nonneg h h
    · exact Int.mul_nonneg_of_nonpos_of_nonpos h h
  rw [Int.sub_mul, Int.mul_sub, Int.mul_sub, Int.mul_comm ru ri] at h
  unfold den; omega
theorem num_assoc (l ri ru : Int) : num l ri ru = 981 * (l * (ri * ru)) := by unfold num; simp only [Int.mul_assoc]
theorem st_rest {l ri ru : Int} (h : Slo ri ru) (h0 : 0 ≤ l) : st l ri ru = (2 * num l ri ru + 100000 * den ri ru) / (2 * (100000 * den ri ru)) := by
  have hn : 0 ≤ num l ri ru := by
    rw [num_assoc]
    have e : 0 ≤ ri * ru := Int.mul_nonneg h.r0 (by have := h.u0; omega)
    have e2 : 0 ≤ l * (ri * ru) := Int.mul_nonneg h0 e
    omega
  have hd := (den_bd h).2.2.2.2.1
  unfold st Ar.dr Ar.drp
  rw [if_neg (by omega), if_neg (by omega)]
theorem st_bd {l ri ru : Int} (h : Slo ri ru) (h0 : 0 ≤ l) (h1 : l ≤ 40000000) : 0 ≤ st l ri ru ∧ st l ri ru ≤ 200000 := by
  obtain ⟨_, _, _, _, n0, _⟩ := num_bd h h0 h1
  have hd := (den_bd h).2.2.2.2.1
  have e : num l ri ru ≤ 19620000000 * den ri ru := by
    rw [num_assoc]
    have p0 : 0 ≤ ri * ru := Int.mul_nonneg h.r0 (by have := h.u0; omega)
    have p1 : l * (ri * ru) ≤ 40000000 * (ri * ru) := Int.mul_le_mul_of_nonneg_right h1 p0
    have p2 := two_prod ri ru
    omega
  rw [st_rest h h0]
  constructor
  · exact Int.ediv_nonneg (by omega) (by omega)
  · have : (2 * num l ri ru + 100000 * den ri ru) / (2 * (100000 * den ri ru)) < 200001 := Int.ediv_lt_of_lt_mul (by omega) (by omega)
    omega
/-- more load, more stress -/
theorem st_load {l m ri ru : Int} (h : Slo ri ru) (h0 : 0 ≤ l) (h1 : l ≤ m) : st l ri ru ≤ st m ri ru := by
  have hd := (den_bd h).2.2.2.2.1
  have p0 : 0 ≤ ri * ru := Int.mul_nonneg h.r0 (by have := h.u0; omega)
  have p1 : l * (ri * ru) ≤ m * (ri * ru) := Int.mul_le_mul_of_nonneg_right h1 p0
  rw [st_rest h h0, st_rest h (by omega), num_assoc, num_assoc]
  exact Int.ediv_le_ediv (by omega) (by omega)
theorem quo_cross {a b c d : Int} (hb : 0 < b) (hd : 0 < d) (ha : 0 ≤ a) (h : a * d ≤ c * b) : a / b ≤ c / d := by
  have q0 : 0 ≤ a / b := Int.ediv_nonneg ha (by omega)
  refine (Int.le_ediv_iff_mul_le hd).2 ?_
  have e1 : a / b * b ≤ a := Int.ediv_mul_le a (by omega)
  have e2 : a / b * d * b ≤ c * b := by
    have : a / b * b * d ≤ a * d := Int.mul_le_mul_of_nonneg_right e1 (by omega)
    rw [show a / b * d * b = a / b * b * d by rw [Int.mul_assoc, Int.mul_comm d b, ← Int.mul_assoc]]
    omega
  exact Int.le_of_mul_le_mul_right e2 hb
/-- up to as steep as 1, a steeper slope has more stress -/
theorem st_steep {l ri rj ru : Int} (h : Slo ri ru) (h' : Slo rj ru) (h0 : 0 ≤ l) (h1 : ri ≤ rj) (h2 : rj ≤ ru) : st l ri ru ≤ st l rj ru := by
  have hd := (den_bd h).2.2.2.2.1
  have hd' := (den_bd h').2.2.2.2.1
  have p0 : 0 ≤ ri * ru := Int.mul_nonneg h.r0 (by have := h.u0; omega)
  have q0 : 0 ≤ rj * ru := Int.mul_nonneg h'.r0 (by have := h.u0; omega)
  -- ri (rj² + ru²) ≤ rj (ri² + ru²): (rj - ri) (ru² - ri rj) ≥ 0
  have c0 : 0 ≤ (rj - ri) * (ru * ru - ri * rj) := by
    refine Int.mul_nonneg (by omega) ?_
    have a1 : ri * rj ≤ ru * rj := Int.mul_le_mul_of_nonneg_right (by omega) h'.r0
    have a2 : ru * rj ≤ ru * ru := Int.mul_le_mul_of_nonneg_left h2 (by have := h.u0; omega)
    omega
  have c1 : ri * den rj ru ≤ rj * den ri ru := by
    have e : (rj - ri) * (ru * ru - ri * rj) = rj * den ri ru - ri * den rj ru := by
      unfold den
      simp only [Int.sub_mul, Int.mul_sub, Int.mul_add]
      rw [show rj * (ri * rj) = ri * (rj * rj) by rw [← Int.mul_assoc, Int.mul_comm rj ri, Int.mul_assoc], show ri * (ri * rj) = rj * (ri * ri) by rw [← Int.mul_assoc, Int.mul_comm]]
      omega
    omega
  have c2 : num l ri ru * den rj ru ≤ num l rj ru * den ri ru := by
    have a1 : l * ru * (ri * den rj ru) ≤ l * ru * (rj * den ri ru) := Int.mul_le_mul_of_nonneg_left c1 (Int.mul_nonneg h0 (by have := h.u0; omega))
    have e1 : num l ri ru * den rj ru = 981 * (l * ru * (ri * den rj ru)) := by
      rw [num_assoc, Int.mul_comm ri ru]; simp only [Int.mul_assoc]
    have e2 : num l rj ru * den ri ru = 981 * (l * ru * (rj * den ri ru)) := by
      rw [num_assoc, Int.mul_comm rj ru]; simp only [Int.mul_assoc]
    rw [e1, e2]; omega
  have n0 : 0 ≤ num l ri ru := by
    rw [num_assoc]; have := Int.mul_nonneg h0 p0; omega
  rw [st_rest h h0, st_rest h' h0]
  refine quo_cross (by omega) (by omega) (by omega) ?_
  have e : ∀ (a b c : Int), (2 * a + 100000 * b) * (2 * (100000 * c)) = 400000 * (a * c) + 20000000000 * (b * c) := by
    intro a b c
    rw [Int.add_mul, show 2 * a * (2 * (100000 * c)) = 400000 * (a * c) by rw [show (2 : Int) * (100000 * c) = 200000 * c by omega, Int.mul_assoc, Int.mul_left_comm a, ← Int.mul_assoc]; omega, show 100000 * b * (2 * (100000 * c)) = 20000000000 * (b * c) by rw [show (2 : Int) * (100000 * c) = 200000 * c by omega, Int.mul_assoc, Int.mul_left_comm b, ← Int.mul_assoc]; omega]
  rw [e, e, Int.mul_comm (den rj ru) (den ri ru)]
  omega
theorem st_flat {l ru : Int} (h : Slo 0 ru) (h0 : 0 ≤ l) : st l 0 ru = 0 := by
  have hd := (den_bd h).2.2.2.2.1
  rw [st_rest h h0, show num l 0 ru = 0 by unfold num; simp]
  exact Int.ediv_eq_zero_of_lt (by omega) (by omega)

/-- the bounds of the index of a strength under a stress -/
def ixl (s l : Int) : Int := if s = 0 then 1000000 else min 1000000 (1000 * l / s)
def ixh (s u : Int) : Int := if s = 0 then 1000000 else min 1000000 ((1000 * u + s - 1) / s)
theorem ixl_le (s l : Int) : ixl s l ≤ 1000000 := by unfold ixl; split <;> omega
/-- more stress, a lesser index -/
theorem ixl_anti {s t l : Int} (h0 : 0 ≤ s) (h1 : s ≤ t) (hl : 0 ≤ l) : ixl t l ≤ ixl s l := by
  unfold ixl
  by_cases hs : s = 0
  · rw [if_pos hs]; split <;> omega
  · rw [if_neg hs, if_neg (by omega)]
    have : 1000 * l / t ≤ 1000 * l / s := by
      refine quo_cross (by omega) (by omega) (by omega) ?_
      exact Int.mul_le_mul_of_nonneg_left h1 (by omega)
    omega
/-- the load above each layer is that of the layers behind it in the list -/
def ixs (m ri ru d : Int) : List Lay → List Int
  | [] => []
  | x :: xs => ixl (st (m + La.sm La.mass xs) ri ru) (lo x d) :: ixs m ri ru d xs
theorem ixs_length (m ri ru d : Int) : ∀ xs, (ixs m ri ru d xs).length = xs.length
  | [] => rfl
  | x :: xs => by rw [ixs, List.length_cons, ixs_length m ri ru d xs, List.length_cons]
def ix (m ri ru d : Int) (xs : List Lay) (k : Nat) (x : Lay) : Int := ixl (st (m + La.sm La.mass (xs.drop (k + 1))) ri ru) (lo x d)
theorem ixs_at (m ri ru d : Int) : ∀ (xs : List Lay) (k : Nat) (hk : k < xs.length), (ixs m ri ru d xs)[k]? = some (ix m ri ru d xs k xs[k])
  | x :: xs, 0, _ => rfl
  | x :: xs, k + 1, hk => by
    rw [ixs, List.getElem?_cons_succ, ixs_at m ri ru d xs k (by simpa using hk)]
    rfl
theorem ixs_take {m ri ru d : Int} {xs : List Lay} {k : Nat} (hk : k < xs.length) : (ixs m ri ru d xs).take (k + 1) = (ixs m ri ru d xs).take k ++ [ix m ri ru d xs k xs[k]] := by
  have h : k < (ixs m ri ru d xs).length := by rw [ixs_length]; exact hk
  have e := ixs_at m ri ru d xs k hk
  rw [List.getElem?_eq_getElem h] at e
  rw [List.take_succ_eq_append_getElem h, Option.some.inj e]
theorem ix_le {m ri ru d : Int} {xs : List Lay} {k : Nat} {x : Lay} : ix m ri ru d xs k x ≤ 1000000 := ixl_le _ _

/-- the first place of the least number -/
def wk : List Int → Nat
  | [] => 0
  | x :: ys => match ys with
    | [] => 0
    | y :: zs => if x ≤ (y :: zs).getD (wk (y :: zs)) 0 then 0 else wk (y :: zs) + 1
/-- it is the first one, and it is least -/
structure Wk (zs : List Int) (b : Nat) : Prop where
  lt : b < zs.length
  le : ∀ j, j < zs.length → zs.getD b 0 ≤ zs.getD j 0
  first : ∀ j, j < b → zs.getD b 0 < zs.getD j 0
theorem wk_is : ∀ (zs : List Int), zs ≠ [] → Wk zs (wk zs)
  | [], h => absurd rfl h
  | [x], _ => by
    refine ⟨by simp [wk], fun j hj => ?_, fun j hj => absurd hj (Nat.not_lt_zero _)⟩
    obtain rfl : j = 0 := by simp only [List.length_singleton] at hj; omega
    exact Int.le_refl _
  | x :: y :: zs, _ => by
    have ih := wk_is (y :: zs) (by simp)
    unfold wk
    by_cases h : x ≤ (y :: zs).getD (wk (y :: zs)) 0
    · simp only [h, if_true]
      refine ⟨by simp, fun j hj => ?_, fun j hj => absurd hj (Nat.not_lt_zero _)⟩
      cases j with
      | zero => exact Int.le_refl _
      | succ j =>
        have := ih.le j (by simpa using hj)
        rw [List.getD_cons_zero, List.getD_cons_succ]; omega
    · simp only [h, if_false]
      refine ⟨by have := ih.lt; simp only [List.length_cons] at this ⊢; omega, fun j hj => ?_, fun j hj => ?_⟩
      · rw [List.getD_cons_succ]
        cases j with
        | zero => rw [List.getD_cons_zero]; omega
        | succ j => rw [List.getD_cons_succ]; exact ih.le j (by simpa using hj)
      · rw [List.getD_cons_succ]
        cases j with
        | zero => rw [List.getD_cons_zero]; omega
        | succ j => rw [List.getD_cons_succ]; exact ih.first j (by omega)
theorem Wk.uniq {zs : List Int} {a b : Nat} (h : Wk zs a) (h' : Wk zs b) : a = b := by
  rcases Nat.lt_trichotomy a b with g | g | g
  · have := h'.first a g; have := h.le b h'.lt; omega
  · exact g
  · have := h.first b g; have := h'.le a h.lt; omega
/-- one number more -/
theorem Wk.snoc_old {zs : List Int} {b : Nat} {z : Int} (h : Wk zs b) (hz : ¬ z < zs.getD b 0) : Wk (zs ++ [z]) b := by
  have hl := h.lt
  have e : ∀ j, j < zs.length → (zs ++ [z]).getD j 0 = zs.getD j 0 := fun j hj => by simp [List.getD_eq_getElem?_getD, List.getElem?_append_left hj]
  have e2 : (zs ++ [z]).getD zs.length 0 = z := by simp [List.getD_eq_getElem?_getD]
  refine ⟨by simp; omega, fun j hj => ?_, fun j hj => ?_⟩
  · rw [e b hl]
    by_cases hj' : j < zs.length
    · rw [e j hj']; exact h.le j hj'
    · have : j = zs.length := by simp at hj; omega
      rw [this, e2]; omega
  · rw [e b hl, e j (by omega)]; exact h.first j hj
theorem Wk.snoc_new {zs : List Int} {b : Nat} {z : Int} (h : Wk zs b) (hz : z < zs.getD b 0) : Wk (zs ++ [z]) zs.length := by
  have e : ∀ j, j < zs.length → (zs ++ [z]).getD j 0 = zs.getD j 0 := fun j hj => by simp [List.getD_eq_getElem?_getD, List.getElem?_append_left hj]
  have e2 : (zs ++ [z]).getD zs.length 0 = z := by simp [List.getD_eq_getElem?_getD]
  refine ⟨by simp, fun j hj => ?_, fun j hj => ?_⟩
  · rw [e2]
    by_cases hj' : j < zs.length
    · rw [e j hj']; have := h.le j hj'; omega
    · have : j = zs.length := by simp at hj; omega
      rw [this, e2]; exact Int.le_refl _
  · rw [e2, e j hj]; have := h.le j hj; omega
theorem Wk.one (z : Int) : Wk [z] 0 := by
  refine ⟨by simp, fun j hj => ?_, fun j hj => absurd hj (Nat.not_lt_zero _)⟩
  obtain rfl : j = 0 := by simp only [List.length_singleton] at hj; omega
  exact Int.le_refl _

/-- is every index at least a limit? -/
def ok (t : Int) (zs : List Int) : Bool := !zs.any fun z => decide (z < t)
theorem ok_iff {t : Int} {zs : List Int} : ok t zs = true ↔ ∀ z ∈ zs, t ≤ z := by
  unfold ok
  simp only [Bool.not_eq_true', List.any_eq_false, decide_eq_true_eq, Int.not_lt]
theorem ok_wk {t : Int} {zs : List Int} {b : Nat} (h : Wk zs b) : ok t zs = decide (t ≤ zs.getD b 0) := by
  have hl := h.lt
  rw [Bool.eq_iff_iff, ok_iff, decide_eq_true_eq]
  constructor
  · intro g; exact g _ (by rw [List.getD_eq_getElem?_getD, List.getElem?_eq_getElem hl]; exact List.getElem_mem hl)
  · intro g z hz
    obtain ⟨j, hj, rfl⟩ := List.getElem_of_mem hz
    have := h.le j hj
    rw [List.getD_eq_getElem?_getD (i := j), List.getElem?_eq_getElem hj] at this
    exact Int.le_trans g this
theorem ok_nil (t : Int) : ok t [] = true := rfl
/-- is a profile stable under a further load? -/
def stb (m ri ru d t : Int) (xs : List Lay) : Bool := ok t (ixs m ri ru d xs)
theorem ok_mono {t : Int} : ∀ {zs ys : List Int}, zs.length = ys.length → (∀ j, j < zs.length → zs.getD j 0 ≤ ys.getD j 0) → ok t zs = true → ok t ys = true := by
  intro zs ys hl h hz
  rw [ok_iff] at hz ⊢
  intro y hy
  obtain ⟨j, hj, rfl⟩ := List.getElem_of_mem hy
  have h1 := h j (by omega)
  have hj' : j < zs.length := by omega
  rw [List.getD_eq_getElem?_getD, List.getD_eq_getElem?_getD, List.getElem?_eq_getElem hj, List.getElem?_eq_getElem hj'] at h1
  have h2 := hz _ (List.getElem_mem hj')
  exact Int.le_trans h2 h1
theorem mass_nn {x : Lay} (h : La.Fits x) : 0 ≤ La.mass x ∧ La.mass x ≤ 2000000 := by
  have := h.i1; have := h.i2; have := h.w1; have := h.w2
  unfold La.mass; omega
theorem sum_bd {xs : List Lay} (h : ∀ x ∈ xs, La.Fits x) (hl : xs.length ≤ 16) : 0 ≤ La.sm La.mass xs ∧ La.sm La.mass xs ≤ 32000000 := by
  have := La.sm_bd (f := La.mass) (m := 2000000) (fun x hx => mass_nn (h x hx))
  omega
theorem ixs_anti {m n ri rj ru d : Int} (hd0 : 0 ≤ d) (hd1 : d ≤ 1000) (H : ∀ l, 0 ≤ l → st (m + l) ri ru ≤ st (n + l) rj ru) (P : ∀ l, 0 ≤ l → 0 ≤ st (m + l) ri ru) : ∀ {xs : List Lay}, (∀ x ∈ xs, La.Fits x) → ∀ j, j < (ixs n rj ru d xs).length → (ixs n rj ru d xs).getD j 0 ≤ (ixs m ri ru d xs).getD j 0
  | [], _, j, hj => absurd hj (Nat.not_lt_zero _)
  | x :: xs, h, 0, _ => by
    have hx := h x (List.mem_cons_self ..)
    have hs : 0 ≤ La.sm La.mass xs := (La.sm_bd (f := La.mass) (m := 2000000) (fun y hy => mass_nn (h y (List.mem_cons_of_mem _ hy)))).1
    rw [ixs, ixs, List.getD_cons_zero, List.getD_cons_zero]
    exact ixl_anti (P _ hs) (H _ hs) (lo_bd hx hd0 hd1).1
  | x :: xs, h, j + 1, hj => by
    rw [ixs, ixs, List.getD_cons_succ, List.getD_cons_succ]
    exact ixs_anti hd0 hd1 H P (fun y hy => h y (List.mem_cons_of_mem _ hy)) j (by rw [ixs, List.length_cons] at hj; omega)
/-- more load never makes a profile stable -/
theorem stb_load {m n ri ru d t : Int} {xs : List Lay} (hf : ∀ x ∈ xs, La.Fits x) (hs : Slo ri ru) (hd0 : 0 ≤ d) (hd1 : d ≤ 1000) (h0 : 0 ≤ m) (h : m ≤ n) (hn : stb n ri ru d t xs = true) : stb m ri ru d t xs = true := by
  refine ok_mono (by rw [ixs_length, ixs_length]) (ixs_anti hd0 hd1 (fun l hl => st_load hs (by omega) (by omega)) (fun l hl => ?_) hf) hn
  rw [st_rest hs (by omega)]
  have := (den_bd hs).2.2.2.2.1
  have p0 : 0 ≤ ri * ru := Int.mul_nonneg hs.r0 (by have := hs.u0; omega)
  have := Int.mul_nonneg (show 0 ≤ m + l by omega) p0
  rw [num_assoc]
  exact Int.ediv_nonneg (by omega) (by omega)
/-- up to as steep as 1, a steeper slope never makes a profile stable -/
theorem stb_steep {m ri rj ru d t : Int} {xs : List Lay} (hf : ∀ x ∈ xs, La.Fits x) (hs : Slo ri ru) (hs' : Slo rj ru) (hd0 : 0 ≤ d) (hd1 : d ≤ 1000) (h0 : 0 ≤ m) (h : ri ≤ rj) (h2 : rj ≤ ru) (hn : stb m rj ru d t xs = true) : stb m ri ru d t xs = true := by
  refine ok_mono (by rw [ixs_length, ixs_length]) (ixs_anti hd0 hd1 (fun l hl => st_steep hs hs' (by omega) h h2) (fun l hl => ?_) hf) hn
  rw [st_rest hs (by omega)]
  have := (den_bd hs).2.2.2.2.1
  have p0 : 0 ≤ ri * ru := Int.mul_nonneg hs.r0 (by have := hs.u0; omega)
  have := Int.mul_nonneg (show 0 ≤ m + l by omega) p0
  rw [num_assoc]
  exact Int.ediv_nonneg (by omega) (by omega)
/-- without a rise every profile is stable -/
theorem stb_flat {ru d t : Int} {xs : List Lay} (hf : ∀ x ∈ xs, La.Fits x) (hu0 : 1 ≤ ru) (hu1 : ru ≤ 1000) (ht : t ≤ 1000000) : stb 0 0 ru d t xs = true := by
  unfold stb
  rw [ok_iff]
  have hs : Slo 0 ru := ⟨Int.le_refl _, by omega, hu0, hu1⟩
  induction xs with
  | nil => intro z hz; cases hz
  | cons x xs ih =>
    intro z hz
    have hp : 0 ≤ La.sm La.mass xs := (La.sm_bd (f := La.mass) (m := 2000000) (fun y hy => mass_nn (hf y (List.mem_cons_of_mem _ hy)))).1
    rw [ixs, List.mem_cons] at hz
    rcases hz with rfl | hz
    · rw [st_flat hs (by omega)]; unfold ixl; rw [if_pos rfl]; exact ht
    · exact ih (fun y hy => hf y (List.mem_cons_of_mem _ hy)) z hz

/-- the first place below n at which p holds; n if there is none -/
def frst (p : Nat → Bool) : Nat → Nat
  | 0 => 0
  | n + 1 => if frst p n < n then frst p n else if p n then n else n + 1
theorem frst_le (p : Nat → Bool) : ∀ n, frst p n ≤ n
  | 0 => Nat.le_refl _
  | n + 1 => by
    have := frst_le p n
    unfold frst
    split
    · omega
    · split <;> omega
theorem frst_uniq {p : Nat → Bool} : ∀ {n k : Nat}, k ≤ n → (∀ a, a < k → p a = false) → (k < n → p k = true) → frst p n = k
  | 0, k, h, _, _ => by unfold frst; omega
  | n + 1, k, h, h1, h2 => by
    unfold frst
    by_cases hk : k = n + 1
    · have e := frst_uniq (p := p) (n := n) (k := n) (Nat.le_refl _) (fun a ha => h1 a (by omega)) (fun h => absurd h (Nat.lt_irrefl _))
      rw [e, if_neg (Nat.lt_irrefl _), if_neg (by rw [h1 n (by omega)]; decide)]; omega
    · by_cases hn : k = n
      · have e := frst_uniq (p := p) (n := n) (k := n) (Nat.le_refl _) (fun a ha => h1 a (by omega)) (fun h => absurd h (Nat.lt_irrefl _))
        rw [e, if_neg (Nat.lt_irrefl _), if_pos (by rw [← hn]; exact h2 (by omega))]; omega
      · have e := frst_uniq (p := p) (n := n) (k := k) (by omega) h1 (fun g => h2 (by omega))
        rw [e, if_pos (by omega)]
/-- the weakest layer so far, and its index -/
def Wp (zs : List Int) (best least : Int) : Prop := (zs = [] ∧ best = -1 ∧ least = 0) ∨ ∃ b : Nat, Wk zs b ∧ best = (b : Int) ∧ least = zs.getD b 0
theorem Wp.none : Wp [] (-1) 0 := Or.inl ⟨rfl, rfl, rfl⟩
theorem Wp.keep {zs : List Int} {best least z : Int} (h : Wp zs best least) (h1 : ¬ best < 0) (h2 : ¬ z < least) : Wp (zs ++ [z]) best least := by
  rcases h with ⟨rfl, rfl, rfl⟩ | ⟨b, hb, rfl, rfl⟩
  · omega
  · exact Or.inr ⟨b, hb.snoc_old h2, rfl, by
      have hl := hb.lt
      simp [List.getD_eq_getElem?_getD, List.getElem?_append_left hl]⟩
theorem Wp.new {zs : List Int} {best least z : Int} (h : Wp zs best least) (h1 : best < 0 ∨ z < least) : Wp (zs ++ [z]) (zs.length : Int) z := by
  have e2 : z = (zs ++ [z]).getD zs.length 0 := by simp [List.getD_eq_getElem?_getD]
  rcases h with ⟨rfl, rfl, rfl⟩ | ⟨b, hb, rfl, rfl⟩
  · exact Or.inr ⟨0, Wk.one z, rfl, rfl⟩
  · exact Or.inr ⟨zs.length, hb.snoc_new (by omega), rfl, e2⟩
def wkB (zs : List Int) : Int := if zs = [] then -1 else (wk zs : Int)
def wkL (zs : List Int) : Int := zs.getD (wk zs) 0
theorem Wp.fin {zs : List Int} {best least : Int} (h : Wp zs best least) : best = wkB zs ∧ least = wkL zs := by
  unfold wkB wkL
  rcases h with ⟨rfl, rfl, rfl⟩ | ⟨b, hb, rfl, rfl⟩
  · exact ⟨rfl, rfl⟩
  · have hz : zs ≠ [] := by intro e; subst e; exact absurd hb.lt (Nat.not_lt_zero _)
    rw [if_neg hz, ← hb.uniq (wk_is zs hz)]; exact ⟨rfl, rfl⟩
theorem wkB_neg {zs : List Int} : wkB zs < 0 ↔ zs = [] := by
  unfold wkB; split <;> rename_i h
  · simp [h]
  · simp only [h, iff_false]; omega
theorem ok_wkL (t : Int) (zs : List Int) : ok t zs = (decide (wkB zs < 0) || decide (t ≤ wkL zs)) := by
  by_cases h : zs = []
  · subst h; rfl
  · have hn : decide (wkB zs < 0) = false := decide_eq_false (by rw [wkB_neg]; exact h)
    rw [ok_wk (wk_is zs h), hn, Bool.false_or]; rfl

/-- the code of a question about a profile on a slope -/
def slo (ri ru : Int) : Bool := Ar.inB 0 ri 1000 && Ar.inB 1 ru 1000
theorem slo_iff {ri ru : Int} : slo ri ru = true ↔ Slo ri ru := by
  unfold slo
  rw [Bool.and_eq_true, La.inB_iff, La.inB_iff]
  exact ⟨fun ⟨a, b⟩ => ⟨a.1, a.2, b.1, b.2⟩, fun h => ⟨⟨h.r0, h.r1⟩, h.u0, h.u1⟩⟩
def sd (ri ru d : Int) : Bool := slo ri ru && Ar.inB 0 d 1000
def lim (t : Int) : Bool := Ar.inB 0 t 1000000
/-- 0, 1 invalid, 2 out of range -/
def cd (v s : Bool) : Int := if v then (if s then 0 else 2) else 1
structure Fine (xs : List Lay) (ri ru d : Int) : Prop where
  okp : La.okP xs = true
  slo : Slo ri ru
  d0 : 0 ≤ d
  d1 : d ≤ 1000
theorem fine {xs : List Lay} {ri ru d : Int} (h : La.okP xs = true) (h' : sd ri ru d = true) : Fine xs ri ru d := by
  unfold sd at h'
  rw [Bool.and_eq_true, slo_iff, La.inB_iff] at h'
  exact ⟨h, h'.1, h'.2.1, h'.2.2⟩
theorem Fine.fits {xs : List Lay} {ri ru d : Int} (h : Fine xs ri ru d) : ∀ x ∈ xs, La.Fits x := ((La.okP_iff xs).1 h.okp).2
theorem Fine.len {xs : List Lay} {ri ru d : Int} (h : Fine xs ri ru d) : xs.length ≤ 16 := ((La.okP_iff xs).1 h.okp).1
/-- StressAt -/
def sa (xs : List Lay) (k : Int) (ri ru : Int) : Int × Int :=
  if La.okP xs = true then (if Ar.inB 0 k (xs.length - 1) = true ∧ slo ri ru = true then (st (La.sm La.mass (xs.drop (k.toNat + 1))) ri ru, 0) else (0, 2)) else (0, 1)
theorem sa_1 {xs : List Lay} {k ri ru : Int} (h : La.okP xs = false) : sa xs k ri ru = (0, 1) := by unfold sa; rw [h]; rfl
theorem sa_2 {xs : List Lay} {k ri ru : Int} (h : La.okP xs = true) (h' : Ar.inB 0 k (xs.length - 1) = false ∨ slo ri ru = false) : sa xs k ri ru = (0, 2) := by
  unfold sa; rw [if_pos h, if_neg (by rintro ⟨a, b⟩; rcases h' with g | g; (rw [g] at a; cases a); (rw [g] at b; cases b))]
theorem sa_0 {xs : List Lay} {k : Nat} {ri ru : Int} (h : La.okP xs = true) (h' : Ar.inB 0 (k : Int) (xs.length - 1) = true) (h'' : slo ri ru = true) : sa xs k ri ru = (st (La.sm La.mass (xs.drop (k + 1))) ri ru, 0) := by
  unfold sa; rw [if_pos h, if_pos ⟨h', h''⟩]; rfl
/-- StrengthBounds -/
def sg (x : Lay) (d : Int) : Int × Int × Int := if La.okL x = true then (if Ar.inB 0 d 1000 = true then (lo x d, hi x d, 0) else (0, 0, 2)) else (0, 0, 1)
theorem sg_1 {x : Lay} {d : Int} (h : La.okL x = false) : sg x d = (0, 0, 1) := by unfold sg; rw [h]; rfl
theorem sg_2 {x : Lay} {d : Int} (h : La.okL x = true) (h' : Ar.inB 0 d 1000 = false) : sg x d = (0, 0, 2) := by unfold sg; rw [h, h']; rfl
theorem sg_0 {x : Lay} {d : Int} (h : La.okL x = true) (h' : Ar.inB 0 d 1000 = true) : sg x d = (lo x d, hi x d, 0) := by unfold sg; rw [h, h']; rfl
/-- IndexBounds -/
def ixH (m ri ru d : Int) (xs : List Lay) (k : Nat) (x : Lay) : Int := ixh (st (m + La.sm La.mass (xs.drop (k + 1))) ri ru) (hi x d)
def nth (xs : List Lay) (k : Nat) : Lay := xs.getD k ⟨0, 0, 0, 0, 0, 0, 0⟩
theorem nth_at {xs : List Lay} {k : Nat} (h : k < xs.length) : nth xs k = xs[k] := by unfold nth; rw [List.getD_eq_getElem?_getD, List.getElem?_eq_getElem h]; rfl
def ib (xs : List Lay) (k : Int) (ri ru d : Int) : Int × Int × Int :=
  if La.okP xs = true then (if Ar.inB 0 k (xs.length - 1) = true ∧ sd ri ru d = true then (ix 0 ri ru d xs k.toNat (nth xs k.toNat), ixH 0 ri ru d xs k.toNat (nth xs k.toNat), 0) else (0, 0, 2)) else (0, 0, 1)
theorem ib_1 {xs : List Lay} {k ri ru d : Int} (h : La.okP xs = false) : ib xs k ri ru d = (0, 0, 1) := by unfold ib; rw [h]; rfl
theorem ib_2 {xs : List Lay} {k ri ru d : Int} (h : La.okP xs = true) (h' : Ar.inB 0 k (xs.length - 1) = false ∨ sd ri ru d = false) : ib xs k ri ru d = (0, 0, 2) := by
  unfold ib; rw [if_pos h, if_neg (by rintro ⟨a, b⟩; rcases h' with g | g; (rw [g] at a; cases a); (rw [g] at b; cases b))]
theorem ib_0 {xs : List Lay} {k : Nat} {ri ru d : Int} (h : La.okP xs = true) (hk : k < xs.length) (h' : Ar.inB 0 (k : Int) (xs.length - 1) = true) (h'' : sd ri ru d = true) : ib xs k ri ru d = (ix 0 ri ru d xs k xs[k], ixH 0 ri ru d xs k xs[k], 0) := by
  unfold ib; rw [if_pos h, if_pos ⟨h', h''⟩, Int.toNat_natCast, nth_at hk]
/-- WeakestLayer -/
def wl (xs : List Lay) (ri ru d : Int) : Int × Int × Int :=
  if La.okP xs = true then (if sd ri ru d = true then (if xs = [] then (0, 0, 3) else (wkB (ixs 0 ri ru d xs), wkL (ixs 0 ri ru d xs), 0)) else (0, 0, 2)) else (0, 0, 1)
theorem wl_1 {xs : List Lay} {ri ru d : Int} (h : La.okP xs = false) : wl xs ri ru d = (0, 0, 1) := by unfold wl; rw [h]; rfl
theorem wl_2 {xs : List Lay} {ri ru d : Int} (h : La.okP xs = true) (h' : sd ri ru d = false) : wl xs ri ru d = (0, 0, 2) := by unfold wl; rw [h, h']; rfl
theorem wl_3 {ri ru d : Int} (h' : sd ri ru d = true) : wl [] ri ru d = (0, 0, 3) := by unfold wl; rw [h']; rfl
theorem wl_0 {xs : List Lay} {ri ru d : Int} (h : La.okP xs = true) (h' : sd ri ru d = true) (h3 : xs ≠ []) : wl xs ri ru d = (wkB (ixs 0 ri ru d xs), wkL (ixs 0 ri ru d xs), 0) := by
  unfold wl; rw [if_pos h, if_pos h', if_neg h3]
/-- SlabOf -/
def sb (xs : List Lay) (ri ru d : Int) : Int × Int := if (wl xs ri ru d).2.2 = 0 then (La.sm La.thick (xs.drop ((wl xs ri ru d).1.toNat + 1)), 0) else (0, (wl xs ri ru d).2.2)
/-- IsStable -/
def iss (xs : List Lay) (ri ru d t : Int) : Bool := La.okP xs && sd ri ru d && lim t && stb 0 ri ru d t xs
/-- MoreLoad: the codes are 6 for a state, 3 for nothing found -/
def ml (xs : List Lay) (ri ru d t : Int) : Int × Int :=
  if La.okP xs = true then (if sd ri ru d = true ∧ lim t = true then
    (if frst (fun m => !stb m ri ru d t xs) 1000001 = 0 then (0, 6) else if 1000000 < frst (fun m => !stb m ri ru d t xs) 1000001 then (0, 3) else ((frst (fun m => !stb m ri ru d t xs) 1000001 : Nat), 0)) else (0, 2)) else (0, 1)
theorem ml_1 {xs : List Lay} {ri ru d t : Int} (h : La.okP xs = false) : ml xs ri ru d t = (0, 1) := by unfold ml; rw [h]; rfl
theorem ml_2 {xs : List Lay} {ri ru d t : Int} (h : La.okP xs = true) (h' : sd ri ru d = false ∨ lim t = false) : ml xs ri ru d t = (0, 2) := by
  unfold ml; rw [if_pos h, if_neg (by rintro ⟨a, b⟩; rcases h' with g | g; (rw [g] at a; cases a); (rw [g] at b; cases b))]
theorem ml_at {xs : List Lay} {ri ru d t : Int} {k : Nat} (h : La.okP xs = true) (h' : sd ri ru d = true) (h'' : lim t = true) (hk : frst (fun m => !stb m ri ru d t xs) 1000001 = k) : ml xs ri ru d t = if k = 0 then (0, 6) else if 1000000 < k then (0, 3) else ((k : Int), 0) := by
  unfold ml; rw [if_pos h, if_pos ⟨h', h''⟩, hk]
/-- SteepestFor -/
def sf (xs : List Lay) (ru d t : Int) : Int × Int :=
  if La.okP xs = true then (if sd 0 ru d = true ∧ lim t = true then ((frst (fun m => !stb 0 m ru d t xs) (ru.toNat + 1) : Int) - 1, 0) else (0, 2)) else (0, 1)
theorem sf_1 {xs : List Lay} {ru d t : Int} (h : La.okP xs = false) : sf xs ru d t = (0, 1) := by unfold sf; rw [h]; rfl
theorem sf_2 {xs : List Lay} {ru d t : Int} (h : La.okP xs = true) (h' : sd 0 ru d = false ∨ lim t = false) : sf xs ru d t = (0, 2) := by
  unfold sf; rw [if_pos h, if_neg (by rintro ⟨a, b⟩; rcases h' with g | g; (rw [g] at a; cases a); (rw [g] at b; cases b))]
theorem sf_at {xs : List Lay} {ru d t : Int} {k : Nat} (h : La.okP xs = true) (h' : sd 0 ru d = true) (h'' : lim t = true) (hk : frst (fun m => !stb 0 m ru d t xs) (ru.toNat + 1) = k) : sf xs ru d t = ((k : Int) - 1, 0) := by
  unfold sf; rw [if_pos h, if_pos ⟨h', h''⟩, hk]
/-- with more load, once unstable, always unstable -/
theorem fails_mono {xs : List Lay} {ri ru d t : Int} (hf : Fine xs ri ru d) {a b : Nat} (h : a ≤ b) (ha : (!stb a ri ru d t xs) = true) : (!stb b ri ru d t xs) = true := by
  cases hb : stb b ri ru d t xs with
  | false => rfl
  | true =>
    have := stb_load hf.fits hf.slo hf.d0 hf.d1 (Int.natCast_nonneg a) (by omega) hb
    rw [this] at ha; cases ha
theorem steep_mono {xs : List Lay} {ru d t : Int} (hf : Fine xs 0 ru d) {a b : Nat} (h : a ≤ b) (hb : b < ru.toNat + 1) (ha : (!stb 0 a ru d t xs) = true) : (!stb 0 b ru d t xs) = true := by
  have u0 := hf.slo.u0; have u1 := hf.slo.u1
  cases h' : stb 0 b ru d t xs with
  | false => rfl
  | true =>
    have := stb_steep hf.fits (ri := a) (rj := b) ⟨by omega, by omega, u0, u1⟩ ⟨by omega, by omega, u0, u1⟩ hf.d0 hf.d1 (Int.le_refl 0) (by omega) (by omega) h'
    rw [this] at ha; cases ha
theorem ml_found {xs : List Lay} {ri ru d t : Int} {k : Nat} (h : La.okP xs = true) (h' : sd ri ru d = true) (h'' : lim t = true) (k1 : 1 ≤ k) (k2 : k ≤ 1000000) (hl : ∀ a : Nat, a < k → (!stb a ri ru d t xs) = false) (hk : (!stb k ri ru d t xs) = true) : ml xs ri ru d t = ((k : Int), 0) := by
  rw [ml_at h h' h'' (frst_uniq (p := fun m => !stb m ri ru d t xs) (n := 1000001) (k := k) (by omega) hl (fun _ => hk)), if_neg (by omega), if_neg (by omega)]
theorem ml_state {xs : List Lay} {ri ru d t : Int} (h : La.okP xs = true) (h' : sd ri ru d = true) (h'' : lim t = true) (hk : stb 0 ri ru d t xs = false) : ml xs ri ru d t = (0, 6) := by
  rw [ml_at h h' h'' (frst_uniq (p := fun m => !stb m ri ru d t xs) (n := 1000001) (k := 0) (by omega) (fun a ha => absurd ha (Nat.not_lt_zero _)) (fun _ => by show (!stb (((0 : Nat)) : Int) ri ru d t xs) = true; rw [show (((0 : Nat)) : Int) = 0 from rfl, hk]; rfl)), if_pos rfl]
theorem ml_none {xs : List Lay} {ri ru d t : Int} (h : La.okP xs = true) (h' : sd ri ru d = true) (h'' : lim t = true) (hk : stb 1000000 ri ru d t xs = true) : ml xs ri ru d t = (0, 3) := by
  have hf := fine h h'
  rw [ml_at h h' h'' (frst_uniq (p := fun m => !stb m ri ru d t xs) (n := 1000001) (k := 1000001) (by omega) (fun a ha => by
    show (!stb a ri ru d t xs) = false
    rw [stb_load hf.fits hf.slo hf.d0 hf.d1 (Int.natCast_nonneg a) (by omega) hk]; rfl) (fun hh => absurd hh (by omega))), if_neg (by omega), if_pos (by omega)]
/-- by the place that a search finds -/
theorem ml_search {xs : List Lay} {ri ru d t : Int} {k : Nat} (h : La.okP xs = true) (h' : sd ri ru d = true) (h'' : lim t = true) (k2 : k ≤ 1000001) (hl : ∀ a : Nat, a < k → (!stb a ri ru d t xs) = false) (hk : ∀ a : Nat, k ≤ a → a < 1000001 → (!stb a ri ru d t xs) = true) :
    ml xs ri ru d t = if k = 0 then (0, 6) else if 1000000 < k then (0, 3) else ((k : Int), 0) :=
  ml_at h h' h'' (frst_uniq (p := fun m => !stb m ri ru d t xs) (n := 1000001) (k := k) k2 hl (fun hh => hk k (Nat.le_refl _) hh))
theorem sf_found {xs : List Lay} {ru d t : Int} {j : Nat} (h : La.okP xs = true) (h' : sd 0 ru d = true) (h'' : lim t = true) (hj : j < ru.toNat + 1) (hs : stb 0 j ru d t xs = true) (hk : ∀ a : Nat, j + 1 ≤ a → a < ru.toNat + 1 → (!stb 0 a ru d t xs) = true) : sf xs ru d t = ((j : Int), 0) := by
  have hf := fine h h'
  rw [sf_at h h' h'' (frst_uniq (p := fun m => !stb 0 m ru d t xs) (n := ru.toNat + 1) (k := j + 1) (by omega) (fun a ha => by
    show (!stb 0 a ru d t xs) = false
    cases hb : (!stb 0 a ru d t xs) with
    | false => rfl
    | true => have := steep_mono hf (show a ≤ j by omega) hj hb; rw [hs] at this; cases this) (fun hh => hk (j + 1) (Nat.le_refl _) hh))]
  rw [show ((j + 1 : Nat) : Int) - 1 = j by omega]
theorem sf_search {xs : List Lay} {ru d t : Int} {k : Nat} (h : La.okP xs = true) (h' : sd 0 ru d = true) (h'' : lim t = true) (k2 : k ≤ ru.toNat + 1) (hl : ∀ a : Nat, a < k → (!stb 0 a ru d t xs) = false) (hk : ∀ a : Nat, k ≤ a → a < ru.toNat + 1 → (!stb 0 a ru d t xs) = true) : sf xs ru d t = ((k : Int) - 1, 0) :=
  sf_at h h' h'' (frst_uniq (p := fun m => !stb 0 m ru d t xs) (n := ru.toNat + 1) (k := k) k2 hl (fun hh => hk k (Nat.le_refl _) hh))
theorem sf_some {xs : List Lay} {ru d t : Int} (h : La.okP xs = true) (h' : sd 0 ru d = true) (h'' : lim t = true) : stb 0 0 ru d t xs = true := by
  have hf := fine h h'
  exact stb_flat hf.fits hf.slo.u0 hf.slo.u1 (La.inB_iff.1 h'').2
theorem sb_0 {xs : List Lay} {ri ru d : Int} (h : La.okP xs = true) (h' : sd ri ru d = true) (h3 : xs ≠ []) : sb xs ri ru d = (La.sm La.thick (xs.drop ((wkB (ixs 0 ri ru d xs)).toNat + 1)), 0) := by
  unfold sb; rw [wl_0 h h' h3]; rfl
theorem sb_c {xs : List Lay} {ri ru d a b c : Int} (h : wl xs ri ru d = (a, b, c)) (hc : c ≠ 0) : sb xs ri ru d = (0, c) := by
  unfold sb; rw [h, if_neg hc]
theorem ixs_nil {m ri ru d : Int} {xs : List Lay} : ixs m ri ru d xs = [] ↔ xs = [] := by cases xs <;> simp [ixs]
theorem wkB_at {m ri ru d : Int} {xs : List Lay} (h : xs ≠ []) : ∃ k : Nat, wkB (ixs m ri ru d xs) = (k : Int) ∧ k < xs.length := by
  have h2 : ixs m ri ru d xs ≠ [] := by rw [Ne, ixs_nil]; exact h
  refine ⟨wk (ixs m ri ru d xs), by unfold wkB; rw [if_neg h2], ?_⟩
  have := (wk_is _ h2).lt
  rwa [ixs_length] at this
/-- the place of the least number, found from the front -/
theorem wk_first {zs : List Int} {k : Nat} (hn : zs ≠ []) (hk : k < zs.length) (he : zs[k] = wkL zs) (hb : ∀ j (hj : j < zs.length), j < k → zs[j] ≠ wkL zs) : (k : Int) = wkB zs := by
  have W := wk_is zs hn
  have g : ∀ j (hj : j < zs.length), zs.getD j 0 = zs[j] := fun j hj => by rw [List.getD_eq_getElem?_getD, List.getElem?_eq_getElem hj]; rfl
  unfold wkB; rw [if_neg hn]
  rcases Nat.lt_trichotomy k (wk zs) with h | h | h
  · have := W.first k h
    rw [g k hk, he] at this
    unfold wkL at this; omega
  · rw [h]
  · exact absurd (show zs[wk zs]'W.lt = wkL zs by rw [← g _ W.lt]; rfl) (hb _ W.lt h)
theorem wk_there {zs : List Int} (hn : zs ≠ []) (hb : ∀ j (hj : j < zs.length), zs[j] ≠ wkL zs) : False := by
  have W := wk_is zs hn
  refine hb _ W.lt ?_
  have : zs.getD (wk zs) 0 = zs[wk zs]'W.lt := by rw [List.getD_eq_getElem?_getD, List.getElem?_eq_getElem W.lt]; rfl
  rw [← this]; rfl
end Go.Proofs.YtaldmdammipfjaaDoor.Sb
