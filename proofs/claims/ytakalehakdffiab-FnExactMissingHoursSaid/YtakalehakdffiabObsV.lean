import Derived.Test.YtakalehakdffiabObs
/-
  Plain mathematics of chapter 4: when observations are valid, and what the questions answer. No Go in sight.
-/
namespace Go.Proofs.Ytakalehakdffiab

/-- the one thing of which R holds -/
noncomputable def the {α : Type} (d : α) (R : α → Prop) : α := by
  classical
  exact if h : ∃ a, R a then h.choose else d
theorem the_eq {α : Type} {d : α} {R : α → Prop} {a : α} (h : R a) (u : ∀ b, R b → b = a) : the d R = a := by
  unfold the
  have H : ∃ a, R a := ⟨a, h⟩
  rw [dif_pos H]
  exact u _ H.choose_spec

namespace Ob
theorem inB_iff {l x h : Int} : Ar.inB l x h = true ↔ l ≤ x ∧ x ≤ h := by unfold Ar.inB; simp
def okO (x : Obs) : Bool := Ar.inB 0 x.ho 100000 && Ar.inB 0 x.sn 2000 && Ar.inB (-5000) x.dg 5000 && Ar.inB 0 x.wi 10000
structure Fits (x : Obs) : Prop where
  h1 : 0 ≤ x.ho
  h2 : x.ho ≤ 100000
  s1 : 0 ≤ x.sn
  s2 : x.sn ≤ 2000
  d1 : -5000 ≤ x.dg
  d2 : x.dg ≤ 5000
  w1 : 0 ≤ x.wi
  w2 : x.wi ≤ 10000
theorem okO_iff (x : Obs) : okO x = true ↔ Fits x := by
  unfold okO
  simp only [Bool.and_eq_true, inB_iff]
  exact ⟨fun ⟨⟨⟨a, b⟩, c⟩, d⟩ => ⟨a.1, a.2, b.1, b.2, c.1, c.2, d.1, d.2⟩, fun h => ⟨⟨⟨⟨h.h1, h.h2⟩, h.s1, h.s2⟩, h.d1, h.d2⟩, h.w1, h.w2⟩⟩
theorem okO_0 {x : Obs} (h : Ar.inB 0 x.ho 100000 = false) : okO x = false := by unfold okO; rw [h]; simp
theorem okO_1 {x : Obs} (h : Ar.inB 0 x.sn 2000 = false) : okO x = false := by unfold okO; rw [h]; simp
theorem okO_2 {x : Obs} (h : Ar.inB (-5000) x.dg 5000 = false) : okO x = false := by unfold okO; rw [h]; simp
theorem okO_3 {x : Obs} (h : Ar.inB 0 x.wi 10000 = false) : okO x = false := by unfold okO; rw [h]; simp
theorem okO_t {x : Obs} (h0 : Ar.inB 0 x.ho 100000 = true) (h1 : Ar.inB 0 x.sn 2000 = true) (h2 : Ar.inB (-5000) x.dg 5000 = true) : okO x = Ar.inB 0 x.wi 10000 := by unfold okO; rw [h0, h1, h2]; simp
theorem nt {b : Bool} (h : ¬ b = true) : b = false := by simpa using h
theorem nb {b : Bool} (h : (!b) = true) : b = false := by simpa using h
theorem nb' {b : Bool} (h : (!b) = false) : b = true := by simpa using h
/-- strictly increasing hours, the first one behind p -/
def up : Int → List Obs → Bool
  | _, [] => true
  | p, x :: xs => decide (p < x.ho) && up x.ho xs
/-- the last hour -/
def la : Int → List Obs → Int
  | p, [] => p
  | _, x :: xs => la x.ho xs
theorem la_app (p : Int) (xs : List Obs) (x : Obs) : la p (xs ++ [x]) = x.ho := by
  induction xs generalizing p with
  | nil => rfl
  | cons y ys ih => rw [List.cons_append, la]; exact ih _
theorem up_app (p : Int) (xs : List Obs) (x : Obs) : up p (xs ++ [x]) = (up p xs && decide (la p xs < x.ho)) := by
  induction xs generalizing p with
  | nil => rw [List.nil_append, up, up, up, la, Bool.and_true, Bool.true_and]
  | cons y ys ih => rw [List.cons_append, up, up, la, ih, Bool.and_assoc]
theorem up_gt {p : Int} {xs : List Obs} (h : up p xs = true) {i : Nat} (hi : i < xs.length) : p < xs[i].ho := by
  induction xs generalizing p i with
  | nil => cases hi
  | cons y ys ih =>
    rw [up, Bool.and_eq_true, decide_eq_true_eq] at h
    cases i with
    | zero => exact h.1
    | succ i => have := ih h.2 (show i < ys.length by simpa using hi); rw [List.getElem_cons_succ]; omega
theorem up_lt {p : Int} {xs : List Obs} (h : up p xs = true) {i j : Nat} (hij : i < j) (hj : j < xs.length) : (xs[i]'(by omega)).ho < xs[j].ho := by
  induction xs generalizing p i j with
  | nil => cases hj
  | cons y ys ih =>
    rw [up, Bool.and_eq_true, decide_eq_true_eq] at h
    cases j with
    | zero => omega
    | succ j =>
      cases i with
      | zero => exact up_gt h.2 (show j < ys.length by simpa using hj)
      | succ i => exact ih h.2 (show i < j by omega) (show j < ys.length by simpa using hj)
theorem up_mk {p : Int} {xs : List Obs} (h0 : ∀ x ∈ xs, p < x.ho) (h : ∀ i (hi : i + 1 < xs.length), (xs[i]'(by omega)).ho < xs[i + 1].ho) : up p xs = true := by
  induction xs generalizing p with
  | nil => rfl
  | cons y ys ih =>
    have hy := h0 y (List.mem_cons_self ..)
    rw [up, Bool.and_eq_true, decide_eq_true_eq]
    refine ⟨hy, ih ?_ ?_⟩
    · intro x hx
      obtain ⟨i, hi, rfl⟩ := List.getElem_of_mem hx
      clear hx
      induction i with
      | zero => exact h 0 (by simpa using hi)
      | succ i ih2 =>
        have := ih2 (by omega)
        have h2 := h (i + 1) (by simp; omega)
        simp only [List.getElem_cons_succ] at h2
        omega
    · intro i hi
      have := h (i + 1) (by simp; omega)
      simpa using this
theorem la_take {xs : List Obs} {k : Nat} (p : Int) (h : k < xs.length) : la p (xs.take (k + 1)) = xs[k].ho := by
  rw [List.take_succ_eq_append_getElem h, la_app]
theorem up_snoc {xs : List Obs} {k : Nat} {p : Int} (h : k < xs.length) (hp : up p (xs.take k) = true) (hl : la p (xs.take k) < xs[k].ho) : up p (xs.take (k + 1)) = true := by
  rw [List.take_succ_eq_append_getElem h, up_app, hp]; simpa using hl
/-- are observations valid? -/
def okS (xs : List Obs) : Bool := decide (xs.length ≤ 48) && (xs.all okO && up (-1) xs)
theorem okS_iff (xs : List Obs) : okS xs = true ↔ xs.length ≤ 48 ∧ (∀ x ∈ xs, Fits x) ∧ up (-1) xs = true := by
  unfold okS
  simp only [Bool.and_eq_true, decide_eq_true_eq, List.all_eq_true, okO_iff]
theorem okS_long {xs : List Obs} (h : 48 < xs.length) : okS xs = false := by unfold okS; rw [decide_eq_false (by omega)]; rfl
theorem okS_bad {xs : List Obs} {k : Nat} (h : k < xs.length) (hb : okO xs[k] = false) : okS xs = false := by
  rw [Bool.eq_false_iff]; intro hc
  have := (okO_iff _).2 (((okS_iff xs).1 hc).2.1 _ (List.getElem_mem h))
  rw [hb] at this; cases this
theorem okS_turn {xs : List Obs} {k : Nat} (h0 : 0 < k) (h : k < xs.length) (hb : xs[k].ho ≤ (xs[k - 1]'(by omega)).ho) : okS xs = false := by
  rw [Bool.eq_false_iff]; intro hc
  have := up_lt ((okS_iff xs).1 hc).2.2 (show k - 1 < k by omega) h
  omega
theorem okS_all {xs : List Obs} (h : (xs.take xs.length).all okO = true) (hu : up (-1) (xs.take xs.length) = true) : okS xs = decide (xs.length ≤ 48) := by
  rw [List.take_length] at h hu; unfold okS; rw [h, hu]; simp
theorem all_snoc {xs : List Obs} {k : Nat} (h : k < xs.length) (hp : (xs.take k).all okO = true) (hx : okO xs[k] = true) : (xs.take (k + 1)).all okO = true := by
  rw [List.take_succ_eq_append_getElem h, List.all_append, hp]; simp [hx]
theorem fits_at {xs : List Obs} (h : okS xs = true) {k : Nat} (hk : k < xs.length) : Fits xs[k] := ((okS_iff xs).1 h).2.1 _ (List.getElem_mem hk)
theorem lt_at {xs : List Obs} (h : okS xs = true) {i j : Nat} (hij : i < j) (hj : j < xs.length) : (xs[i]'(by omega)).ho < xs[j].ho := up_lt ((okS_iff xs).1 h).2.2 hij hj
theorem len_ok {xs : List Obs} (h : okS xs = true) : xs.length ≤ 48 := ((okS_iff xs).1 h).1

/-- a test of what is given, and its code: 1 the observations, 2 the numbers -/
def cd (a b : Bool) (c : Int) : Int := if a then (if b then c else 2) else 1
def vl (a b : Bool) (v : Int) : Int := if a then (if b then v else 0) else 0
def ls {α : Type} (a b : Bool) (l : List α) : List α := if a then (if b then l else []) else []
theorem cd_t (c : Int) : cd true true c = c := rfl
theorem cd_f (b : Bool) (c : Int) : cd false b c = 1 := rfl
theorem cd_tf (c : Int) : cd true false c = 2 := rfl
theorem vl_t (c : Int) : vl true true c = c := rfl
theorem vl_f (b : Bool) (c : Int) : vl false b c = 0 := rfl
theorem vl_tf (c : Int) : vl true false c = 0 := rfl

/-- how many have at least that wind -/
def windy (m : Int) (xs : List Obs) : Int := sm (fun x => if m ≤ x.wi then 1 else 0) xs
theorem sm_bds {f : Obs → Int} {l m : Int} {xs : List Obs} (h : ∀ x ∈ xs, l ≤ f x ∧ f x ≤ m) : l * xs.length ≤ sm f xs ∧ sm f xs ≤ m * xs.length := by
  induction xs with
  | nil => simp [sm]
  | cons x xs ih =>
    have := ih (fun y hy => h y (List.mem_cons_of_mem _ hy))
    have := h x (List.mem_cons_self ..)
    rw [sm_cons, List.length_cons, Int.natCast_add, Int.mul_add, Int.mul_add]
    omega
/-- the height of snow at an hour -/
structure SnowIs (xs : List Obs) (h : Int) (r : Int × Int) : Prop where
  is : (∃ (i : Nat) (hi : i < xs.length), xs[i].ho = h ∧ r = (xs[i].sn, 0)) ∨
    (∃ (i : Nat) (hi : i + 1 < xs.length), (xs[i]'(by omega)).ho < h ∧ h < xs[i + 1].ho ∧ r = (Ar.line (xs[i]'(by omega)).ho (xs[i]'(by omega)).sn xs[i + 1].ho xs[i + 1].sn h, 0)) ∨
    (((∀ (j : Nat) (hj : j < xs.length), h < xs[j].ho) ∨ ∀ (j : Nat) (hj : j < xs.length), xs[j].ho < h) ∧ r = (0, 3))
noncomputable def snow (xs : List Obs) (h : Int) : Int × Int := the (0, 0) (SnowIs xs h)
theorem snow_eq {xs : List Obs} {h : Int} {r : Int × Int} (ho : okS xs = true) (H : SnowIs xs h r) : snow xs h = r := by
  refine the_eq H (fun r' H' => ?_)
  have L : ∀ {i j : Nat} (hij : i < j) (hj : j < xs.length), (xs[i]'(by omega)).ho < xs[j].ho := fun hij hj => lt_at ho hij hj
  rcases H.is with ⟨i, hi, e, rfl⟩ | ⟨i, hi, e1, e2, rfl⟩ | ⟨e, rfl⟩ <;> rcases H'.is with ⟨i', hi', e', rfl⟩ | ⟨i', hi', e1', e2', rfl⟩ | ⟨e', rfl⟩
  · rcases Nat.lt_trichotomy i i' with h | h | h
    · have := L h hi'; omega
    · subst h; rfl
    · have := L h hi; omega
  · rcases Nat.lt_or_ge i (i' + 1) with h | h
    · rcases Nat.lt_or_ge i i' with h2 | h2
      · have := L h2 (by omega); omega
      · obtain rfl : i = i' := by omega
        omega
    · rcases Nat.lt_or_ge (i' + 1) i with h2 | h2
      · have := L h2 hi; omega
      · obtain rfl : i = i' + 1 := by omega
        omega
  · rcases e' with e' | e' <;> (have := e' i hi; omega)
  · rcases Nat.lt_or_ge i' (i + 1) with h | h
    · rcases Nat.lt_or_ge i' i with h2 | h2
      · have := L h2 (by omega); omega
      · obtain rfl : i' = i := by omega
        omega
    · rcases Nat.lt_or_ge (i + 1) i' with h2 | h2
      · have := L h2 hi'; omega
      · obtain rfl : i' = i + 1 := by omega
        omega
  · rcases Nat.lt_trichotomy i i' with h | h | h
    · rcases Nat.lt_or_ge (i + 1) i' with h2 | h2
      · have := L h2 (by omega); omega
      · obtain rfl : i' = i + 1 := by omega
        omega
    · subst h; rfl
    · rcases Nat.lt_or_ge (i' + 1) i with h2 | h2
      · have := L h2 (by omega); omega
      · obtain rfl : i = i' + 1 := by omega
        omega
  · rcases e' with e' | e'
    · have := e' i (by omega); omega
    · have := e' (i + 1) hi; omega
  · rcases e with e | e <;> (have := e i' hi'; omega)
  · rcases e with e | e
    · have := e i' (by omega); omega
    · have := e (i' + 1) hi'; omega
  · rfl
end Ob
end Go.Proofs.Ytakalehakdffiab
