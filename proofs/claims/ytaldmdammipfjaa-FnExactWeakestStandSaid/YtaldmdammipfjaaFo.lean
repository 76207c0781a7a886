/-
  Plain mathematics of chapter 10: stands, how much they protect, grow and may be felled. No Go in sight.
-/
import Derived.Test.YtaldmdammipfjaaStd
import Derived.Test.YtaldmdammipfjaaName
import Derived.Test.YtaldmdammipfjaaArith
namespace Go.Proofs.Ytaldmdammipfjaa
namespace Fo
set_option linter.unusedVariables false
/-! ### the order of names -/
theorem bl_total : ∀ a b : List UInt8, (Op.bytesLess a b || a == b) = !Op.bytesLess b a
  | [], [] => by simp [Op.bytesLess]
  | [], b :: y => by simp [Op.bytesLess]
  | a :: x, [] => by simp [Op.bytesLess]
  | a :: x, b :: y => by
    have ih := bl_total x y
    unfold Op.bytesLess
    rcases Nat.lt_trichotomy a.toNat b.toNat with h | h | h
    · have h1 : a < b := h
      have h2 : ¬ b < a := fun h' => by have : b.toNat < a.toNat := h'; omega
      have h3 : (b == a) = false := by rw [beq_eq_false_iff_ne]; rintro rfl; omega
      simp [h1, h2, h3]
    · have h1 : a = b := UInt8.toNat_inj.1 h
      subst h1
      have h2 : ¬ a < a := fun h' => by have : a.toNat < a.toNat := h'; omega
      have h3 : (a :: x == a :: y) = (x == y) := by rw [Bool.eq_iff_iff]; simp
      rw [h3]
      simpa [h2] using ih
    · have h1 : ¬ a < b := fun h' => by have : a.toNat < b.toNat := h'; omega
      have h2 : b < a := h
      have h3 : (a == b) = false := by rw [beq_eq_false_iff_ne]; rintro rfl; omega
      have h4 : (a :: x == b :: y) = false := by rw [beq_eq_false_iff_ne]; intro e; injection e with e _; subst e; omega
      simp [h1, h2, h3, h4]
/-- does a name come behind the one before it? -/
def be : Option (List UInt8) → List UInt8 → Bool
  | none, _ => true
  | some p, k => Op.bytesLess p k
/-- names strictly increasing -/
def up : Option (List UInt8) → List Std → Bool
  | _, [] => true
  | p, x :: xs => be p x.id && up (some x.id) xs
/-- the last name -/
def la : Option (List UInt8) → List Std → Option (List UInt8)
  | p, [] => p
  | _, x :: xs => la (some x.id) xs
theorem la_app (p : Option (List UInt8)) (xs : List Std) (x : Std) : la p (xs ++ [x]) = some x.id := by
  induction xs generalizing p with
  | nil => rfl
  | cons y ys ih => exact ih _
theorem up_app (p : Option (List UInt8)) (xs : List Std) (x : Std) : up p (xs ++ [x]) = (up p xs && be (la p xs) x.id) := by
  induction xs generalizing p with
  | nil => simp [up, la]
  | cons y ys ih => rw [List.cons_append, up, up, la, ih, Bool.and_assoc]
theorem la_take (p : Option (List UInt8)) {xs : List Std} {k : Nat} (h : k < xs.length) : la p (xs.take (k + 1)) = some xs[k].id := by
  rw [List.take_succ_eq_append_getElem h, la_app]
theorem up_snoc {p : Option (List UInt8)} {xs : List Std} {k : Nat} (h : k < xs.length) : up p (xs.take (k + 1)) = (up p (xs.take k) && be (la p (xs.take k)) xs[k].id) := by
  rw [List.take_succ_eq_append_getElem h, up_app]
theorem up_pre (p : Option (List UInt8)) (xs ys : List Std) (h : up p (xs ++ ys) = true) : up p xs = true := by
  induction xs generalizing p with
  | nil => rfl
  | cons x xs ih =>
    rw [List.cons_append, up, Bool.and_eq_true] at h
    rw [up, h.1, ih _ h.2]; rfl
theorem up_no {xs : List Std} {k : Nat} (h : up none (xs.take k) = false) : up none xs = false := by
  rw [Bool.eq_false_iff]; intro hc
  have := up_pre none (xs.take k) (xs.drop k) (by rw [List.take_append_drop]; exact hc)
  rw [h] at this; cases this
/-! ### valid stands -/
def okN (x : Std) : Bool := Ar.inB 0 x.tr 2000 && Ar.inB 0 x.he 5000 && Ar.inB 0 x.co 1000 && Ar.inB 0 x.ga 100
def ok1 (x : Std) : Bool := nm x.id && okN x
def okS (xs : List Std) : Bool := xs.all ok1 && up none xs && decide (xs.length ≤ 16)
structure Fits (x : Std) : Prop where
  t1 : 0 ≤ x.tr
  t2 : x.tr ≤ 2000
  h1 : 0 ≤ x.he
  h2 : x.he ≤ 5000
  c1 : 0 ≤ x.co
  c2 : x.co ≤ 1000
  g1 : 0 ≤ x.ga
  g2 : x.ga ≤ 100
theorem inB_iff {l x h : Int} : Ar.inB l x h = true ↔ l ≤ x ∧ x ≤ h := by unfold Ar.inB; simp
theorem okN_iff {x : Std} : okN x = true ↔ Fits x := by
  unfold okN
  rw [Bool.and_eq_true, Bool.and_eq_true, Bool.and_eq_true, inB_iff, inB_iff, inB_iff, inB_iff]
  exact ⟨fun ⟨⟨⟨a, b⟩, c⟩, d⟩ => ⟨a.1, a.2, b.1, b.2, c.1, c.2, d.1, d.2⟩, fun h => ⟨⟨⟨⟨h.t1, h.t2⟩, h.h1, h.h2⟩, h.c1, h.c2⟩, h.g1, h.g2⟩⟩
theorem ok1_fits {x : Std} (h : ok1 x = true) : Fits x := by unfold ok1 at h; rw [Bool.and_eq_true] at h; exact okN_iff.1 h.2
theorem okS_all {xs : List Std} (h : okS xs = true) : (∀ x ∈ xs, Fits x) ∧ xs.length ≤ 16 := by
  unfold okS at h
  rw [Bool.and_eq_true, Bool.and_eq_true] at h
  exact ⟨fun x hx => ok1_fits (List.all_eq_true.1 h.1.1 x hx), of_decide_eq_true h.2⟩
theorem nt {b : Bool} (h : ¬ b = true) : b = false := by simpa using h
theorem ok1_0 {x : Std} (h : nm x.id = false) : ok1 x = false := by unfold ok1; rw [h]; rfl
theorem ok1_1 {x : Std} (h : Ar.inB 0 x.tr 2000 = false) : ok1 x = false := by unfold ok1 okN; rw [h]; simp
theorem ok1_2 {x : Std} (h : Ar.inB 0 x.he 5000 = false) : ok1 x = false := by unfold ok1 okN; rw [h]; simp
theorem ok1_3 {x : Std} (h : Ar.inB 0 x.co 1000 = false) : ok1 x = false := by unfold ok1 okN; rw [h]; simp
theorem ok1_4 {x : Std} (h : Ar.inB 0 x.ga 100 = false) : ok1 x = false := by unfold ok1 okN; rw [h]; simp
theorem ok1_t {x : Std} (h0 : nm x.id = true) (h1 : Ar.inB 0 x.tr 2000 = true) (h2 : Ar.inB 0 x.he 5000 = true) (h3 : Ar.inB 0 x.co 1000 = true) (h4 : Ar.inB 0 x.ga 100 = true) : ok1 x = true := by unfold ok1 okN; rw [h0, h1, h2, h3, h4]; rfl
theorem ok1_l {x : Std} (h0 : nm x.id = true) (h1 : Ar.inB 0 x.tr 2000 = true) (h2 : Ar.inB 0 x.he 5000 = true) (h3 : Ar.inB 0 x.co 1000 = true) : ok1 x = Ar.inB 0 x.ga 100 := by unfold ok1 okN; rw [h0, h1, h2, h3]; simp
theorem all_snoc {xs : List Std} {k : Nat} (h : k < xs.length) (hp : (xs.take k).all ok1 = true) (hq : ok1 xs[k] = true) : (xs.take (k + 1)).all ok1 = true := by
  rw [List.take_succ_eq_append_getElem h, List.all_append, hp]; simp [hq]
theorem okS_bad {xs : List Std} {k : Nat} (h : k < xs.length) (hq : ok1 xs[k] = false) : okS xs = false := by
  have : xs.all ok1 = false := by
    rw [Bool.eq_false_iff]; intro hc
    have := List.all_eq_true.1 hc _ (List.getElem_mem h)
    rw [hq] at this; cases this
  unfold okS; rw [this]; rfl
theorem okS_up {xs : List Std} {k : Nat} (h : up none (xs.take k) = false) : okS xs = false := by unfold okS; rw [up_no h]; simp
theorem okS_in {xs : List Std} (h1 : xs.all ok1 = true) (h2 : up none xs = true) : okS xs = decide (xs.length ≤ 16) := by unfold okS; rw [h1, h2]; rfl
theorem okS_not {xs : List Std} (h1 : xs.all ok1 = false) : okS xs = false := by unfold okS; rw [h1]; rfl
theorem okS_long {xs : List Std} (h1 : ¬ xs.length ≤ 16) : okS xs = false := by unfold okS; rw [decide_eq_false h1]; simp
theorem okS_eq {xs : List Std} (h1 : xs.all ok1 = true) (h2 : xs.length ≤ 16) : okS xs = up none xs := by unfold okS; rw [h1, decide_eq_true h2]; simp
theorem up_step {xs : List Std} {m : Nat} (h : m + 1 < xs.length) (hu : up none (xs.take (m + 1)) = true) (hb : Op.bytesLess (xs[m]'(by omega)).id xs[m + 1].id = true) : up none (xs.take (m + 1 + 1)) = true := by
  rw [up_snoc h, hu, la_take none (show m < xs.length by omega)]; exact hb
theorem up_turn {xs : List Std} {m : Nat} (h : m + 1 < xs.length) (hb : Op.bytesLess (xs[m]'(by omega)).id xs[m + 1].id = false) : up none (xs.take (m + 1 + 1)) = false := by
  rw [up_snoc h, la_take none (show m < xs.length by omega)]
  show (_ && Op.bytesLess _ _) = false
  rw [hb, Bool.and_false]
theorem up_one {xs : List Std} (h : 0 < xs.length) : up none (xs.take (0 + 1)) = true := by rw [up_snoc h]; rfl
theorem not_any (xs : List Std) : (xs.any fun x => !ok1 x) = !xs.all ok1 := by
  induction xs with
  | nil => rfl
  | cons x xs ih => rw [List.any_cons, List.all_cons, ih]; cases ok1 x <;> simp
/-! ### how much a stand protects -/
def pr (x : Std) (s : Int) : Int := if x.he < 2 * s then 0 else max 0 (min (min 1000 (2 * x.tr)) x.co - 10 * max 0 (x.ga - 20))
theorem dr500 {t : Int} (h : 0 ≤ t) : Ar.dr (t * 1000) 500 = 2 * t := by
  rw [Ar.dr_pos (by omega) (by omega), if_pos (by omega)]; omega
theorem pr_lo (x : Std) (s : Int) : 0 ≤ pr x s := by unfold pr; split <;> omega
theorem pr_hi (x : Std) (s : Int) (h : Fits x) : pr x s ≤ 1000 := by have := h.c2; have := h.c1; unfold pr; split <;> omega
theorem pr_0 {x : Std} {s : Int} (h : x.he < 2 * s) : pr x s = 0 := by unfold pr; rw [if_pos h]
theorem pr_1 {x : Std} {s : Int} (h : ¬ x.he < 2 * s) : pr x s = max 0 (min (min 1000 (2 * x.tr)) x.co - 10 * max 0 (x.ga - 20)) := by unfold pr; rw [if_neg h]
theorem pr_anti (x : Std) {s s' : Int} (h : s ≤ s') : pr x s' ≤ pr x s := by
  unfold pr; split <;> split <;> omega
/-! ### years -/
def yr (x : Std) : Std := ⟨x.id, x.tr, x.he + Ar.dr (5000 - x.he) 50, x.co + Ar.dr (1000 - x.co) 40, max 0 (x.ga - 1)⟩
theorem dr_small {a b : Int} (ha : 0 ≤ a) (hb : 2 ≤ b) : 0 ≤ Ar.dr a b ∧ Ar.dr a b ≤ a := by
  rw [Ar.dr_pos ha (by omega)]
  have e := Int.mul_ediv_add_emod a b
  have r0 := Int.emod_nonneg a (show b ≠ 0 by omega)
  have r1 := Int.emod_lt_of_pos a (show 0 < b by omega)
  have q0 : 0 ≤ a / b := Int.ediv_nonneg ha (by omega)
  generalize a / b = q at *
  generalize a % b = r at *
  have m : 2 * q ≤ b * q := Int.mul_le_mul_of_nonneg_right hb q0
  split <;> omega
theorem yr_fits {x : Std} (h : Fits x) : Fits (yr x) := by
  have h1 := h.h1; have h2 := h.h2; have c1 := h.c1; have c2 := h.c2; have g1 := h.g1; have g2 := h.g2
  have a := dr_small (a := 5000 - x.he) (b := 50) (by omega) (by omega)
  have b := dr_small (a := 1000 - x.co) (b := 40) (by omega) (by omega)
  exact ⟨h.t1, h.t2, by show 0 ≤ x.he + _; omega, by show x.he + _ ≤ 5000; omega, by show 0 ≤ x.co + _; omega, by show x.co + _ ≤ 1000; omega, by show 0 ≤ max 0 _; omega, by show max 0 _ ≤ 100; omega⟩
/-- so many years later -/
def ys : Nat → Std → Std
  | 0, x => x
  | k + 1, x => yr (ys k x)
theorem ys_fits {x : Std} (h : Fits x) : ∀ k, Fits (ys k x)
  | 0 => h
  | k + 1 => yr_fits (ys_fits h k)
theorem ys_id (x : Std) : ∀ k, (ys k x).id = x.id
  | 0 => rfl
  | k + 1 => ys_id x k
theorem ys_fix {x : Std} {k : Nat} (h : yr (ys k x) = ys k x) : ∀ j, ys (k + j) x = ys k x
  | 0 => rfl
  | j + 1 => by rw [← Nat.add_assoc, ys, ys_fix h j, h]
/-- the first of so many, from k on, of which p holds -/
def ff (p : Nat → Bool) : Nat → Nat → Option Nat
  | 0, _ => none
  | n + 1, k => if p k = true then some k else ff p n (k + 1)
theorem ff_yes {p : Nat → Bool} {n k : Nat} (h : p k = true) : ff p (n + 1) k = some k := by rw [ff, if_pos h]
theorem ff_no {p : Nat → Bool} {n k : Nat} (h : p k = false) : ff p (n + 1) k = ff p n (k + 1) := by rw [ff, if_neg (by rw [h]; decide)]
theorem ff_none {p : Nat → Bool} : ∀ (n k : Nat), (∀ j, k ≤ j → p j = false) → ff p n k = none
  | 0, _, _ => rfl
  | n + 1, k, h => by rw [ff_no (h k (Nat.le_refl _)), ff_none n (k + 1) (fun j hj => h j (by omega))]
theorem ff_lt {p : Nat → Bool} : ∀ (n k a : Nat), ff p n k = some a → k ≤ a ∧ a < k + n ∧ p a = true
  | 0, _, _, h => by cases h
  | n + 1, k, a, h => by
    rw [ff] at h
    split at h
    · injection h with h; subst h; exact ⟨Nat.le_refl _, by omega, by assumption⟩
    · have := ff_lt n (k + 1) a h; exact ⟨by omega, by omega, this.2.2⟩
def oV (o : Option Nat) : Int := match o with | some k => (k : Int) | none => 0
def oC (o : Option Nat) : Int := match o with | some _ => 0 | none => 3
/-! ### the greatest number of which something holds -/
def tp (p : Nat → Bool) : Nat → Option Nat
  | 0 => if p 0 = true then some 0 else none
  | n + 1 => if p (n + 1) = true then some (n + 1) else tp p n
theorem tp_yes {p : Nat → Bool} {n : Nat} (h : p n = true) : tp p n = some n := by cases n <;> simp [tp, h]
theorem tp_no {p : Nat → Bool} {n : Nat} (h : p (n + 1) = false) : tp p (n + 1) = tp p n := by simp [tp, h]
theorem tp_zero {p : Nat → Bool} (h : p 0 = false) : tp p 0 = none := by simp [tp, h]
theorem tp_le {p : Nat → Bool} : ∀ (n k : Nat), tp p n = some k → k ≤ n ∧ p k = true
  | 0, k, h => by unfold tp at h; split at h <;> cases h; exact ⟨Nat.le_refl _, by assumption⟩
  | n + 1, k, h => by
    unfold tp at h
    split at h
    · injection h with h; subst h; exact ⟨Nat.le_refl _, by assumption⟩
    · have := tp_le n k h; exact ⟨by omega, this.2⟩
/-- by the first of which it does not hold: f of 0 .. n + 1 -/
theorem tp_first {p : Nat → Bool} {n f : Nat} (hf : f ≤ n + 1) (h1 : ∀ j, j < f → p j = true) (h2 : ∀ j, f ≤ j → j ≤ n → p j = false) : tp p n = if f = 0 then none else some (f - 1) := by
  induction n with
  | zero =>
    by_cases h0 : f = 0
    · rw [if_pos h0, tp_zero (h2 0 (by omega) (Nat.le_refl _))]
    · rw [if_neg h0, tp_yes (h1 0 (by omega))]; congr 1; omega
  | succ n ih =>
    by_cases h0 : f = n + 2
    · rw [if_neg (by omega), tp_yes (h1 (n + 1) (by omega))]; congr 1; omega
    · rw [tp_no (h2 (n + 1) (by omega) (Nat.le_refl _))]
      exact ih (by omega) (fun j hj hjn => h2 j hj (by omega))
/-! ### felling -/
def fe (x : Std) (t : Int) : Std := ⟨x.id, x.tr - t, x.he, x.co - (if x.tr = 0 then 0 else Ar.dr (x.co * t) x.tr), x.ga⟩
theorem drp_mono {a b c : Int} (ha : 0 ≤ a) (h : a ≤ b) (hc : 0 < c) : Ar.dr a c ≤ Ar.dr b c := by
  unfold Ar.dr Ar.drp
  rw [if_neg (by omega), if_neg (by omega), if_neg (by omega), if_neg (by omega)]
  exact Int.ediv_le_ediv (by omega) (by omega)
theorem dr_whole {a c : Int} (ha : 0 ≤ a) (hc : 0 < c) : Ar.dr (a * c) c = a := by
  have h := Int.mul_nonneg ha (Int.le_of_lt hc)
  have e1 : a * c % c = 0 := Int.mul_emod_left a c
  have e2 : a * c / c = a := Int.mul_ediv_cancel a (by omega)
  rw [Ar.dr_pos h hc, e1, e2, if_pos (by omega)]
theorem dr_zero {c : Int} (hc : 0 < c) : Ar.dr 0 c = 0 := by have := dr_whole (a := 0) (Int.le_refl _) hc; rwa [Int.zero_mul] at this
/-- the cover that goes with the trees -/
def fc (x : Std) (t : Int) : Int := if x.tr = 0 then 0 else Ar.dr (x.co * t) x.tr
theorem fc_bd {x : Std} {t : Int} (h : Fits x) (h0 : 0 ≤ t) (h1 : t ≤ x.tr) : 0 ≤ fc x t ∧ fc x t ≤ x.co := by
  have c1 := h.c1
  unfold fc
  split
  · omega
  · have hp : 0 < x.tr := by have := h.t1; omega
    have m0 : 0 ≤ x.co * t := Int.mul_nonneg c1 h0
    have m1 : x.co * t ≤ x.co * x.tr := Int.mul_le_mul_of_nonneg_left h1 c1
    have a := drp_mono (Int.le_refl 0) m0 hp
    have b := drp_mono m0 m1 hp
    rw [dr_zero hp] at a
    rw [dr_whole c1 hp] at b
    exact ⟨a, b⟩
theorem fc_mono {x : Std} {t t' : Int} (h : Fits x) (h0 : 0 ≤ t) (h1 : t ≤ t') : fc x t ≤ fc x t' := by
  unfold fc
  split
  · exact Int.le_refl _
  · have hp : 0 < x.tr := by have := h.t1; omega
    exact drp_mono (Int.mul_nonneg h.c1 h0) (Int.mul_le_mul_of_nonneg_left h1 h.c1) hp
theorem fe_fits {x : Std} {t : Int} (h : Fits x) (h0 : 0 ≤ t) (h1 : t ≤ x.tr) : Fits (fe x t) := by
  obtain ⟨a, b⟩ := fc_bd h h0 h1
  unfold fc at a b
  have t2 := h.t2; have c1 := h.c1; have c2 := h.c2
  exact ⟨by show 0 ≤ x.tr - t; omega, by show x.tr - t ≤ 2000; omega, h.h1, h.h2, by show 0 ≤ x.co - _; omega, by show x.co - _ ≤ 1000; omega, h.g1, h.g2⟩
theorem fe_zero {x : Std} (h : Fits x) : fe x 0 = x := by
  have e : (if x.tr = 0 then 0 else Ar.dr (x.co * 0) x.tr) = 0 := by
    split
    · rfl
    · rw [Int.mul_zero, dr_zero (by have := h.t1; omega)]
  unfold fe
  rw [e, Int.sub_zero, Int.sub_zero]
theorem fe_anti {x : Std} {s t t' : Int} (h : Fits x) (h0 : 0 ≤ t) (h1 : t ≤ t') : pr (fe x t') s ≤ pr (fe x t) s := by
  have a := fc_mono h h0 h1
  unfold fc at a
  unfold pr fe
  simp only
  split
  · omega
  · omega
/-! ### what the questions answer -/
def lim (s l : Int) : Bool := Ar.inB 0 s 2000 && Ar.inB 0 l 1000
theorem lim_0 (s : Int) : lim s 0 = Ar.inB 0 s 2000 := by unfold lim; rw [Ar.inB_t (l := 0) (x := 0) (h := 1000) (by omega) (by omega), Bool.and_true]
theorem lim_l (l : Int) : lim 0 l = Ar.inB 0 l 1000 := by unfold lim; rw [Ar.inB_t (l := 0) (x := 0) (h := 2000) (by omega) (by omega), Bool.true_and]
theorem lim_of {s l : Int} (h : lim s l = true) : (0 ≤ s ∧ s ≤ 2000) ∧ 0 ≤ l ∧ l ≤ 1000 := by unfold lim at h; rw [Bool.and_eq_true, inB_iff, inB_iff] at h; exact h
/-- does a stand protect enough? -/
def met (s l : Int) (x : Std) : Bool := decide (l ≤ pr x s)
def msP (x : Std) (l : Int) (k : Nat) : Bool := met k l x
def msO (x : Std) (l : Int) : Option Nat := tp (msP x l) 2000
theorem msP_down {x : Std} {l : Int} {a b : Nat} (h : a ≤ b) (hb : msP x l b = true) : msP x l a = true := by
  unfold msP met at *
  have := pr_anti x (s := (a : Int)) (s' := (b : Int)) (by omega)
  have := of_decide_eq_true hb
  exact decide_eq_true (by omega)
def yuP (x : Std) (s l : Int) (k : Nat) : Bool := met s l (ys k x)
def yuO (x : Std) (s l : Int) : Option Nat := ff (yuP x s l) 201 0
theorem yuP_stop {x : Std} {s l : Int} {k : Nat} (h : yr (ys k x) = ys k x) (hk : yuP x s l k = false) (n : Nat) : ff (yuP x s l) n k = none :=
  ff_none n k (fun j hj => by
    have e := ys_fix h (j - k)
    rw [show k + (j - k) = j by omega] at e
    unfold yuP at *
    rw [e]; exact hk)
def mfP (x : Std) (s l : Int) (t : Nat) : Bool := met s l (fe x t)
def mfO (x : Std) (s l : Int) : Option Nat := tp (mfP x s l) x.tr.toNat
theorem mfP_down {x : Std} {s l : Int} {a b : Nat} (hf : Fits x) (h : a ≤ b) (hb : mfP x s l b = true) : mfP x s l a = true := by
  unfold mfP met at *
  have := fe_anti (x := x) (s := s) hf (t := (a : Int)) (t' := (b : Int)) (by omega) (by omega)
  have := of_decide_eq_true hb
  exact decide_eq_true (by omega)
end Fo
end Go.Proofs.Ytaldmdammipfjaa
