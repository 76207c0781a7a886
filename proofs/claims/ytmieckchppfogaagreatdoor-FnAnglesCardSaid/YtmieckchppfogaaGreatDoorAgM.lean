import Derived.Test.YtmieckchppfogaaGreatDoorPth
import Derived.Test.YtmieckchppfogaaGreatDoorArith
/-
  Plain mathematics of chapter 14: the first number of which something holds, paths, the ground and the line above it, where a mass stops and where it is fastest. No Go in sight.
-/
namespace Go.Proofs.YtmieckchppfogaaGreatDoor
set_option linter.unusedVariables false

namespace An
/-! ### the first number below n of which p holds, or n -/
def fi (p : Nat → Bool) : Nat → Nat
  | 0 => 0
  | n + 1 => if fi p n < n then fi p n else if p n = true then n else n + 1
theorem fi_le (p : Nat → Bool) (n : Nat) : fi p n ≤ n := by
  induction n with
  | zero => exact Nat.le_refl _
  | succ n ih =>
    unfold fi
    split
    · omega
    · split <;> omega
theorem fi_spec (p : Nat → Bool) (n : Nat) : (∀ i, i < fi p n → p i = false) ∧ (fi p n < n → p (fi p n) = true) := by
  induction n with
  | zero => exact ⟨fun i h => absurd h (Nat.not_lt_zero _), fun h => absurd h (Nat.not_lt_zero _)⟩
  | succ n ih =>
    obtain ⟨h1, h2⟩ := ih
    have hle := fi_le p n
    unfold fi
    by_cases hlt : fi p n < n
    · rw [if_pos hlt]; exact ⟨h1, fun _ => h2 hlt⟩
    · rw [if_neg hlt]
      have e : fi p n = n := by omega
      rw [e] at h1
      cases hp : p n with
      | true => rw [if_pos rfl]; exact ⟨h1, fun _ => hp⟩
      | false =>
        rw [if_neg (by decide)]
        refine ⟨fun i hi => ?_, fun h => by omega⟩
        by_cases hi2 : i < n
        · exact h1 i hi2
        · have : i = n := by omega
          subst this; exact hp
theorem fi_no {p : Nat → Bool} {n i : Nat} (h : i < fi p n) : p i = false := (fi_spec p n).1 i h
theorem fi_yes {p : Nat → Bool} {n : Nat} (h : fi p n < n) : p (fi p n) = true := (fi_spec p n).2 h
theorem fi_eq {p : Nat → Bool} {n k : Nat} (hk : k ≤ n) (h1 : ∀ i, i < k → p i = false) (h2 : k < n → p k = true) : fi p n = k := by
  have hle := fi_le p n
  rcases Nat.lt_trichotomy (fi p n) k with h | h | h
  · have a := h1 _ h
    rw [fi_yes (p := p) (n := n) (by omega)] at a; cases a
  · exact h
  · have a := fi_no h
    rw [h2 (by omega)] at a; cases a
theorem fi_all {p : Nat → Bool} {n : Nat} (h : ∀ i, i < n → p i = false) : fi p n = n := fi_eq (Nat.le_refl _) h (fun h => absurd h (Nat.lt_irrefl _))

/-! ### quotients -/
theorem dr_0 {b : Int} (hb : 0 < b) : Ar.dr 0 b = 0 := by
  unfold Ar.dr Ar.drp
  rw [if_neg (by omega), if_neg (by omega)]
  exact Int.ediv_eq_zero_of_lt (by omega) (by omega)
theorem dr_nn {a b : Int} (ha : 0 ≤ a) (hb : 0 < b) : Ar.dr a b = (2 * a + b) / (2 * b) := by
  unfold Ar.dr Ar.drp
  rw [if_neg (by omega), if_neg (by omega)]
theorem dr_neg {a b : Int} (ha : 0 ≤ a) (hb : 0 < b) : Ar.dr (-a) b = -Ar.dr a b := by
  by_cases h : a = 0
  · subst h; rw [show (-0 : Int) = 0 from rfl, dr_0 hb]; rfl
  · unfold Ar.dr
    rw [if_neg (by omega), if_neg (by omega)]
    exact Ar.drp_neg (by omega)
theorem dr_mono {a c b : Int} (ha : 0 ≤ a) (h : a ≤ c) (hb : 0 < b) : Ar.dr a b ≤ Ar.dr c b := by
  rw [dr_nn ha hb, dr_nn (by omega) hb]
  exact Int.ediv_le_ediv (by omega) (by omega)
theorem dr_add {a b t : Int} (ha : 0 ≤ a) (hb : 0 < b) (ht : 0 ≤ t) : Ar.dr (a + t * b) b = Ar.dr a b + t := by
  have hp : 0 ≤ t * b := Int.mul_nonneg ht (by omega)
  rw [dr_nn ha hb, dr_nn (by omega) hb, show 2 * (a + t * b) + b = 2 * a + b + 2 * b * t by rw [Int.mul_assoc, Int.mul_comm b t]; omega, Int.add_mul_ediv_left _ _ (by omega)]
theorem dr_self {a b : Int} (hb : 0 < b) : Ar.dr (a * b) b = a := by
  by_cases h : 0 ≤ a
  · have := dr_add (a := 0) (b := b) (t := a) (by omega) hb h
    rw [Int.zero_add, dr_0 hb, Int.zero_add] at this; exact this
  · have := dr_add (a := 0) (b := b) (t := -a) (by omega) hb (by omega)
    rw [Int.zero_add, dr_0 hb, Int.zero_add] at this
    have h2 := dr_neg (a := -a * b) (b := b) (Int.mul_nonneg (by omega) (by omega)) hb
    rw [this] at h2
    rw [Int.neg_mul, Int.neg_neg] at h2
    rw [h2]; omega
theorem dr_dn {A B n t : Int} (hB : 0 < B) (hn : 0 ≤ n) (ht : 0 ≤ t) (h : 0 ≤ A + t * B) : Ar.dr (A * n) B - t ≤ Ar.dr (A * (n + 1)) B := by
  by_cases hA : 0 ≤ A
  · have := dr_mono (Int.mul_nonneg hA hn) (show A * n ≤ A * (n + 1) by rw [Int.mul_add]; omega) hB
    omega
  · have p0 : 0 ≤ -A * n := Int.mul_nonneg (by omega) hn
    have p1 : 0 ≤ -A * (n + 1) := Int.mul_nonneg (by omega) (by omega)
    have e0 := dr_neg p0 hB
    have e1 := dr_neg p1 hB
    rw [Int.neg_mul, Int.neg_neg] at e0 e1
    have m := dr_mono p1 (show -A * (n + 1) ≤ -A * n + t * B by rw [Int.mul_add]; omega) hB
    rw [dr_add p0 hB ht] at m
    rw [Int.neg_mul] at m
    rw [Int.neg_mul] at m
    omega
theorem dr_up {A B n t : Int} (hB : 0 < B) (hn : 0 ≤ n) (ht : 0 ≤ t) (h : A + t * B ≤ 0) : Ar.dr (A * (n + 1)) B ≤ Ar.dr (A * n) B - t := by
  have q : 0 ≤ t * B := Int.mul_nonneg ht (by omega)
  have p0 : 0 ≤ -A * n := Int.mul_nonneg (by omega) hn
  have p1 : 0 ≤ -A * (n + 1) := Int.mul_nonneg (by omega) (by omega)
  have e0 := dr_neg p0 hB
  have e1 := dr_neg p1 hB
  rw [Int.neg_mul, Int.neg_neg] at e0 e1
  have m := dr_mono (show 0 ≤ -A * n + t * B by omega) (show -A * n + t * B ≤ -A * (n + 1) by rw [Int.mul_add]; omega) hB
  rw [dr_add p0 hB ht] at m
  rw [Int.neg_mul] at m
  rw [Int.neg_mul] at m
  omega

/-! ### paths -/
/-- the point k of a path -/
def nd (xs : List Pth) (k : Nat) : Pth := xs.getD k ⟨0, 0⟩
theorem nd_at {xs : List Pth} {k : Nat} (h : k < xs.length) : nd xs k = xs[k] := by
  unfold nd; rw [List.getD_eq_getElem?_getD, List.getElem?_eq_getElem h]; rfl
/-- the last distance -/
def la (xs : List Pth) : Int := (nd xs (xs.length - 1)).di
structure Ok (xs : List Pth) : Prop where
  n2 : 2 ≤ xs.length
  n24 : xs.length ≤ 24
  d0 : (nd xs 0).di = 0
  inc : ∀ k, k + 1 < xs.length → (nd xs k).di < (nd xs (k + 1)).di
  dl : ∀ k, k < xs.length → 0 ≤ (nd xs k).di
  dh : ∀ k, k < xs.length → (nd xs k).di ≤ 20000
  hl : ∀ k, k < xs.length → 0 ≤ (nd xs k).he
  hh : ∀ k, k < xs.length → (nd xs k).he ≤ (nd xs 0).he
  h9 : ∀ k, k < xs.length → (nd xs k).he ≤ 9000
theorem Ok.le {xs : List Pth} (o : Ok xs) : ∀ {j k : Nat}, j ≤ k → k < xs.length → (nd xs j).di ≤ (nd xs k).di := by
  intro j k hjk hk
  induction k with
  | zero => have : j = 0 := by omega
            subst this; exact Int.le_refl _
  | succ k ih =>
    by_cases h : j = k + 1
    · subst h; exact Int.le_refl _
    · have a := ih (by omega) (by omega)
      have b := o.inc k hk
      omega
theorem Ok.lt {xs : List Pth} (o : Ok xs) {j k : Nat} (hjk : j < k) (hk : k < xs.length) : (nd xs j).di < (nd xs k).di := by
  have a := o.inc j (by omega)
  have b := o.le (show j + 1 ≤ k by omega) hk
  omega
theorem Ok.last {xs : List Pth} (o : Ok xs) : 1 ≤ la xs ∧ la xs ≤ 20000 := by
  have a := o.lt (show 0 < xs.length - 1 by have := o.n2; omega) (by have := o.n2; omega)
  have b := o.dh (xs.length - 1) (by have := o.n2; omega)
  rw [o.d0] at a
  exact ⟨by unfold la; omega, b⟩
/-- the leg in which a distance lies, by the number of its first point -/
def gi (xs : List Pth) (d : Int) : Nat := fi (fun k => decide (d ≤ (nd xs (k + 1)).di)) (xs.length - 1)
theorem gi_eq {xs : List Pth} {d : Int} {k : Nat} (hk : k + 1 < xs.length) (h1 : ∀ i, i < k → (nd xs (i + 1)).di < d) (h2 : d ≤ (nd xs (k + 1)).di) : gi xs d = k := by
  unfold gi
  exact fi_eq (by omega) (fun i hi => decide_eq_false (by have := h1 i hi; omega)) (fun _ => decide_eq_true h2)
theorem gi_spec {xs : List Pth} (o : Ok xs) {d : Int} (h : d ≤ la xs) : gi xs d + 1 < xs.length ∧ d ≤ (nd xs (gi xs d + 1)).di ∧ (∀ i, i < gi xs d → (nd xs (i + 1)).di < d) := by
  have n2 := o.n2
  have hlt : gi xs d < xs.length - 1 := by
    have hle : gi xs d ≤ xs.length - 1 := fi_le _ _
    rcases Nat.lt_or_ge (gi xs d) (xs.length - 1) with h1 | h1
    · exact h1
    · have a : decide (d ≤ (nd xs (xs.length - 2 + 1)).di) = false := fi_no (p := fun k => decide (d ≤ (nd xs (k + 1)).di)) (n := xs.length - 1) (by show xs.length - 2 < gi xs d; omega)
      rw [show xs.length - 2 + 1 = xs.length - 1 by omega] at a
      have := of_decide_eq_false a
      unfold la at h; exact absurd h this
  refine ⟨by omega, of_decide_eq_true (fi_yes (p := fun k => decide (d ≤ (nd xs (k + 1)).di)) hlt), fun i hi => ?_⟩
  have := of_decide_eq_false (fi_no (p := fun k => decide (d ≤ (nd xs (k + 1)).di)) hi)
  omega
theorem gi_lo {xs : List Pth} (o : Ok xs) {d : Int} (h0 : 1 ≤ d) (h : d ≤ la xs) : (nd xs (gi xs d)).di < d := by
  obtain ⟨h1, h2, h3⟩ := gi_spec o h
  by_cases hz : gi xs d = 0
  · rw [hz, o.d0]; omega
  · have := h3 (gi xs d - 1) (by omega)
    rw [show gi xs d - 1 + 1 = gi xs d by omega] at this
    exact this
/-- the height of the ground -/
def gr (xs : List Pth) (d : Int) : Int := Ar.line (nd xs (gi xs d)).di (1000 * (nd xs (gi xs d)).he) (nd xs (gi xs d + 1)).di (1000 * (nd xs (gi xs d + 1)).he) d
theorem gr_leg {xs : List Pth} (o : Ok xs) {k : Nat} (hk : k + 1 < xs.length) {d : Int} (h1 : (nd xs k).di ≤ d) (h2 : d ≤ (nd xs (k + 1)).di) :
    gr xs d = 1000 * (nd xs k).he + Ar.dr ((1000 * (nd xs (k + 1)).he - 1000 * (nd xs k).he) * (d - (nd xs k).di)) ((nd xs (k + 1)).di - (nd xs k).di) := by
  have hi := o.inc k hk
  by_cases he : d = (nd xs k).di ∧ 0 < k
  · obtain ⟨he, hk0⟩ := he
    have g : gi xs d = k - 1 := gi_eq (by omega) (fun i hi => by have := o.lt (show i + 1 < k by omega) (by omega); omega) (by rw [show k - 1 + 1 = k by omega]; omega)
    have hp := o.inc (k - 1) (by omega)
    rw [show k - 1 + 1 = k by omega] at hp
    unfold gr Ar.line
    rw [g, show k - 1 + 1 = k by omega, if_neg (by omega), if_pos (by omega), he, Int.sub_self, Int.mul_zero, dr_0 (by omega), Int.add_zero]
  · have g : gi xs d = k := gi_eq hk (fun i hi => by
      have := o.le (show i + 1 ≤ k by omega) (by omega)
      rcases Nat.lt_or_ge (i + 1) k with hx | hx
      · have := o.lt hx (by omega); omega
      · have : i + 1 = k := by omega
        rw [this]; omega) h2
    unfold gr Ar.line
    rw [g]
    by_cases ha : d ≤ (nd xs k).di
    · rw [if_pos (by omega), show d - (nd xs k).di = 0 by omega, Int.mul_zero, dr_0 (by omega), Int.add_zero]
    · rw [if_neg (by omega)]
      by_cases hb : (nd xs (k + 1)).di ≤ d
      · rw [if_pos hb, show d = (nd xs (k + 1)).di by omega, dr_self (by omega)]; omega
      · rw [if_neg hb]
theorem gr_pt {xs : List Pth} (o : Ok xs) {k : Nat} (hk : k < xs.length) : gr xs (nd xs k).di = 1000 * (nd xs k).he := by
  have n2 := o.n2
  by_cases h : k + 1 < xs.length
  · rw [gr_leg o h (Int.le_refl _) (by have := o.inc k h; omega), Int.sub_self, Int.mul_zero, dr_0 (by have := o.inc k h; omega), Int.add_zero]
  · have hp := o.inc (k - 1) (by omega)
    have e := gr_leg o (k := k - 1) (d := (nd xs k).di) (by omega) (by rw [show k - 1 + 1 = k by omega] at hp; omega) (by rw [show k - 1 + 1 = k by omega]; omega)
    rw [show k - 1 + 1 = k by omega] at e hp
    rw [e, dr_self (by omega)]; omega
/-- the line's height, and how far it is above the ground -/
def en (xs : List Pth) (t d : Int) : Int := 1000 * (nd xs 0).he - t * d
def hi (xs : List Pth) (t d : Int) : Int := en xs t d - gr xs d
theorem hi_0 {xs : List Pth} (o : Ok xs) (t : Int) : hi xs t 0 = 0 := by
  have := gr_pt o (k := 0) (by have := o.n2; omega)
  rw [o.d0] at this
  unfold hi en; rw [this]; omega
theorem mono_of {f : Int → Int} {a b : Int} (h : ∀ d, a ≤ d → d < b → f (d + 1) ≤ f d) : ∀ {d e : Int}, a ≤ d → d ≤ e → e ≤ b → f e ≤ f d := by
  intro d e h1 h2 h3
  obtain ⟨n, hn⟩ : ∃ n : Nat, e = d + n := ⟨(e - d).toNat, by omega⟩
  subst hn
  induction n with
  | zero => simp
  | succ n ih =>
    have a1 := ih (by omega) (by omega)
    have a2 := h (d + n) (by omega) (by omega)
    rw [show d + ((n + 1 : Nat) : Int) = d + n + 1 by omega]
    omega
/-- on a leg the line only comes nearer, or only goes away -/
theorem leg {xs : List Pth} (o : Ok xs) {t : Int} (ht : 0 ≤ t) {k : Nat} (hk : k + 1 < xs.length) :
    (∀ {d e : Int}, (nd xs k).di ≤ d → d ≤ e → e ≤ (nd xs (k + 1)).di → hi xs t e ≤ hi xs t d) ∨ (∀ {d e : Int}, (nd xs k).di ≤ d → d ≤ e → e ≤ (nd xs (k + 1)).di → hi xs t d ≤ hi xs t e) := by
  have hB := o.inc k hk
  rcases Int.le_total 0 ((1000 * (nd xs (k + 1)).he - 1000 * (nd xs k).he) + t * ((nd xs (k + 1)).di - (nd xs k).di)) with h | h
  · left
    refine mono_of (f := hi xs t) (fun d h1 h2 => ?_)
    have e0 := gr_leg o hk (d := d) h1 (by omega)
    have e1 := gr_leg o hk (d := d + 1) (by omega) (by omega)
    have s := dr_dn (n := d - (nd xs k).di) (show 0 < (nd xs (k + 1)).di - (nd xs k).di by omega) (by omega) ht h
    rw [show d - (nd xs k).di + 1 = d + 1 - (nd xs k).di by omega] at s
    unfold hi en
    rw [e0, e1, Int.mul_add]; omega
  · right
    intro d e h1 h2 h3
    have := mono_of (f := fun d => - hi xs t d) (a := (nd xs k).di) (b := (nd xs (k + 1)).di) (fun d h1 h2 => by
      have e0 := gr_leg o hk (d := d) h1 (by omega)
      have e1 := gr_leg o hk (d := d + 1) (by omega) (by omega)
      have s := dr_up (n := d - (nd xs k).di) (show 0 < (nd xs (k + 1)).di - (nd xs k).di by omega) (by omega) ht h
      rw [show d - (nd xs k).di + 1 = d + 1 - (nd xs k).di by omega] at s
      show - hi xs t (d + 1) ≤ - hi xs t d
      unfold hi en
      rw [e0, e1, Int.mul_add]; omega) h1 h2 h3
    have : - hi xs t e ≤ - hi xs t d := this
    omega
theorem gr_bd {xs : List Pth} (o : Ok xs) {d : Int} (h0 : 0 ≤ d) (h : d ≤ la xs) : 0 ≤ gr xs d ∧ gr xs d ≤ 1000 * (nd xs 0).he := by
  have n2 := o.n2
  obtain ⟨h1, h2, h3⟩ := gi_spec o h
  have hlo : (nd xs (gi xs d)).di ≤ d := by
    by_cases hz : d = 0
    · by_cases hg : gi xs d = 0
      · rw [hg, o.d0]; omega
      · have := h3 (gi xs d - 1) (by omega)
        rw [show gi xs d - 1 + 1 = gi xs d by omega] at this; omega
    · have := gi_lo o (by omega) h; omega
  generalize gi xs d = k at *
  have p0 := gr_pt o (k := k) (by omega)
  have p1 := gr_pt o h1
  have a0 := o.hl k (by omega)
  have a1 := o.hl (k + 1) h1
  have b0 := o.hh k (by omega)
  have b1 := o.hh (k + 1) h1
  rcases leg o (t := 0) (Int.le_refl _) h1 with l | l
  · have q0 := l (Int.le_refl _) hlo h2
    have q1 := l hlo h2 (Int.le_refl _)
    unfold hi en at q0 q1
    rw [p0] at q0; rw [p1] at q1
    omega
  · have q0 := l (Int.le_refl _) hlo h2
    have q1 := l hlo h2 (Int.le_refl _)
    unfold hi en at q0 q1
    rw [p0] at q0; rw [p1] at q1
    omega

/-! ### the first distance of which something holds, by the ends of legs -/
def ed (xs : List Pth) (k : Nat) : Int := if k = 0 then 1 else (nd xs k).di
def Leg (xs : List Pth) (p : Int → Bool) : Prop := ∀ k, k + 1 < xs.length →
  (∀ d e : Int, (nd xs k).di ≤ d → d ≤ e → e ≤ (nd xs (k + 1)).di → p d = true → p e = true) ∨ (∀ d e : Int, (nd xs k).di ≤ d → d ≤ e → e ≤ (nd xs (k + 1)).di → p e = true → p d = true)
theorem ed_bd {xs : List Pth} (o : Ok xs) {k : Nat} (hk : k < xs.length) : 1 ≤ ed xs k ∧ ed xs k ≤ la xs ∧ (nd xs k).di ≤ ed xs k := by
  have hl := o.last
  have n2 := o.n2
  unfold ed
  split
  · next h => subst h; rw [o.d0]; omega
  · have a := o.lt (show 0 < k by omega) hk
    have b := o.le (show k ≤ xs.length - 1 by omega) (by omega)
    rw [o.d0] at a
    exact ⟨by omega, b, Int.le_refl _⟩
theorem leg_ed {xs : List Pth} (o : Ok xs) {p : Int → Bool} (hL : Leg xs p) {d : Int} (h0 : 1 ≤ d) (h : d ≤ la xs) (hp : p d = true) : p (ed xs (gi xs d)) = true ∨ (p (ed xs (gi xs d + 1)) = true ∧ ∀ e, d ≤ e → e ≤ (nd xs (gi xs d + 1)).di → p e = true) := by
  obtain ⟨h1, h2, h3⟩ := gi_spec o h
  have hlo := gi_lo o h0 h
  generalize gi xs d = k at *
  rcases hL k h1 with l | l
  · right
    refine ⟨?_, fun e he1 he2 => l d e (by omega) he1 he2 hp⟩
    unfold ed; rw [if_neg (by omega)]
    exact l d _ (by omega) h2 (Int.le_refl _) hp
  · left
    have b := ed_bd o (k := k) (by omega)
    refine l _ d b.2.2 ?_ h2 hp
    unfold ed; split <;> omega
theorem fw_none {xs : List Pth} (o : Ok xs) {p : Int → Bool} (hL : Leg xs p) (h : ∀ k, k < xs.length → p (ed xs k) = false) : fi (fun i => p ((i : Int) + 1)) (la xs).toNat = (la xs).toNat := by
  refine fi_all (fun i hi => ?_)
  rw [Bool.eq_false_iff]
  intro hp
  have hl : (i : Int) + 1 ≤ la xs := by have := o.last; omega
  obtain ⟨h1, h2, h3⟩ := gi_spec o hl
  rcases leg_ed o hL (by omega) hl hp with a | a
  · rw [h _ (by omega)] at a; cases a
  · rw [h _ h1] at a; cases a.1
theorem fw_mono {xs : List Pth} (o : Ok xs) {p : Int → Bool} (hL : Leg xs p) {k : Nat} (hk : k < xs.length) (hf : ∀ j, j < k → p (ed xs j) = false) {d e : Int} (h0 : 1 ≤ d) (h1 : d ≤ e) (h2 : e ≤ ed xs k) (hp : p d = true) : p e = true := by
  have b := ed_bd o hk
  by_cases hk0 : k = 0
  · have : ed xs k = 1 := by unfold ed; rw [if_pos hk0]
    have : e = d := by omega
    rw [this]; exact hp
  · have hek : ed xs k = (nd xs k).di := by unfold ed; rw [if_neg hk0]
    have hl : d ≤ la xs := by omega
    obtain ⟨g1, g2, g3⟩ := gi_spec o hl
    have glo := gi_lo o h0 hl
    have hj : gi xs d < k := by
      rcases Nat.lt_or_ge (gi xs d) k with h | h
      · exact h
      · have := o.le h (by omega); omega
    rcases leg_ed o hL h0 hl hp with a | ⟨a, c⟩
    · rw [hf _ hj] at a; cases a
    · rcases Nat.lt_or_ge (gi xs d + 1) k with h | h
      · rw [hf _ h] at a; cases a
      · have he : gi xs d + 1 = k := by omega
        rw [he] at c
        exact c e h1 (by omega)
theorem fw_some {xs : List Pth} (o : Ok xs) {p : Int → Bool} {k : Nat} (hk : k < xs.length) (hp : p (ed xs k) = true) {m : Nat} (hm : m ≤ (ed xs k).toNat - 1) (h1 : ∀ i : Nat, i < m → p ((i : Int) + 1) = false) (h2 : m < (ed xs k).toNat - 1 → p ((m : Int) + 1) = true) :
    fi (fun i => p ((i : Int) + 1)) (la xs).toNat = m ∧ m < (la xs).toNat := by
  have b := ed_bd o hk
  have hlt : m < (la xs).toNat := by omega
  refine ⟨fi_eq (by omega) h1 (fun _ => ?_), hlt⟩
  rcases Nat.lt_or_ge m ((ed xs k).toNat - 1) with h | h
  · exact h2 h
  · rw [show (m : Int) + 1 = ed xs k by omega]; exact hp

/-! ### where a mass stops -/
/-- how many whole metres there are before the mass stops -/
def st (xs : List Pth) (t : Int) : Nat := fi (fun i => decide (hi xs t ((i : Int) + 1) ≤ 0)) (la xs).toNat
theorem st_le (xs : List Pth) (t : Int) : st xs t ≤ (la xs).toNat := fi_le _ _
theorem st_no {xs : List Pth} {t d : Int} (h0 : 1 ≤ d) (h : d ≤ st xs t) : 0 < hi xs t d := by
  have := of_decide_eq_false (fi_no (p := fun i => decide (hi xs t ((i : Int) + 1) ≤ 0)) (n := (la xs).toNat) (i := (d - 1).toNat) (by show (d - 1).toNat < st xs t; omega))
  rw [show (((d - 1).toNat : Nat) : Int) + 1 = d by omega] at this
  omega
theorem st_yes {xs : List Pth} {t : Int} (h : st xs t < (la xs).toNat) : hi xs t ((st xs t : Int) + 1) ≤ 0 := of_decide_eq_true (fi_yes (p := fun i => decide (hi xs t ((i : Int) + 1) ≤ 0)) h)
theorem leg_st {xs : List Pth} (o : Ok xs) {t : Int} (ht : 0 ≤ t) : Leg xs (fun d => decide (hi xs t d ≤ 0)) := by
  intro k hk
  rcases leg o ht hk with l | l
  · left; intro d e h1 h2 h3 hp
    have := l h1 h2 h3
    have := of_decide_eq_true hp
    exact decide_eq_true (by omega)
  · right; intro d e h1 h2 h3 hp
    have := l h1 h2 h3
    have := of_decide_eq_true hp
    exact decide_eq_true (by omega)
theorem leg_hi {xs : List Pth} (o : Ok xs) {t m : Int} (ht : 0 ≤ t) : Leg xs (fun d => decide (m ≤ hi xs t d)) := by
  intro k hk
  rcases leg o ht hk with l | l
  · right; intro d e h1 h2 h3 hp
    have := l h1 h2 h3
    have := of_decide_eq_true hp
    exact decide_eq_true (by omega)
  · left; intro d e h1 h2 h3 hp
    have := l h1 h2 h3
    have := of_decide_eq_true hp
    exact decide_eq_true (by omega)
/-- steeper lines stop no later -/
theorem st_steep {xs : List Pth} {t u : Int} (h : t ≤ u) : st xs u ≤ st xs t := by
  rcases Nat.lt_or_ge (st xs t) (st xs u) with hlt | hge
  · have h1 := st_le xs u
    have a := st_yes (xs := xs) (t := t) (by omega)
    have b := st_no (xs := xs) (t := u) (d := (st xs t : Int) + 1) (by omega) (by omega)
    have : hi xs u ((st xs t : Int) + 1) ≤ hi xs t ((st xs t : Int) + 1) := by
      unfold hi en
      have := Int.mul_le_mul_of_nonneg_right h (show (0 : Int) ≤ (st xs t : Int) + 1 by omega)
      omega
    omega
  · exact hge

/-! ### where it is fastest -/
/-- how high the line is at most in the first k metres, and where first -/
def mo (xs : List Pth) (t : Int) : Nat → Int
  | 0 => 0
  | k + 1 => if mo xs t k < hi xs t ((k : Int) + 1) then hi xs t ((k : Int) + 1) else mo xs t k
def be (xs : List Pth) (t : Int) : Nat → Nat
  | 0 => 0
  | k + 1 => if mo xs t k < hi xs t ((k : Int) + 1) then k + 1 else be xs t k
theorem mo_s (xs : List Pth) (t : Int) (k : Nat) : mo xs t (k + 1) = if mo xs t k < hi xs t ((k : Int) + 1) then hi xs t ((k : Int) + 1) else mo xs t k := rfl
theorem be_s (xs : List Pth) (t : Int) (k : Nat) : be xs t (k + 1) = if mo xs t k < hi xs t ((k : Int) + 1) then k + 1 else be xs t k := rfl
theorem mo_nn (xs : List Pth) (t : Int) (k : Nat) : 0 ≤ mo xs t k := by
  induction k with
  | zero => exact Int.le_refl _
  | succ k ih => unfold mo; split <;> omega
theorem mo_ge {xs : List Pth} {t : Int} : ∀ {k : Nat} {d : Int}, 1 ≤ d → d ≤ k → hi xs t d ≤ mo xs t k := by
  intro k
  induction k with
  | zero => intro d h1 h2; omega
  | succ k ih =>
    intro d h1 h2
    unfold mo
    by_cases e : d = (k : Int) + 1
    · subst e; split <;> omega
    · have := ih h1 (show d ≤ (k : Int) by omega)
      split <;> omega
theorem be_spec (xs : List Pth) (t : Int) : ∀ k, (be xs t k = 0 ∧ mo xs t k = 0) ∨ (1 ≤ be xs t k ∧ be xs t k ≤ k ∧ 0 < mo xs t k ∧ hi xs t (be xs t k : Int) = mo xs t k ∧ ∀ d : Int, 1 ≤ d → d < be xs t k → hi xs t d < mo xs t k) := by
  intro k
  induction k with
  | zero => left; exact ⟨rfl, rfl⟩
  | succ k ih =>
    have nn := mo_nn xs t k
    have ge := fun d => mo_ge (xs := xs) (t := t) (k := k) (d := d)
    rw [be_s, mo_s]
    by_cases h : mo xs t k < hi xs t ((k : Int) + 1)
    · rw [if_pos h, if_pos h]
      right
      refine ⟨by omega, Nat.le_refl _, by omega, by simp, fun d h1 h2 => ?_⟩
      have := ge d h1 (by omega)
      omega
    · rw [if_neg h, if_neg h]
      rcases ih with a | ⟨a1, a2, a3, a4, a5⟩
      · left; exact a
      · right; exact ⟨a1, by omega, a3, a4, a5⟩
theorem mo_st {xs : List Pth} {t : Int} (h : mo xs t (st xs t) = 0) : st xs t = 0 := by
  by_cases h0 : st xs t = 0
  · exact h0
  · have a := st_no (xs := xs) (t := t) (d := 1) (by omega) (by omega)
    have b := mo_ge (xs := xs) (t := t) (k := st xs t) (d := 1) (by omega) (by omega)
    omega
theorem be_le (xs : List Pth) (t : Int) (k : Nat) : be xs t k ≤ k := by rcases be_spec xs t k with h | h <;> omega
/-- the same by the ends of legs that lie before the stop -/
def pm (xs : List Pth) (t : Int) : Nat → Int
  | 0 => 0
  | k + 1 => if ed xs k ≤ st xs t then max (pm xs t k) (hi xs t (ed xs k)) else pm xs t k
theorem pm_nn (xs : List Pth) (t : Int) (k : Nat) : 0 ≤ pm xs t k := by
  induction k with
  | zero => exact Int.le_refl _
  | succ k ih => unfold pm; split <;> omega
theorem pm_ge {xs : List Pth} {t : Int} : ∀ {k j : Nat}, j < k → ed xs j ≤ st xs t → hi xs t (ed xs j) ≤ pm xs t k := by
  intro k
  induction k with
  | zero => intro j h; omega
  | succ k ih =>
    intro j h1 h2
    unfold pm
    by_cases e : j = k
    · subst e; rw [if_pos h2]; omega
    · have := ih (show j < k by omega) h2
      split <;> omega
theorem pm_le {xs : List Pth} (o : Ok xs) {t : Int} : ∀ {k : Nat}, k ≤ xs.length → pm xs t k ≤ mo xs t (st xs t) := by
  intro k
  induction k with
  | zero => intro _; exact mo_nn _ _ _
  | succ k ih =>
    intro hk
    have a := ih (by omega)
    have b := ed_bd o (k := k) (by omega)
    unfold pm
    split
    · next h => have := mo_ge (xs := xs) (t := t) (k := st xs t) b.1 h; omega
    · exact a
theorem pm_eq {xs : List Pth} (o : Ok xs) {t : Int} (ht : 0 ≤ t) : pm xs t xs.length = mo xs t (st xs t) := by
  have hle := pm_le o (t := t) (Nat.le_refl _)
  have hnn := pm_nn xs t xs.length
  rcases be_spec xs t (st xs t) with h | ⟨b1, b2, b3, b4, b5⟩
  · omega
  · have hsl := st_le xs t
    have hl := o.last
    have hd : (be xs t (st xs t) : Int) ≤ la xs := by omega
    obtain ⟨g1, g2, g3⟩ := gi_spec o hd
    have glo := gi_lo o (by omega) hd
    have e0 := ed_bd o (k := gi xs (be xs t (st xs t))) (by omega)
    have hed : ed xs (gi xs (be xs t (st xs t))) ≤ be xs t (st xs t) := by unfold ed; split <;> omega
    rcases leg o ht g1 with l | l
    · have a := l e0.2.2 hed g2
      have c := pm_ge (xs := xs) (t := t) (k := xs.length) (j := gi xs (be xs t (st xs t))) (by omega) (by omega)
      omega
    · by_cases hx : (nd xs (gi xs (be xs t (st xs t)) + 1)).di ≤ st xs t
      · have a := l (by omega) g2 (Int.le_refl _)
        have hed2 : ed xs (gi xs (be xs t (st xs t)) + 1) = (nd xs (gi xs (be xs t (st xs t)) + 1)).di := by unfold ed; rw [if_neg (by omega)]
        have c := pm_ge (xs := xs) (t := t) (k := xs.length) (j := gi xs (be xs t (st xs t)) + 1) g1 (by omega)
        rw [hed2] at c
        omega
      · have hls := o.le (show gi xs (be xs t (st xs t)) + 1 ≤ xs.length - 1 by omega) (by omega)
        have hlt : st xs t < (la xs).toNat := by unfold la at *; omega
        have y := st_yes hlt
        have a := l (d := (be xs t (st xs t) : Int)) (e := (st xs t : Int) + 1) (by omega) (by omega) (by omega)
        omega
/-- where the line is highest, by a search -/
theorem be_fi {xs : List Pth} (o : Ok xs) {t m : Int} (hm : m = mo xs t (st xs t)) (h : 0 < m) : fi (fun i => decide (m ≤ hi xs t ((i : Int) + 1))) (la xs).toNat + 1 = be xs t (st xs t) ∧ ∃ d, 1 ≤ d ∧ d ≤ la xs ∧ m ≤ hi xs t d := by
  subst hm
  have hsl := st_le xs t
  have hl := o.last
  rcases be_spec xs t (st xs t) with h' | ⟨b1, b2, b3, b4, b5⟩
  · omega
  · refine ⟨?_, be xs t (st xs t), by omega, by omega, by omega⟩
    have := fi_eq (p := fun i : Nat => decide (mo xs t (st xs t) ≤ hi xs t ((i : Int) + 1))) (n := (la xs).toNat) (k := be xs t (st xs t) - 1) (by omega)
      (fun i hi => decide_eq_false (by have := b5 ((i : Int) + 1) (by omega) (by omega); omega))
      (fun _ => decide_eq_true (by rw [show ((be xs t (st xs t) - 1 : Nat) : Int) + 1 = be xs t (st xs t) by omega, b4]; exact Int.le_refl _))
    rw [this]; omega
end An
end Go.Proofs.YtmieckchppfogaaGreatDoor
