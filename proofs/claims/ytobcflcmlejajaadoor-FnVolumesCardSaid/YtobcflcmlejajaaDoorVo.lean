import Derived.Test.YtobcflcmlejajaaDoorPat
/-
  Plain mathematics of chapter 12: when parts are valid, how masses grow, are divided and joined. No Go in sight.
-/
namespace Go.Proofs.YtobcflcmlejajaaDoor
set_option linter.unusedVariables false
namespace Vm
theorem inB_iff {l x h : Int} : Ar.inB l x h = true ↔ l ≤ x ∧ x ≤ h := by unfold Ar.inB; simp
theorem inB_no {l x h : Int} : Ar.inB l x h = false ↔ ¬ (l ≤ x ∧ x ≤ h) := by rw [← inB_iff]; simp
theorem nt {b : Bool} (h : ¬ b = true) : b = false := by simpa using h
/-- is a part valid? -/
def okP (x : Pat) : Bool := Ar.inB 1 x.le 2000 && Ar.inB 1 x.wi 500 && Ar.inB 0 x.de 500 && Ar.inB 1 x.dn 1000
structure Fits (x : Pat) : Prop where
  l1 : 1 ≤ x.le
  l2 : x.le ≤ 2000
  w1 : 1 ≤ x.wi
  w2 : x.wi ≤ 500
  d1 : 0 ≤ x.de
  d2 : x.de ≤ 500
  n1 : 1 ≤ x.dn
  n2 : x.dn ≤ 1000
theorem okP_iff (x : Pat) : okP x = true ↔ Fits x := by
  unfold okP
  simp only [Bool.and_eq_true, inB_iff]
  exact ⟨fun ⟨⟨⟨a, b⟩, c⟩, d⟩ => ⟨a.1, a.2, b.1, b.2, c.1, c.2, d.1, d.2⟩, fun h => ⟨⟨⟨⟨h.l1, h.l2⟩, h.w1, h.w2⟩, h.d1, h.d2⟩, h.n1, h.n2⟩⟩
theorem okP_0 {x : Pat} (h : Ar.inB 1 x.le 2000 = false) : okP x = false := by unfold okP; rw [h]; simp
theorem okP_1 {x : Pat} (h : Ar.inB 1 x.wi 500 = false) : okP x = false := by unfold okP; rw [h]; simp
theorem okP_2 {x : Pat} (h : Ar.inB 0 x.de 500 = false) : okP x = false := by unfold okP; rw [h]; simp
theorem okP_3 {x : Pat} (h : Ar.inB 1 x.dn 1000 = false) : okP x = false := by unfold okP; rw [h]; simp
theorem okP_t {x : Pat} (h0 : Ar.inB 1 x.le 2000 = true) (h1 : Ar.inB 1 x.wi 500 = true) (h2 : Ar.inB 0 x.de 500 = true) : okP x = Ar.inB 1 x.dn 1000 := by unfold okP; rw [h0, h1, h2]; simp
/-- are parts valid? -/
def okS (xs : List Pat) : Bool := xs.all okP && decide (xs.length ≤ 24)
theorem all_snoc {xs : List Pat} {k : Nat} (h : k < xs.length) (hp : (xs.take k).all okP = true) (hx : okP xs[k] = true) : (xs.take (k + 1)).all okP = true := by
  rw [List.take_succ_eq_append_getElem h, List.all_append, hp]; simp [hx]
theorem okS_bad {xs : List Pat} {k : Nat} (h : k < xs.length) (hq : okP xs[k] = false) : okS xs = false := by
  have : xs.all okP = false := by
    rw [Bool.eq_false_iff]; intro hc
    rw [List.all_eq_true] at hc
    have := hc _ (List.getElem_mem h)
    rw [hq] at this; cases this
  unfold okS; rw [this]; rfl
theorem okS_in {xs : List Pat} (h : (xs.take xs.length).all okP = true) : okS xs = decide (xs.length ≤ 24) := by
  rw [List.take_length] at h; unfold okS; rw [h]; rfl
theorem okS_iff (xs : List Pat) : okS xs = true ↔ (∀ x ∈ xs, Fits x) ∧ xs.length ≤ 24 := by
  unfold okS
  simp only [Bool.and_eq_true, decide_eq_true_eq, List.all_eq_true, okP_iff]
theorem okS_at {xs : List Pat} (h : okS xs = true) {k : Nat} (hk : k < xs.length) : Fits xs[k] := ((okS_iff xs).1 h).1 _ (List.getElem_mem hk)
theorem okS_len {xs : List Pat} (h : okS xs = true) : xs.length ≤ 24 := ((okS_iff xs).1 h).2
theorem not_any (xs : List Pat) : (xs.any fun x => !okP x) = !xs.all okP := by
  induction xs with
  | nil => rfl
  | cons x xs ih => rw [List.any_cons, List.all_cons, ih, Bool.not_and]
theorem okS_long {xs : List Pat} (h1 : ¬ xs.length ≤ 24) : okS xs = false := by unfold okS; rw [decide_eq_false h1]; simp
theorem okS_eq {xs : List Pat} (h2 : xs.length ≤ 24) : okS xs = xs.all okP := by unfold okS; rw [decide_eq_true h2]; simp

/-! ### nearest quotients -/
theorem dr_eq {a b : Int} (ha : 0 ≤ a) (hb : 0 < b) : Ar.dr a b = (2 * a + b) / (2 * b) := by
  unfold Ar.dr Ar.drp; rw [if_neg (by omega), if_neg (by omega)]
theorem dr_nn {a b : Int} (ha : 0 ≤ a) (hb : 0 < b) : 0 ≤ Ar.dr a b := by rw [dr_eq ha hb]; exact Int.ediv_nonneg (by omega) (by omega)
theorem dr_mono {a a' b : Int} (ha : 0 ≤ a) (h : a ≤ a') (hb : 0 < b) : Ar.dr a b ≤ Ar.dr a' b := by
  rw [dr_eq ha hb, dr_eq (by omega) hb]; exact Int.ediv_le_ediv (by omega) (by omega)
theorem dr_le {a b c : Int} (ha : 0 ≤ a) (hb : 0 < b) (h : a ≤ c * b) : Ar.dr a b ≤ c := by
  rw [dr_eq ha hb]
  have : (2 * a + b) / (2 * b) < c + 1 := Int.ediv_lt_of_lt_mul (by omega) (by rw [Int.add_mul, Int.mul_comm 2 b, ← Int.mul_assoc]; omega)
  omega
theorem dr_mul {a b : Int} (ha : 0 ≤ a) (hb : 0 < b) : Ar.dr (a * b) b = a := by
  rw [dr_eq (Int.mul_nonneg ha (by omega)) hb]
  exact Ar.ediv_unique (by omega) (by rw [Int.mul_left_comm]; omega) (by rw [Int.add_mul, Int.mul_left_comm]; omega)
theorem dr_zero {b : Int} (hb : 0 < b) : Ar.dr 0 b = 0 := by have := dr_mul (a := 0) (b := b) (by omega) hb; rwa [Int.zero_mul] at this

/-! ### slabs -/
/-- the mass of a slab -/
def slab (q d n : Int) : Int := Ar.dr (q * d * n) 100000
theorem prod3 {q d n : Int} (h1 : 0 ≤ q) (h2 : q ≤ 1000000) (h3 : 0 ≤ d) (h4 : d ≤ 1000) (h5 : 0 ≤ n) (h6 : n ≤ 1000) : 0 ≤ q * d ∧ q * d ≤ 1000000000 ∧ 0 ≤ q * d * n ∧ q * d * n ≤ 1000000000000 := by
  have a1 : 0 ≤ q * d := Int.mul_nonneg h1 h3
  have a2 : q * d ≤ 1000000 * 1000 := Int.mul_le_mul h2 h4 h3 (by omega)
  have a3 : q * d * n ≤ 1000000000 * 1000 := Int.mul_le_mul (by omega) h6 h5 (by omega)
  exact ⟨a1, by omega, Int.mul_nonneg a1 h5, by omega⟩
theorem slab_bd {q d n : Int} (h1 : 0 ≤ q) (h2 : q ≤ 1000000) (h3 : 0 ≤ d) (h4 : d ≤ 1000) (h5 : 0 ≤ n) (h6 : n ≤ 1000) : 0 ≤ slab q d n ∧ slab q d n ≤ 10000000 := by
  obtain ⟨a, b, c, e⟩ := prod3 h1 h2 h3 h4 h5 h6
  exact ⟨dr_nn c (by omega), dr_le c (by omega) (by omega)⟩
def slV (q d : Int) : Int := if Ar.inB 0 q 1000000 && Ar.inB 0 d 1000 then Ar.dr (q * d) 100 else 0
def slC (q d : Int) : Int := if Ar.inB 0 q 1000000 && Ar.inB 0 d 1000 then 0 else 2
def stV (q d n : Int) : Int := if Ar.inB 0 q 1000000 && Ar.inB 0 d 1000 && Ar.inB 1 n 1000 then slab q d n else 0
def stC (q d n : Int) : Int := if Ar.inB 0 q 1000000 && Ar.inB 0 d 1000 && Ar.inB 1 n 1000 then 0 else 2
/-- a number that is a mass -/
def ton (t : Int) : Bool := Ar.inB 0 t 100000000
/-- the size of a mass -/
def cls (t : Int) : Int := if t < 10 then 1 else if t < 100 then 2 else if t < 1000 then 3 else if t < 10000 then 4 else 5
def szV (t : Int) : Int := if ton t then cls t else 0
def szC (t : Int) : Int := if ton t then 0 else 2
def ddV (t q n : Int) : Int := if ton t && Ar.inB 1 q 1000000 && Ar.inB 1 n 1000 then Ar.dr (t * 100000) (q * n) else 0
def ddC (t q n : Int) : Int := if ton t && Ar.inB 1 q 1000000 && Ar.inB 1 n 1000 then 0 else 2

/-! ### growth -/
/-- what a part has to give -/
def has (x : Pat) (s : Int) : Int := Ar.dr (slab (x.le * x.wi) x.de x.dn * s) 1000
def tk (x : Pat) (t s : Int) : Int := min t (has x s)
theorem area_bd {x : Pat} (h : Fits x) : 0 ≤ x.le * x.wi ∧ x.le * x.wi ≤ 1000000 := by
  have := h.l1; have := h.w1
  have h2 : x.le * x.wi ≤ 2000 * 500 := Int.mul_le_mul h.l2 h.w2 (by omega) (by omega)
  exact ⟨Int.mul_nonneg (by omega) (by omega), by omega⟩
theorem slabP_bd {x : Pat} (h : Fits x) : 0 ≤ slab (x.le * x.wi) x.de x.dn ∧ slab (x.le * x.wi) x.de x.dn ≤ 10000000 := by
  obtain ⟨a, b⟩ := area_bd h
  have := h.d1; have := h.d2; have := h.n1; have := h.n2
  exact slab_bd a b (by omega) (by omega) (by omega) (by omega)
theorem has_mul {x : Pat} (h : Fits x) {s : Int} (h0 : 0 ≤ s) (h1 : s ≤ 1000) : 0 ≤ slab (x.le * x.wi) x.de x.dn * s ∧ slab (x.le * x.wi) x.de x.dn * s ≤ 10000000000 := by
  obtain ⟨a, b⟩ := slabP_bd h
  have := Int.mul_le_mul b h1 h0 (by omega : (0 : Int) ≤ 10000000)
  exact ⟨Int.mul_nonneg a h0, by omega⟩
theorem has_bd {x : Pat} (h : Fits x) {s : Int} (h0 : 0 ≤ s) (h1 : s ≤ 1000) : 0 ≤ has x s ∧ has x s ≤ 10000000 := by
  obtain ⟨a, b⟩ := has_mul h h0 h1
  exact ⟨dr_nn a (by omega), dr_le a (by omega) (by omega)⟩
theorem tk_bd {x : Pat} (h : Fits x) {t s : Int} (ht : 0 ≤ t) (h0 : 0 ≤ s) (h1 : s ≤ 1000) : 0 ≤ tk x t s ∧ tk x t s ≤ t ∧ tk x t s ≤ 10000000 := by
  have := has_bd h h0 h1
  unfold tk; omega
/-- the mass behind k parts -/
def ma (xs : List Pat) (t s : Int) (k : Nat) : Int := (xs.take k).foldl (fun t x => t + tk x t s) t
theorem ma_0 (xs : List Pat) (t s : Int) : ma xs t s 0 = t := rfl
theorem ma_succ {xs : List Pat} {t s : Int} {k : Nat} (h : k < xs.length) : ma xs t s (k + 1) = ma xs t s k + tk xs[k] (ma xs t s k) s := by
  unfold ma; rw [List.take_succ_eq_append_getElem h, List.foldl_append]; rfl
/-- the masses behind the first k parts -/
def gr (xs : List Pat) (t s : Int) (k : Nat) : List Int := (List.range k).map fun i => ma xs t s (i + 1)
/-- the mass ahead of the path and the masses behind the first k parts -/
def ms (xs : List Pat) (t s : Int) (k : Nat) : List Int := (List.range (k + 1)).map fun i => ma xs t s i
theorem gr_length (xs : List Pat) (t s : Int) (k : Nat) : (gr xs t s k).length = k := by unfold gr; simp
theorem ms_length (xs : List Pat) (t s : Int) (k : Nat) : (ms xs t s k).length = k + 1 := by unfold ms; simp
theorem gr_0 (xs : List Pat) (t s : Int) : gr xs t s 0 = [] := rfl
theorem gr_succ (xs : List Pat) (t s : Int) (k : Nat) : gr xs t s (k + 1) = gr xs t s k ++ [ma xs t s (k + 1)] := by unfold gr; rw [List.range_succ, List.map_append]; rfl
theorem ms_0 (xs : List Pat) (t s : Int) : ms xs t s 0 = [t] := rfl
theorem ms_succ (xs : List Pat) (t s : Int) (k : Nat) : ms xs t s (k + 1) = ms xs t s k ++ [ma xs t s (k + 1)] := by
  unfold ms; rw [List.range_succ (n := k + 1), List.map_append]; rfl
theorem ms_cons (xs : List Pat) (t s : Int) (k : Nat) : ms xs t s k = t :: gr xs t s k := by
  unfold ms gr; rw [List.range_succ_eq_map, List.map_cons, List.map_map]; rfl
theorem ms_at? (xs : List Pat) (t s : Int) {n k : Nat} (h : k < n + 1) : (ms xs t s n)[k]? = some (ma xs t s k) := by unfold ms; simp [h]
theorem gr_at? (xs : List Pat) (t s : Int) {n k : Nat} (h : k < n) : (gr xs t s n)[k]? = some (ma xs t s (k + 1)) := by unfold gr; simp [h]
theorem ms_at {xs : List Pat} {t s : Int} {n k : Nat} (h : k < (ms xs t s n).length) : (ms xs t s n)[k] = ma xs t s k :=
  Option.some.inj ((List.getElem?_eq_getElem h).symm.trans (ms_at? xs t s (by rw [ms_length] at h; exact h)))
theorem gr_at {xs : List Pat} {t s : Int} {n k : Nat} (h : k < (gr xs t s n).length) : (gr xs t s n)[k] = ma xs t s (k + 1) :=
  Option.some.inj ((List.getElem?_eq_getElem h).symm.trans (gr_at? xs t s (by rw [gr_length] at h; exact h)))
theorem ma_nn {xs : List Pat} {t s : Int} (hv : okS xs = true) (ht : 0 ≤ t) (h0 : 0 ≤ s) (h1 : s ≤ 1000) : ∀ k, k ≤ xs.length → t ≤ ma xs t s k
  | 0, _ => by rw [ma_0]; omega
  | k + 1, h => by
    have := ma_nn hv ht h0 h1 k (by omega)
    rw [ma_succ (show k < xs.length by omega)]
    have := tk_bd (okS_at hv (show k < xs.length by omega)) (t := ma xs t s k) (by omega) h0 h1
    omega
theorem ma_up {xs : List Pat} {t s : Int} (hv : okS xs = true) (ht : 0 ≤ t) (h0 : 0 ≤ s) (h1 : s ≤ 1000) {k : Nat} (h : k < xs.length) : ma xs t s k ≤ ma xs t s (k + 1) ∧ ma xs t s (k + 1) ≤ 2 * ma xs t s k ∧ ma xs t s (k + 1) ≤ ma xs t s k + 10000000 := by
  have := ma_nn hv ht h0 h1 k (by omega)
  rw [ma_succ h]
  have := tk_bd (okS_at hv h) (t := ma xs t s k) (by omega) h0 h1
  omega
theorem ma_le {xs : List Pat} {t s : Int} (hv : okS xs = true) (ht : 0 ≤ t) (h0 : 0 ≤ s) (h1 : s ≤ 1000) {j k : Nat} (hjk : j ≤ k) (h : k ≤ xs.length) : ma xs t s j ≤ ma xs t s k := by
  induction k with
  | zero => have : j = 0 := by omega
            subst this; omega
  | succ k ih =>
    by_cases e : j = k + 1
    · subst e; omega
    · have := ih (by omega) (by omega)
      have := (ma_up hv ht h0 h1 (show k < xs.length by omega)).1
      omega
theorem ma_mono {xs : List Pat} {t t' s : Int} (htt : t ≤ t') : ∀ k, k ≤ xs.length → ma xs t s k ≤ ma xs t' s k
  | 0, _ => by rw [ma_0, ma_0]; exact htt
  | k + 1, h => by
    have := ma_mono (xs := xs) (s := s) htt k (by omega)
    rw [ma_succ (show k < xs.length by omega), ma_succ (show k < xs.length by omega)]
    unfold tk
    omega
/-- is no mass too great? -/
def fit (xs : List Pat) (t s : Int) : Bool := decide (ma xs t s xs.length ≤ 100000000)
theorem fit_f {xs : List Pat} {t s : Int} (hv : okS xs = true) (ht : 0 ≤ t) (h0 : 0 ≤ s) (h1 : s ≤ 1000) {k : Nat} (hk : k ≤ xs.length) (h : ¬ ma xs t s k ≤ 100000000) : fit xs t s = false := by
  have := ma_le hv ht h0 h1 hk (Nat.le_refl _)
  unfold fit; exact decide_eq_false (by omega)
theorem fit_t {xs : List Pat} {t s : Int} {k : Nat} (hk : k = xs.length) (h : ma xs t s k ≤ 100000000) : fit xs t s = true := by
  subst hk; unfold fit; exact decide_eq_true h
theorem fit_all {xs : List Pat} {t s : Int} (hv : okS xs = true) (ht : 0 ≤ t) (h0 : 0 ≤ s) (h1 : s ≤ 1000) (hf : fit xs t s = true) {k : Nat} (hk : k ≤ xs.length) : 0 ≤ ma xs t s k ∧ ma xs t s k ≤ 100000000 := by
  have := ma_le hv ht h0 h1 hk (Nat.le_refl _)
  have := ma_nn hv ht h0 h1 k hk
  unfold fit at hf; have := of_decide_eq_true hf
  omega
end Vm
end Go.Proofs.YtobcflcmlejajaaDoor
