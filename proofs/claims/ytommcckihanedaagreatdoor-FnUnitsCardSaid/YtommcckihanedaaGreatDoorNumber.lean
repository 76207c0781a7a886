/-
  Plain mathematics of a decimal text: which texts are numbers of at most 18 digits, and that the library's reader and writer agree with it. No Go in sight.
-/
import Derived.Lib.ParseIntB
import Derived.Lib.ItoaNum
namespace Go.Proofs.YtommcckihanedaaGreatDoor.Nu
open Go.Lib

def dgB (c : UInt8) : Bool := decide (48 ≤ c.toNat ∧ c.toNat ≤ 57)
def stp (a : Nat) (c : UInt8) : Nat := a * 10 + (c.toNat - 48)
def val (l : List UInt8) : Nat := l.foldl stp 0
def body (l : List UInt8) : List UInt8 := match l with | [] => [] | c :: r => if c.toNat = 45 then r else c :: r
def neg (l : List UInt8) : Bool := match l with | [] => false | c :: _ => decide (c.toNat = 45)
def hd48 (l : List UInt8) : Bool := match l with | [] => false | c :: _ => decide (c.toNat = 48)
/-- the number that a text is -/
def rd (l : List UInt8) : Option Int :=
  if body l = [] ∨ 18 < (body l).length ∨ (hd48 (body l) = true ∧ 1 < l.length) ∨ (body l).all dgB = false then none else some (if neg l then -(val (body l) : Int) else val (body l))

theorem val_snoc (l : List UInt8) (c : UInt8) : val (l ++ [c]) = val l * 10 + (c.toNat - 48) := by unfold val; rw [List.foldl_append]; rfl
theorem dgB_iff (c : UInt8) : dgB c = true ↔ 48 ≤ c.toNat ∧ c.toNat ≤ 57 := by unfold dgB; simp
theorem fold_ge (l : List UInt8) : ∀ a, a ≤ l.foldl stp a := by
  induction l with
  | nil => intro a; exact Nat.le_refl _
  | cons c r ih => intro a; exact Nat.le_trans (by unfold stp; omega) (ih (stp a c))
theorem fold_lt (l : List UInt8) (h : l.all dgB = true) : ∀ a, l.foldl stp a < (a + 1) * 10 ^ l.length := by
  induction l with
  | nil => intro a; simp
  | cons c r ih =>
    intro a
    simp only [List.all_cons, Bool.and_eq_true, dgB_iff] at h
    have := ih h.2 (stp a c)
    rw [List.foldl_cons, List.length_cons, Nat.pow_succ]
    refine Nat.lt_of_lt_of_le this ?_
    rw [show (a + 1) * (10 ^ r.length * 10) = ((a + 1) * 10) * 10 ^ r.length by rw [Nat.mul_comm (10 ^ r.length), Nat.mul_assoc]]
    exact Nat.mul_le_mul_right _ (by unfold stp; omega)
theorem val_lt (l : List UInt8) (h : l.all dgB = true) : val l < 10 ^ l.length := by have := fold_lt l h 0; simpa [val] using this
theorem val_pos {l : List UInt8} (h : l.all dgB = true) (hh : hd48 l = false) (hne : l ≠ []) : 1 ≤ val l := by
  match l, hne with
  | c :: r, _ =>
    simp only [List.all_cons, Bool.and_eq_true, dgB_iff] at h
    simp only [hd48, decide_eq_false_iff_not] at hh
    have := fold_ge r (stp 0 c)
    unfold val; rw [List.foldl_cons]
    unfold stp at this ⊢; omega
theorem ofNat_toNat (c : UInt8) (n : Nat) (h : n = c.toNat) : UInt8.ofNat n = c := by subst h; simp
theorem dec_val : ∀ (k : Nat) (r : List UInt8), r.length = k → r ≠ [] → r.all dgB = true → (hd48 r = false ∨ r.length = 1) → decDigits (val r) = r := by
  intro k
  induction k with
  | zero => intro r h hne; exact absurd (List.eq_nil_of_length_eq_zero h) hne
  | succ k ih =>
    intro r hl hne hall hh
    obtain ⟨i, c, rfl⟩ : ∃ i c, r = i ++ [c] := ⟨r.dropLast, r.getLast hne, (List.dropLast_concat_getLast hne).symm⟩
    simp only [List.length_append, List.length_singleton] at hl
    simp only [List.all_append, List.all_cons, List.all_nil, Bool.and_true, Bool.and_eq_true, dgB_iff] at hall
    rw [val_snoc]
    by_cases hi : i = []
    · subst hi
      rw [decDigits, dif_pos (by simp [val]; omega)]
      simp only [val, List.foldl_nil, List.nil_append]
      rw [ofNat_toNat c _ (by omega)]
    · have hh' : hd48 i = false := by
        match i, hi with
        | x :: xs, _ =>
          rcases hh with h | h
          · simpa [hd48] using h
          · simp at h
      have hp := val_pos hall.1 hh' hi
      rw [decDigits, dif_neg (by omega)]
      rw [show (val i * 10 + (c.toNat - 48)) / 10 = val i by omega, show (val i * 10 + (c.toNat - 48)) % 10 = c.toNat - 48 by omega,
        ih i (by omega) hi hall.1 (Or.inl hh'), ofNat_toNat c _ (by omega)]
theorem toNat_ofNat' (n : Nat) (h : n < 256) : (UInt8.ofNat n).toNat = n := by rw [UInt8.toNat_ofNat']; omega
theorem dec_ne (u : Nat) : decDigits u ≠ [] := by rw [decDigits]; split <;> simp
theorem val_dec : ∀ (u : Nat), val (decDigits u) = u ∧ (decDigits u).all dgB = true ∧ (1 ≤ u → hd48 (decDigits u) = false) := by
  intro u
  induction u using Nat.strongRecOn with
  | ind u ih =>
    rw [decDigits]
    split
    · rename_i h
      have e := toNat_ofNat' (48 + u) (by omega)
      refine ⟨by simp only [val, List.foldl_cons, List.foldl_nil, stp]; rw [e]; omega, by simp [dgB_iff]; omega, fun hu => by simp only [hd48, e]; simp; omega⟩
    · rename_i h
      obtain ⟨h1, h2, h3⟩ := ih (u / 10) (by omega)
      have e := toNat_ofNat' (48 + u % 10) (by omega)
      refine ⟨by rw [val_snoc, h1, e]; omega, by simp [dgB_iff, h2]; omega, fun hu => ?_⟩
      have := h3 (by omega)
      generalize hx : decDigits (u / 10) = x at *
      match x, dec_ne (u / 10) with
      | [], hn => exact absurd hx hn
      | y :: ys, _ => simpa [hd48] using this
theorem parse_ok (l : List UInt8) (h : l.all dgB = true) : ∀ a, l.foldl stp a < 1000000000000000000 → parseUintM (2 ^ 64 - 1) a l = .ok (l.foldl stp a) := by
  induction l with
  | nil => intro a _; rfl
  | cons c r ih =>
    intro a hb
    simp only [List.all_cons, Bool.and_eq_true, dgB_iff] at h
    have hge := fold_ge r (stp a c)
    rw [List.foldl_cons] at hb ⊢
    have h1 : stp a c < 1000000000000000000 := by omega
    unfold stp at h1
    rw [parseUintM, if_pos h.1, if_neg (by omega), if_neg (by omega)]
    exact ih h.2 _ hb
/-- what is a number is read, and written back -/
theorem rd_some {l : List UInt8} {v : Int} (h : rd l = some v) : parseIntB 64 l = .ok v ∧ itoa v = l ∧ (body l).length ≤ 18 ∧ -1000000000000000000 < v ∧ v < 1000000000000000000 := by
  unfold rd at h
  split at h
  · cases h
  · rename_i hc
    have hc1 : body l ≠ [] := fun h => hc (Or.inl h)
    have hc2 : (body l).length ≤ 18 := by have := fun h => hc (Or.inr (Or.inl h)); omega
    have hc3 : ¬ (hd48 (body l) = true ∧ 1 < l.length) := fun h => hc (Or.inr (Or.inr (Or.inl h)))
    have hc4 : (body l).all dgB = true := by have := fun h => hc (Or.inr (Or.inr (Or.inr h))); simpa using this
    simp only [Option.some.injEq] at h
    have hlt : val (body l) < 1000000000000000000 := Nat.lt_of_lt_of_le (val_lt _ hc4) (Nat.le_trans (Nat.pow_le_pow_right (by omega) hc2) (by decide))
    have hpar : parseUintB 64 (body l) = .ok (val (body l)) := by
      unfold parseUintB; rw [if_neg hc1]; exact parse_ok _ hc4 0 hlt
    match l with
    | [] => exact absurd rfl hc1
    | c :: r =>
      by_cases hcm : c.toNat = 45
      · have eb : body (c :: r) = r := by simp [body, hcm]
        have en : neg (c :: r) = true := by simp [neg, hcm]
        rw [eb] at hc1 hc2 hc3 hc4 hlt hpar h
        rw [en, if_pos rfl] at h
        subst h
        have hh : hd48 r = false := by
          rcases Bool.eq_false_or_eq_true (hd48 r) with h | h
          · exact absurd ⟨h, by have := List.length_pos_iff.2 hc1; simp; omega⟩ hc3
          · exact h
        have hp := val_pos hc4 hh hc1
        refine ⟨?_, ?_, by rw [eb]; exact hc2, by omega, by omega⟩
        · unfold parseIntB
          simp only [hcm, or_true, if_true, hpar, not_true_eq_false, false_and, if_false, true_and]
          rw [if_neg (by omega)]
        · unfold itoa
          rw [if_pos (by omega), show (-(val r : Int)).natAbs = val r by omega, dec_val _ r rfl hc1 hc4 (Or.inl hh)]
          congr 1
          rw [← ofNat_toNat c 45 hcm.symm]; rfl
      · have eb : body (c :: r) = c :: r := by simp [body, hcm]
        have en : neg (c :: r) = false := by simp [neg, hcm]
        rw [eb] at hc1 hc2 hc3 hc4 hlt hpar h
        rw [en] at h
        simp only [Bool.false_eq_true, if_false] at h
        subst h
        have hcd : 48 ≤ c.toNat ∧ c.toNat ≤ 57 := by simpa [dgB_iff] using (List.all_eq_true.1 hc4 c (by simp))
        have hh : hd48 (c :: r) = false ∨ (c :: r).length = 1 := by
          rcases Bool.eq_false_or_eq_true (hd48 (c :: r)) with h | h
          · right
            have := fun x => hc3 ⟨h, x⟩
            simp at this ⊢; exact this
          · exact Or.inl h
        refine ⟨?_, ?_, by rw [eb]; exact hc2, by omega, by omega⟩
        · unfold parseIntB
          have h43 : ¬ c.toNat = 43 := by omega
          simp only [h43, hcm, or_self, if_false, hpar, not_false_eq_true, true_and, false_and]
          rw [if_neg (by omega)]
        · unfold itoa
          rw [if_neg (by omega), Int.toNat_natCast, dec_val _ _ rfl hc1 hc4 hh]
/-- what is written, with at most 18 digits, is a number -/
theorem rd_of {l : List UInt8} {v : Int} (h : itoa v = l) (hb : (body l).length ≤ 18) : rd l = some v := by
  subst h
  by_cases hv : v < 0
  · obtain ⟨u, rfl⟩ : ∃ u : Nat, v = -(u : Int) := ⟨v.natAbs, by omega⟩
    obtain ⟨h1, h2, h3⟩ := val_dec u
    have e : itoa (-(u : Int)) = 45 :: decDigits u := by unfold itoa; rw [if_pos hv]; simp
    rw [e] at hb ⊢
    have eb : body (45 :: decDigits u) = decDigits u := rfl
    have en : neg (45 :: decDigits u) = true := rfl
    rw [eb] at hb
    unfold rd
    rw [eb, en, h1, h2, h3 (by omega), if_neg (by simp [dec_ne]; omega), if_pos rfl]
  · obtain ⟨u, rfl⟩ := Int.eq_ofNat_of_zero_le (show 0 ≤ v by omega)
    obtain ⟨h1, h2, h3⟩ := val_dec u
    have e : itoa (u : Int) = decDigits u := by unfold itoa; rw [if_neg hv]; simp
    rw [e] at hb ⊢
    have eb : body (decDigits u) = decDigits u ∧ neg (decDigits u) = false := by
      generalize decDigits u = d at *
      match d with
      | [] => exact ⟨rfl, rfl⟩
      | c :: r =>
        have : 48 ≤ c.toNat ∧ c.toNat ≤ 57 := by simpa [dgB_iff] using (List.all_eq_true.1 h2 c (by simp))
        constructor
        · simp [body]; omega
        · simp [neg]; omega
    rw [eb.1] at hb
    unfold rd
    rw [eb.1, eb.2, h1, h2]
    have hz : ¬ (hd48 (decDigits u) = true ∧ 1 < (decDigits u).length) := by
      rintro ⟨a, b⟩
      by_cases hu : 1 ≤ u
      · rw [h3 hu] at a; cases a
      · have : u = 0 := by omega
        subst this
        rw [decDigits, dif_pos (by omega)] at b
        simp at b
    rw [if_neg (by rintro (h | h | h | h) <;> first | exact dec_ne _ h | omega | exact hz h | cases h)]
    rfl
end Go.Proofs.YtommcckihanedaaGreatDoor.Nu
