/-
  Plain mathematics of numbers that are written with a width: zeros in front, a point before the last places. No Go in sight.
-/
import Derived.Test.YtommcckihanedaaGreatDoorNumber
namespace Go.Proofs.YtommcckihanedaaGreatDoor.Dg
open Go.Lib Go.Proofs.YtommcckihanedaaGreatDoor

/-- the last p digits of a number -/
def pad : Nat → Nat → List UInt8
  | 0, _ => []
  | p + 1, b => pad p (b / 10) ++ [UInt8.ofNat (48 + b % 10)]
theorem pad_length (p b : Nat) : (pad p b).length = p := by
  induction p generalizing b with
  | zero => rfl
  | succ p ih => rw [pad, List.length_append, ih]; rfl
theorem dgB_digit (b : Nat) : Nu.dgB (UInt8.ofNat (48 + b % 10)) = true := by
  rw [Nu.dgB_iff, Nu.toNat_ofNat' _ (by omega)]; omega
theorem pad_digits (p b : Nat) : (pad p b).all Nu.dgB = true := by
  induction p generalizing b with
  | zero => rfl
  | succ p ih => rw [pad, List.all_append, ih, List.all_cons, dgB_digit]; rfl
theorem pad_val (p b : Nat) (h : b < 10 ^ p) : Nu.val (pad p b) = b := by
  induction p generalizing b with
  | zero => simp at h; subst h; rfl
  | succ p ih =>
    rw [Nat.pow_succ] at h
    rw [pad, Nu.val_snoc, ih _ (by omega), Nu.toNat_ofNat' _ (by omega)]; omega
theorem dec_step (u : Nat) (h : 10 ≤ u) : decDigits u = decDigits (u / 10) ++ [UInt8.ofNat (48 + u % 10)] := by
  rw [decDigits, dif_neg (by omega)]
theorem dec_small (u : Nat) (h : u < 10) : decDigits u = [UInt8.ofNat (48 + u)] := by rw [decDigits, dif_pos h]
theorem dec_len_pos (u : Nat) : 0 < (decDigits u).length := List.length_pos_iff.2 (Nu.dec_ne u)
theorem pow_pos (p : Nat) : 0 < 10 ^ p := Nat.pow_pos (by decide)
/-- what the model writes behind the point -/
theorem drop_pad (p b : Nat) (h : b < 10 ^ p) : (decDigits (b + 10 ^ p)).drop 1 = pad p b := by
  induction p generalizing b with
  | zero => simp at h; subst h; rw [dec_small _ (by decide)]; rfl
  | succ p ih =>
    have hp := pow_pos p
    rw [Nat.pow_succ] at h ⊢
    rw [dec_step _ (by omega), pad]
    have e1 : (b + 10 ^ p * 10) / 10 = b / 10 + 10 ^ p := by omega
    have e2 : (b + 10 ^ p * 10) % 10 = b % 10 := by omega
    rw [e1, e2, ← ih (b / 10) (by omega), List.drop_append_of_le_length (dec_len_pos _)]
/-- the digits of a number with more than p of them -/
theorem dec_split (p m : Nat) (h : 10 ^ p ≤ m) : decDigits m = decDigits (m / 10 ^ p) ++ pad p (m % 10 ^ p) := by
  induction p generalizing m with
  | zero => simp [pad]
  | succ p ih =>
    have hp := pow_pos p
    rw [Nat.pow_succ] at h ⊢
    rw [dec_step _ (by omega), ih (m / 10) (by omega), pad, List.append_assoc]
    have e1 : m / 10 / 10 ^ p = m / (10 ^ p * 10) := by rw [Nat.div_div_eq_div_mul, Nat.mul_comm]
    have e2 : m / 10 % 10 ^ p = m % (10 ^ p * 10) / 10 := by rw [Nat.mul_comm (10 ^ p) 10, Nat.mod_mul_right_div_self]
    have e3 : m % (10 ^ p * 10) % 10 = m % 10 := by rw [Nat.mul_comm (10 ^ p) 10, Nat.mod_mul_right_mod]
    rw [e1, e2, e3]
/-- zeros in front up to a width -/
def zpad (k m : Nat) : List UInt8 := List.replicate (k - (decDigits m).length) 48 ++ decDigits m
theorem rep_snoc (n : Nat) (c : UInt8) : List.replicate (n + 1) c = c :: List.replicate n c := rfl
theorem zpad_pad (k m : Nat) (h1 : 1 ≤ k) (h : m < 10 ^ k) : zpad k m = pad k m := by
  induction k generalizing m with
  | zero => omega
  | succ k ih =>
    by_cases h10 : m < 10
    · have e : m / 10 = 0 := by omega
      have hz : ∀ q, pad q 0 = List.replicate q 48 := by
        intro q
        induction q with
        | zero => rfl
        | succ q ihq =>
          rw [pad, show (0 : Nat) / 10 = 0 from rfl, ihq, List.replicate_succ']
          rfl
      unfold zpad
      rw [dec_small m h10, pad, e, hz, List.length_singleton, Nat.mod_eq_of_lt h10]
      rfl
    · rw [Nat.pow_succ] at h
      have hk : 1 ≤ k := by
        rcases Nat.eq_zero_or_pos k with h0 | h0
        · subst h0; simp at h; omega
        · exact h0
      have := ih (m / 10) hk (by omega)
      unfold zpad at this ⊢
      rw [dec_step m (by omega), pad, ← this, List.length_append, List.length_singleton, List.append_assoc, Nat.add_sub_add_right]
theorem zpad_long (k m : Nat) (h : k ≤ (decDigits m).length) : zpad k m = decDigits m := by
  unfold zpad; rw [Nat.sub_eq_zero_of_le h]; rfl
theorem dec_len (p m : Nat) (h : 10 ^ p ≤ m) : p + 1 ≤ (decDigits m).length := by
  rw [dec_split p m h, List.length_append, pad_length]
  have := dec_len_pos (m / 10 ^ p); omega
theorem dec_len_le (k m : Nat) (h1 : 1 ≤ k) (h : m < 10 ^ k) : (decDigits m).length ≤ k := by
  have := zpad_pad k m h1 h
  have e := congrArg List.length this
  rw [pad_length] at e
  unfold zpad at e
  rw [List.length_append] at e; omega
theorem pad_head (p m : Nat) (h : m < 10 ^ (p + 1)) : pad (p + 1) m = decDigits (m / 10 ^ p) ++ pad p (m % 10 ^ p) := by
  by_cases hm : 10 ^ p ≤ m
  · rw [← dec_split p m hm, ← zpad_long (p + 1) m (dec_len p m hm), zpad_pad _ _ (by omega) h]
  · have e1 : m / 10 ^ p = 0 := Nat.div_eq_of_lt (by omega)
    have e2 : m % 10 ^ p = m := Nat.mod_eq_of_lt (by omega)
    rw [e1, e2, dec_small 0 (by decide)]
    clear e1 e2 h
    induction p generalizing m with
    | zero => simp at hm; subst hm; rfl
    | succ p ih =>
      rw [Nat.pow_succ] at hm
      rw [pad, ih (m / 10) (by omega)]
      rfl
/-- what the program writes in front of and behind the point -/
theorem zpad_split (p m : Nat) : zpad (p + 1) m = decDigits (m / 10 ^ p) ++ pad p (m % 10 ^ p) := by
  by_cases h : m < 10 ^ (p + 1)
  · rw [zpad_pad _ _ (by omega) h, pad_head p m h]
  · have hp := pow_pos p
    have h2 : 10 ^ p ≤ m := by rw [Nat.pow_succ] at h; omega
    rw [zpad_long _ _ (dec_len p m h2), dec_split p m h2]
theorem zpad_cut (p m : Nat) : (zpad (p + 1) m).take ((zpad (p + 1) m).length - p) = decDigits (m / 10 ^ p) ∧ (zpad (p + 1) m).drop ((zpad (p + 1) m).length - p) = pad p (m % 10 ^ p) := by
  rw [zpad_split, List.length_append, pad_length, Nat.add_sub_cancel]
  exact ⟨List.take_left, List.drop_left⟩
/-- a number with places, as text -/
def fx (n : Int) (p : Nat) : List UInt8 := (if n < 0 then [45] else []) ++ decDigits (n.natAbs / 10 ^ p) ++ 46 :: pad p (n.natAbs % 10 ^ p)
theorem no46 {l : List UInt8} (h : l.all Nu.dgB = true) : (46 : UInt8) ∉ l := by
  intro hm
  have := List.all_eq_true.1 h _ hm
  exact absurd this (by decide)
theorem val_app (l r : List UInt8) : Nu.val (l ++ r) = Nu.val l * 10 ^ r.length + Nu.val r := by
  have step : ∀ (r : List UInt8) (a : Nat), r.foldl Nu.stp a = a * 10 ^ r.length + r.foldl Nu.stp 0 := by
    intro r
    induction r with
    | nil => intro a; simp
    | cons c r ih =>
      intro a
      rw [List.foldl_cons, ih, List.foldl_cons, ih (Nu.stp 0 c), List.length_cons, Nat.pow_succ]
      unfold Nu.stp
      rw [Nat.add_mul, Nat.zero_mul, Nat.zero_add, Nat.mul_assoc, Nat.mul_comm 10 (10 ^ r.length)]
      omega
  unfold Nu.val
  rw [List.foldl_append, step]
end Go.Proofs.YtommcckihanedaaGreatDoor.Dg
