import Derived.Test.YtmieckchppfogaaGreatDoorNum
import Derived.Test.YtmieckchppfogaaGreatDoorShelf
import Derived.Lib.ItoaNum
namespace Go.Proofs.YtmieckchppfogaaGreatDoor
open Go.RowKit
set_option linter.unusedVariables false

/-- the square root, rounded down -/
def rtN : Nat → Nat
  | 0 => 0
  | n + 1 => if (rtN n + 1) * (rtN n + 1) ≤ n + 1 then rtN n + 1 else rtN n
def rt (n : Int) : Int := rtN n.toNat
theorem rtN_spec (n : Nat) : rtN n * rtN n ≤ n ∧ n < (rtN n + 1) * (rtN n + 1) := by
  induction n with
  | zero => exact ⟨Nat.le_refl _, by decide⟩
  | succ n ih =>
    obtain ⟨h1, h2⟩ := ih
    unfold rtN
    split
    · rename_i h
      refine ⟨h, ?_⟩
      have : (rtN n + 1 + 1) * (rtN n + 1 + 1) = (rtN n + 1) * (rtN n + 1) + 2 * (rtN n + 1) + 1 := by
        rw [Nat.add_mul, Nat.mul_add (rtN n + 1) (rtN n + 1) 1]; omega
      omega
    · omega
theorem sq_lt {a b : Nat} (h : a * a < b * b) : a < b := by
  rcases Nat.lt_or_ge a b with h' | h'
  · exact h'
  · have := Nat.mul_le_mul h' h'; omega
theorem rtN_unique {n r : Nat} (h1 : r * r ≤ n) (h2 : n < (r + 1) * (r + 1)) : rtN n = r := by
  obtain ⟨a, b⟩ := rtN_spec n
  have c1 : rtN n < r + 1 := sq_lt (by omega)
  have c2 : r < rtN n + 1 := sq_lt (by omega)
  omega
theorem rt_neg {n : Int} (h : n < 0) : rt n = 0 := by unfold rt; rw [Int.toNat_of_nonpos (by omega)]; rfl
theorem rt_unique {n r : Int} (h0 : 0 ≤ r) (h1 : r * r ≤ n) (h2 : n < (r + 1) * (r + 1)) : rt n = r := by
  obtain ⟨m, rfl⟩ := Int.eq_ofNat_of_zero_le h0
  have hn : 0 ≤ n := by have : (0 : Int) ≤ (m : Int) * m := Int.mul_nonneg (by omega) (by omega); omega
  obtain ⟨k, rfl⟩ := Int.eq_ofNat_of_zero_le hn
  unfold rt
  rw [Int.toNat_natCast, rtN_unique (n := k) (r := m) (by exact_mod_cast h1) (by exact_mod_cast h2)]

theorem mid_sq {l h : Int} (h0 : 0 ≤ l) (h1 : l ≤ h) (h2 : h ≤ 3037000499) : 0 ≤ ((l + h + 1) / 2) * ((l + h + 1) / 2) ∧ ((l + h + 1) / 2) * ((l + h + 1) / 2) ≤ 9223372036854775807 := by
  have a : 0 ≤ (l + h + 1) / 2 := by omega
  have b : (l + h + 1) / 2 ≤ 3037000499 := by omega
  generalize (l + h + 1) / 2 = m at *
  have e := Int.mul_le_mul b b a (by omega)
  exact ⟨Int.mul_nonneg a a, by omega⟩

/-- the bit that is tried in a state, and its halving -/
def hb (p : Nat) : Nat := 2 ^ p / 2
theorem hb_succ (q : Nat) : hb (q + 1) = 2 ^ q := by unfold hb; rw [Nat.pow_succ]; omega
theorem first_up (n : Nat) (h : n < 2 ^ 63) : n < (0 + 2 ^ (Lib.bitLen n / 2 + 1)) * (0 + 2 ^ (Lib.bitLen n / 2 + 1)) := by
  rw [Nat.zero_add]
  by_cases h0 : n = 0
  · subst h0; exact Nat.mul_pos (Nat.two_pow_pos _) (Nat.two_pow_pos _)
  · obtain ⟨_, _, h3⟩ := Lib.bitLenAux_bounds 64 n (by omega) h0
    change n < 2 ^ Lib.bitLen n at h3
    generalize Lib.bitLen n = k at *
    rw [← Nat.pow_add]
    exact Nat.lt_of_lt_of_le h3 (Nat.pow_le_pow_right (by omega) (by omega))
theorem first_le (n : Nat) (h : n < 2 ^ 63) : 2 ^ (Lib.bitLen n / 2) ≤ 2147483648 ∧ 2 ^ (Lib.bitLen n / 2 + 1) ≤ 4294967296 ∧ Lib.bitLen n ≤ 63 := by
  have := Lib.bitLen_le n 63 (by omega) h
  refine ⟨?_, ?_, this⟩
  · exact Nat.le_trans (Nat.pow_le_pow_right (by omega) (show Lib.bitLen n / 2 ≤ 31 by omega)) (by decide)
  · exact Nat.le_trans (Nat.pow_le_pow_right (by omega) (show Lib.bitLen n / 2 + 1 ≤ 32 by omega)) (by decide)
theorem next_sq {x : Nat} (h : x ≤ 4294967295) : 0 ≤ (x : Int) * x ∧ (x : Int) * x ≤ 18446744065119617025 := by
  have h2 := Nat.mul_le_mul h h
  exact ⟨Int.mul_nonneg (by omega) (by omega), by rw [← Int.natCast_mul]; omega⟩

set_option maxHeartbeats 800000 in
theorem implRootOf_pos (n : Nat) (w : World) (hn : n < 9223372036854775808) :
    Calls Tryz.prog 47 #[.int .i64 n] w fun e w' => e = .returned (.int .i64 (rt n)) ∧ w = w' := by
  have hn2 : (n : Int) ≤ 9223372036854775807 := by omega
  have hup := Lib.hid (first_up n (by omega))
  obtain ⟨p1, p2, p3⟩ := first_le n (by omega)
  have hlen : Calls Tryz.prog 70 #[.int .u64 n] w fun e w' => e = .returned (.int .i64 (Lib.bitLen n)) ∧ w = w' :=
    (Tryz.bits_Len64 n w (by omega) (by omega)).mono (fun e w' h => ⟨h.1, h.2.symm⟩)
  have hw : IntKind.u64.wrap ((2 : Int) ^ (Lib.bitLen n / 2)) = ((hb (Lib.bitLen n / 2 + 1) : Nat) : Int) := by
    rw [hb_succ, u64_wrap]
    have : (2 : Int) ^ (Lib.bitLen n / 2) = ((2 ^ (Lib.bitLen n / 2) : Nat) : Int) := by rw [Int.natCast_pow]; rfl
    rw [this]; generalize 2 ^ (Lib.bitLen n / 2) = B at *; omega
  have hb1 : hb (Lib.bitLen n / 2 + 1) ≤ 2147483648 := by rw [hb_succ]; exact p1
  have P2 := Lib.hid p2
  clear p1 p2
  generalize Lib.bitLen n = L at *
  have Hlen := Lib.hid hlen
  have HW := Lib.hid hw
  clear hlen hw
  go_enter Tryz.func47, Tryz.ntmps47
  go_wp2_with (go_at_call 70; refine Hlen.out.mono ?_; rintro e w' ⟨rfl, rfl⟩)
  clear Hlen
  go_loop [4, 5] (fun x y => ∃ r p : Nat, x = .int .u64 r ∧ y = .int .u64 (hb p : Nat) ∧ Hid (r * r ≤ n) ∧ Hid (n < (r + 2 ^ p) * (r + 2 ^ p)) ∧ Hid (r + 2 ^ p ≤ 4294967296)) (fun x y => (intOf y).toNat)
  case atStart => exact ⟨0, L / 2 + 1, rfl, by rw [HW.out], Lib.hid (by omega), hup, Lib.hid (by rw [Nat.zero_add]; exact P2.out)⟩
  case round =>
    obtain ⟨r, p, rfl, rfl, h1, h2, h3⟩ := hrel
    rcases p with _ | q
    · have hz : hb 0 = 0 := rfl
      have hr : r ≤ 4294967295 := by have := h3.out; simp at this; omega
      have hf : Hid (rt n = r) := Lib.hid (rt_unique (by omega) (by have := h1.out; exact_mod_cast this) (by have := h2.out; simp at this; exact_mod_cast this))
      go_wp2
      go_ret
      exact ⟨ret_int hf.out.symm, rfl⟩
    · have e1 : hb (q + 1) = 2 ^ q := hb_succ q
      have e2 : 2 ^ (q + 1) = 2 * 2 ^ q := by rw [Nat.pow_succ]; omega
      have e3 : hb q = 2 ^ q / 2 := rfl
      have e4 : 0 < 2 ^ q := Nat.two_pow_pos q
      have H2 := h2.out
      have H3 := h3.out
      rw [e2] at H2 H3
      clear h2 h3
      have hx := next_sq (x := r + 2 ^ q) (by omega)
      rw [e1]
      clear e1 e2
      generalize hB : 2 ^ q = b at *
      have HB := Lib.hid hB
      have E3 := Lib.hid e3
      clear hB e3
      have hb2 : (b : Int) ≤ 2147483648 := by omega
      have hr : (r : Int) ≤ 4294967295 := by omega
      have hs : (r : Int) + b ≤ 4294967295 := by omega
      have hx' : 0 ≤ ((r : Int) + b) * (r + b) ∧ ((r : Int) + b) * (r + b) ≤ 18446744065119617025 := by rw [← Int.natCast_add]; exact hx
      obtain ⟨hx1, hx2⟩ := hx'
      clear hx
      by_cases ht : (r + b) * (r + b) ≤ n
      · have ht' : ((r : Int) + b) * (r + b) ≤ n := by exact_mod_cast ht
        have g1 := Lib.hid ht
        have g2 : Hid (n < (r + b + 2 ^ q) * (r + b + 2 ^ q)) := Lib.hid (by rw [HB.out, show r + b + b = r + 2 * b from by omega]; exact H2)
        have g3 : Hid (r + b + 2 ^ q ≤ 4294967296) := Lib.hid (by rw [HB.out]; omega)
        clear H2 ht
        go_wp2
        refine ⟨⟨r + b, q, by go_num, by rw [E3.out]; go_num, g1, g2, g3⟩, ?_⟩
        simp only [intOf]; omega
      · have ht' : ¬ ((r : Int) + b) * (r + b) ≤ n := by exact_mod_cast ht
        have g2 : Hid (n < (r + 2 ^ q) * (r + 2 ^ q)) := Lib.hid (by rw [HB.out]; omega)
        have g3 : Hid (r + 2 ^ q ≤ 4294967296) := Lib.hid (by rw [HB.out]; omega)
        clear H2 ht
        go_wp2
        refine ⟨⟨r, q, rfl, by rw [E3.out]; go_num, h1, g2, g3⟩, ?_⟩
        simp only [intOf]; omega
theorem implRootOf_any (n : Int) (w : World) (h1 : -9223372036854775808 ≤ n) (h2 : n ≤ 9223372036854775807) :
    Calls Tryz.prog 47 #[.int .i64 n] w fun e w' => e = .returned (.int .i64 (rt n)) ∧ w = w' := by
  by_cases h : n < 0
  · have hf := Lib.hid (rt_neg h)
    go_enter Tryz.func47, Tryz.ntmps47
    go_wp2_with fail
    go_ret
    exact ⟨ret_int hf.out.symm, rfl⟩
  · obtain ⟨m, rfl⟩ := Int.eq_ofNat_of_zero_le (show 0 ≤ n by omega)
    exact implRootOf_pos m w (by omega)
end Go.Proofs.YtmieckchppfogaaGreatDoor
