import Derived.Test.YtoopjefalkdpkaaDoorReadL
import Derived.Test.YtoopjefalkdpkaaDoorBlend
import Derived.Test.YtoopjefalkdpkaaDoorRoot
namespace Go.Proofs.YtoopjefalkdpkaaDoor
open Go.RowKit
set_option linter.unusedVariables false

theorem rt_props {a : Int} (h0 : 0 ≤ a) (h1 : a ≤ 3599880001) : 0 ≤ rt a ∧ rt a ≤ 60000 ∧ rt a * rt a ≤ a ∧ a < (rt a + 1) * (rt a + 1) := by
  obtain ⟨n, rfl⟩ := Int.eq_ofNat_of_zero_le h0
  obtain ⟨s1, s2⟩ := rtN_spec n
  have hle : rtN n ≤ 60000 := by
    rcases Nat.lt_or_ge 60000 (rtN n) with h | h
    · have := Nat.mul_le_mul (show 60001 ≤ rtN n from h) (show 60001 ≤ rtN n from h)
      omega
    · exact h
  unfold rt
  rw [Int.toNat_natCast]
  exact ⟨by omega, by omega, by exact_mod_cast s1, by exact_mod_cast s2⟩
theorem dr_near {a b : Int} (hb : 0 < b) : -b ≤ 2 * (a - Ar.dr a b * b) ∧ 2 * (a - Ar.dr a b * b) ≤ b := by
  have key : ∀ c : Int, 0 ≤ c → -b ≤ 2 * (c - (2 * c + b) / (2 * b) * b) ∧ 2 * (c - (2 * c + b) / (2 * b) * b) ≤ b := by
    intro c hc
    have e := Int.mul_ediv_add_emod (2 * c + b) (2 * b)
    have r0 := Int.emod_nonneg (2 * c + b) (b := 2 * b) (by omega)
    have r1 := Int.emod_lt_of_pos (2 * c + b) (b := 2 * b) (by omega)
    generalize (2 * c + b) / (2 * b) = q at *
    generalize (2 * c + b) % (2 * b) = r at *
    rw [Int.mul_assoc, Int.mul_comm b q] at e
    generalize q * b = p at *
    omega
  unfold Ar.dr Ar.drp
  rw [if_neg (by omega)]
  split
  · have := key (-a) (by omega)
    rw [show 2 * -a + b = b - 2 * a by omega] at this
    rw [Int.neg_mul]
    generalize (b - 2 * a) / (2 * b) * b = p at *
    omega
  · exact key a (by omega)
theorem dr_odd {a b : Int} (hb : 0 < b) : Ar.dr (-a) b = -Ar.dr a b := by
  have hn : ¬ b < 0 := by omega
  unfold Ar.dr
  rw [if_neg hn, if_neg hn]
  by_cases h0 : a = 0
  · subst h0
    unfold Ar.drp
    simp only [Int.neg_zero, Int.mul_zero, Int.zero_add]
    rw [if_neg (by omega), Int.ediv_eq_zero_of_lt (by omega) (by omega)]; rfl
  · rcases Int.lt_trichotomy a 0 with h | h | h
    · have := Ar.drp_neg (a := -a) (b := b) (by omega)
      rw [Int.neg_neg] at this
      omega
    · exact absurd h h0
    · exact Ar.drp_neg h
theorem line_mid {y z x : Int} (hx0 : 0 < x) (hx1 : x < 1000) : min y z ≤ y + Ar.dr ((z - y) * x) 1000 ∧ y + Ar.dr ((z - y) * x) 1000 ≤ max y z := by
  have key : ∀ d : Int, 0 ≤ d → 0 ≤ Ar.dr (d * x) 1000 ∧ Ar.dr (d * x) 1000 ≤ d := by
    intro d hd
    have h1 : 0 ≤ d * x := Int.mul_nonneg hd (by omega)
    have h2 : d * x ≤ d * 1000 := Int.mul_le_mul_of_nonneg_left (by omega) hd
    unfold Ar.dr Ar.drp
    rw [if_neg (by omega), if_neg (by omega)]
    omega
  rcases Int.le_total y z with h | h
  · obtain ⟨k1, k2⟩ := key (z - y) (by omega)
    omega
  · obtain ⟨k1, k2⟩ := key (y - z) (by omega)
    have e : (z - y) * x = -((y - z) * x) := by rw [← Int.neg_mul]; congr 1; omega
    rw [e, dr_odd (by omega)]
    omega
/-- what Blend gives between two points of the law -/
theorem bl_law {y z x : Int} (hy0 : -2500 ≤ y) (hy1 : y ≤ 2499) (hz0 : -2500 ≤ z) (hz1 : z ≤ 2499) (hx0 : 0 ≤ x) (hx1 : x ≤ 1000) :
    min y z ≤ Ar.bl 0 y 1000 z x ∧ Ar.bl 0 y 1000 z x ≤ max y z ∧ (x = 0 → Ar.bl 0 y 1000 z x = y) ∧ (x = 1000 → Ar.bl 0 y 1000 z x = z) := by
  rw [bl_in (Ar.inB_t (by omega) (by omega)) (Ar.inB_t (by omega) (by omega)) (Ar.inB_t (by omega) (by omega)) (Ar.inB_t (by omega) (by omega))]
  by_cases h0 : x = 0
  · subst h0
    rw [line_a (Or.inl (by omega))]
    omega
  · by_cases h1 : x = 1000
    · subst h1
      rw [line_b (by omega) (by omega)]
      omega
    · rw [line_c (by omega) (by omega), Int.sub_zero, Int.sub_zero]
      obtain ⟨k1, k2⟩ := line_mid (y := y) (z := z) (x := x) (by omega) (by omega)
      exact ⟨k1, k2, fun h => absurd h h0, fun h => absurd h h1⟩

/-- the texts of numbers have no comma -/
theorem comma_not_itoa (x : Int) : (44 : UInt8) ∉ Lib.itoa x := by
  have hd : ∀ u, (44 : UInt8) ∉ Lib.decDigits u := by
    intro u hm
    have := (Nu.val_dec u).2.1
    have := List.all_eq_true.1 this 44 hm
    revert this; decide
  unfold Lib.itoa
  split
  · intro hm
    rcases List.mem_cons.1 hm with h | h
    · revert h; decide
    · exact hd _ h
  · exact hd _
theorem itoa_ne (x : Int) : Lib.itoa x ≠ [] := by
  unfold Lib.itoa
  split
  · simp
  · exact Nu.dec_ne _
theorem body_len {x : Int} (h1 : -1000000000000000000 < x) (h2 : x < 1000000000000000000) : (Nu.body (Lib.itoa x)).length ≤ 18 := by
  have hd : ∀ u : Nat, u < 1000000000000000000 → (Lib.decDigits u).length ≤ 18 := by
    intro u hu
    by_cases h : u = 0
    · subst h; rw [Lib.decDigits, dif_pos (by omega)]; simp
    · have := dgs_len u 18 (by omega)
      unfold dgs at this
      rwa [if_neg h] at this
  unfold Lib.itoa
  split
  · show (Lib.decDigits _).length ≤ 18
    exact hd _ (by omega)
  · have h3 := hd x.toNat (by omega)
    have h4 : (Nu.body (Lib.decDigits x.toNat)).length ≤ (Lib.decDigits x.toNat).length := by
      generalize Lib.decDigits x.toNat = d
      cases d with
      | nil => exact Nat.le_refl _
      | cons c r => unfold Nu.body; simp only; split <;> simp
    exact Nat.le_trans h4 h3
/-- a number's text is read back -/
theorem rd_itoa {x : Int} (h1 : -1000000000000000000 < x) (h2 : x < 1000000000000000000) : Nu.rd (Lib.itoa x) = some x := Nu.rd_of rfl (body_len h1 h2)
theorem rdV_itoa {x : Int} (h : okV x = true) : rdV (Lib.itoa x) = some x := by
  have := okV_bd h
  exact rdV_in (rd_itoa (by omega) (by omega)) h
theorem spl_join : ∀ xs : List (List UInt8), xs ≠ [] → (∀ p ∈ xs, (44 : UInt8) ∉ p) → spl 44 (Lib.join xs [44]) = xs
  | [x], _, h => by rw [Lib.join_one]; exact spl_miss 44 x (h x (by simp))
  | x :: y :: r, _, h => by
    have ih := spl_join (y :: r) (by simp) (fun p hp => h p (by simp [hp]))
    have e : Lib.join (x :: y :: r) [44] = x ++ 44 :: Lib.join (y :: r) [44] := by
      rw [Lib.join_cons, Lib.join_cons]
      simp [Lib.joinTail]
    rw [e, spl_hit 44 _ x (h x (by simp)), ih]
theorem mp_texts : ∀ zs : List Int, zs.all okV = true → mp (zs.map Lib.itoa) = some zs
  | [], _ => rfl
  | z :: zs, h => by
    simp only [List.all_cons, Bool.and_eq_true] at h
    rw [List.map_cons, mp, rdV_itoa h.1, mp_texts zs h.2]
/-- a list's text is read back -/
theorem rl_text {zs : List Int} (h : fitB zs = true) : rl (ltext zs) = some zs := by
  have hl := fit_len h
  have ha : zs.all okV = true := by unfold fitB at h; simp only [Bool.and_eq_true] at h; exact h.1
  unfold ltext
  rw [if_pos h]
  cases zs with
  | nil => rfl
  | cons z r =>
    have e : lt (z :: r) = Lib.join ((z :: r).map Lib.itoa) [44] := by
      unfold lt pre
      rw [if_neg (by simp), List.take_length]
    rw [e]
    have hs := spl_join ((z :: r).map Lib.itoa) (by simp) (fun p hp => by
      obtain ⟨x, _, rfl⟩ := List.mem_map.1 hp
      exact comma_not_itoa x)
    have hne : Lib.join ((z :: r).map Lib.itoa) [44] ≠ [45] := by
      intro hc
      rw [hc] at hs
      have h1 : spl 44 ([45] : List UInt8) = [[45]] := by decide
      rw [h1] at hs
      simp only [List.map_cons, List.cons.injEq] at hs
      have := rdV_itoa (x := z) (by simp only [List.all_cons, Bool.and_eq_true] at ha; exact ha.1)
      rw [← hs.1] at this
      have h2 : rdV [45] = none := by decide
      rw [h2] at this; cases this
    unfold rl
    rw [if_neg hne, hs, if_neg (by simpa using hl)]
    exact mp_texts _ ha
end Go.Proofs.YtoopjefalkdpkaaDoor
