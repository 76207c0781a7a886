/-
  math/bits.TrailingZeros64 and the indices of a set (a word), strictly increasing. The condition: the library's table of de Bruijn as it is laid.
-/
import Derived.Shelf.Spec.TrailingZeros
import Derived.Test.YtaldmdammipfjaaDoorStf
import Derived.Test.YtaldmdammipfjaaDoorRlI
import Derived.Test.YtaldmdammipfjaaDoorPt
namespace Go.Proofs.YtaldmdammipfjaaDoor
open Go.RowKit Go.Shelf
set_option linter.unusedVariables false
set_option maxRecDepth 100000
namespace Rl
theorem lowbit {x : Nat} (h0 : x ≠ 0) (h : x < 18446744073709551616) : ∃ m, x = 2 ^ Lib.ctz 64 x * (2 * m + 1) ∧ Lib.ctz 64 x < 64 := by
  have := Lib.ctzFrom_spec 64 x (by omega) (by simpa using h)
  unfold Lib.ctz
  rw [if_neg h0]
  exact this
theorem low_bits (k m i : Nat) : (2 ^ k * (2 * m + 1)).testBit i = (decide (k ≤ i) && (2 * m + 1).testBit (i - k)) := Nat.testBit_two_pow_mul
theorem low_div (k m : Nat) : (2 ^ k * (2 * m + 1) - 1) / 2 ^ k = 2 * m := by
  have hp : 0 < 2 ^ k := Nat.two_pow_pos k
  have e : 2 ^ k * (2 * m + 1) - 1 = 2 ^ k * (2 * m) + (2 ^ k - 1) := by
    rw [Nat.mul_add, Nat.mul_one]
    omega
  rw [e, Nat.mul_add_div hp, Nat.div_eq_of_lt (by omega)]
  omega
/-- the lowest bit taken away -/
theorem low_clear (k m i : Nat) : (2 ^ k * (2 * m + 1) &&& (2 ^ k * (2 * m + 1) - 1)).testBit i = (decide (k < i) && (2 ^ k * (2 * m + 1)).testBit i) := by
  rw [Nat.testBit_and, low_bits]
  by_cases h : i < k
  · rw [decide_eq_false (show ¬ k ≤ i by omega), decide_eq_false (show ¬ k < i by omega)]; rfl
  · obtain ⟨j, rfl⟩ : ∃ j, i = k + j := ⟨i - k, by omega⟩
    have e := Nat.testBit_div_two_pow (2 ^ k * (2 * m + 1) - 1) (n := k) (i := j)
    rw [low_div] at e
    rw [Nat.add_comm k j, ← e, decide_eq_true (show k ≤ j + k by omega), Nat.add_sub_cancel, Bool.true_and]
    cases j with
    | zero => simp
    | succ j =>
      rw [decide_eq_true (show k < j + 1 + k by omega), Bool.true_and, Nat.testBit_succ, Nat.testBit_succ, show (2 * m + 1) / 2 = m by omega, show 2 * m / 2 = m by omega, Bool.and_self]
end Rl
namespace Gw
/-- the bits of a word from one on -/
def hiB (x p : Nat) (wd : Nat) : Prop := ∀ i, wd.testBit i = (decide (p ≤ i) && x.testBit i)
theorem stF_none {p : Nat → Bool} {a b : Nat} (hab : a ≤ b) (h : ∀ i, a ≤ i → i < b → p i = false) : stF p b = stF p a := by
  induction b with
  | zero => rw [show a = 0 by omega]
  | succ b ih =>
    by_cases e : a = b + 1
    · rw [e]
    · rw [stF_no (h b (by omega) (by omega)), ih (by omega) (fun i h1 h2 => h i h1 (by omega))]
theorem hi_end {x p : Nat} (hp : p ≤ 64) (h : hiB x p 0) : stF x.testBit 64 = stF x.testBit p := stF_none hp (fun i h1 h2 => by
  have := h i
  rw [Nat.zero_testBit, decide_eq_true h1, Bool.true_and] at this
  exact this.symm)
theorem hi_step {x p wd : Nat} (h0 : wd ≠ 0) (h64 : wd < 18446744073709551616) (h : hiB x p wd) (hp : p ≤ 64) : stF x.testBit (Lib.ctz 64 wd + 1) = stF x.testBit p ++ [(Lib.ctz 64 wd : Int)] ∧ hiB x (Lib.ctz 64 wd + 1) (wd &&& (wd - 1)) ∧ Lib.ctz 64 wd < 64 ∧ (wd &&& (wd - 1)) < wd := by
  obtain ⟨m, h1, h2⟩ := Rl.lowbit h0 h64
  generalize Lib.ctz 64 wd = k at *
  have hk : wd.testBit k = true := by rw [h1, Rl.low_bits, decide_eq_true (Nat.le_refl _)]; simp
  have hlt : ∀ i, i < k → wd.testBit i = false := fun i hi => by rw [h1, Rl.low_bits, decide_eq_false (by omega)]; rfl
  have hxk := h k
  rw [hk] at hxk
  have hpk : p ≤ k := by
    by_cases hq : p ≤ k
    · exact hq
    · rw [decide_eq_false hq] at hxk; cases hxk
  rw [decide_eq_true hpk, Bool.true_and] at hxk
  refine ⟨?_, fun i => ?_, h2, ?_⟩
  · rw [stF_yes hxk.symm, stF_none hpk (fun i q1 q2 => ?_)]
    have := h i
    rw [hlt i q2, decide_eq_true q1, Bool.true_and] at this
    exact this.symm
  · have hc := Rl.low_clear k m i
    rw [← h1] at hc
    rw [hc, h i]
    by_cases hi : k < i
    · rw [decide_eq_true hi, decide_eq_true (show k + 1 ≤ i by omega), decide_eq_true (show p ≤ i by omega)]; rfl
    · rw [decide_eq_false hi, decide_eq_false (show ¬ k + 1 ≤ i by omega)]; rfl
  · have := Nat.and_le_right (n := wd) (m := wd - 1)
    omega
end Gw
/-- the library's table -/
def DbAt (w : World) : Prop := ∀ j, j < Lib.deBruijn64tab.length → w.cell? ⟨0, j, none⟩ = some (.int .u8 (Lib.deBruijn64tab.getD j 0))
theorem DbAt.below {w w1 : World} (h : DbAt w) (hb : Below w.heap.size w w1) : DbAt w1 := fun j hj => by
  have e := h j hj
  exact (hb.cell (p := ⟨0, j, none⟩) (World.block_lt_of_cell? w _ e)).trans e
set_option maxHeartbeats 1000000 in
theorem tz_core (x k idx : Nat) (w : World) (hx0 : ((x : Int) == 0) = false)
    (key : IntKind.u64.wrap (bits BinOp.and IntKind.u64 (x : Int) (IntKind.u64.wrap (-(x : Int))) * 285870213051353865) / 288230376151711744 = (idx : Int))
    (hi : idx < 64) (hk : k < 64) (hcell : w.cell? ⟨0, idx, none⟩ = some (.int .u8 k)) :
    Calls Tryd.prog 85 #[.int .u64 x] w fun e w' => e = .returned (.int .i64 k) ∧ w' = w := by
  go_enter Tryd.func85, Tryd.ntmps85
  go_wp2_with (simp only [key])
  go_ret
  exact ⟨rfl, rfl⟩
theorem tz_any (x : Nat) (hx0 : x ≠ 0) (hx : x < 18446744073709551616) (w : World) (hT : DbAt w) :
    Calls Tryd.prog 85 #[.int .u64 x] w fun e w' => e = .returned (.int .i64 (Lib.ctz 64 x)) ∧ w' = w := by
  obtain ⟨hlow, hk⟩ := Lib.lowest_bit 64 x hx0 (by simpa using hx)
  obtain ⟨hi, htab⟩ := Lib.deBruijn64_at _ hk
  have hcell := hT _ (show _ < Lib.deBruijn64tab.length from hi)
  rw [htab] at hcell
  exact tz_core x _ _ w (by simp; omega) (tz64_key x _ hx hx0 (by simpa using hlow)) hi hk hcell
set_option maxHeartbeats 3200000 in
theorem indices_any (x : Nat) (hx : x < 18446744073709551616) (w : World) (hT : DbAt w) :
    Calls Tryd.prog 45 #[.int .u64 (x : Int)] w (RJp w (Gw.stF x.testBit 64)) := by
  obtain ⟨i0, hi, hz0, hz1, hz2⟩ := info_parts info_i64
  have CS := Lib.hid (fun W => size_any x W hx)
  have hcp := List.countP_le_length (p := fun i => x.testBit i) (l := List.range 64)
  rw [List.length_range] at hcp
  generalize (List.range 64).countP (fun i => x.testBit i) = cn at *
  have CT := Lib.hid (fun y (h0 : y ≠ 0) (h1 : y < 18446744073709551616) W (h : Below w.heap.size w W) => tz_any y h0 h1 W (hT.below h))
  have HX := Lib.hid hx
  clear hT
  go_enter Tryd.func45, Tryd.ntmps45
  go_wp2_with fail
  refine (CS.out _).mono ?_
  rintro e w' ⟨rfl, rfl⟩
  go_wp2_with (at_make; refine wpList_make_own _ rfl _ _ 22 rfl w.heap.size 2 i0 (.int .i64 0) 1 Tryd.underlying22 hi hz0 hz1 .i64 .i64 _ cn rfl rfl rfl ?c1 ?c2 ?c3 ?_)
  case c1 => rw [hz2]; omega
  case c2 => unfold maxLen; omega
  case c3 => exact Nat.le_refl _
  intro w1 hown hg
  have O1 : Hid (Own w.heap.size w1 _ (Gw.stF x.testBit 0)) := Lib.hid hown
  have B1 : Hid (Below w.heap.size w w1) := Lib.hid ((Below.refl _ _).grown hg (Nat.le_refl _) (fun k hk => by cases hk))
  clear hown hg
  have h0 : Hid (Gw.hiB x 0 x) := Lib.hid (fun i => by rw [decide_eq_true (Nat.zero_le i), Bool.true_and])
  go_wp2_with fail
  go_loopw [0, 3] (fun s q wr => ∃ (wd p : Nat), s = .int .u64 (wd : Int) ∧ p ≤ 64 ∧ wd < 18446744073709551616 ∧ Hid (Gw.hiB x p wd) ∧ Hid (Own w.heap.size wr q (Gw.stF x.testBit p)) ∧ Hid (Below w.heap.size w wr)) (fun s _ _ => (intOf s).toNat)
  case atStart => exact ⟨x, 0, rfl, by omega, HX.out, h0, O1, B1⟩
  case round =>
    obtain ⟨wd, p, rfl, hp, hwd, hh, ho, hbw⟩ := hrel
    clear O1 B1 h0
    have hlm : (Gw.stF x.testBit p).length ≤ 64 := Nat.le_trans (Gw.stF_len _ _) hp
    by_cases h0 : wd = 0
    · subst h0
      have hw : Hid (Gw.stF x.testBit 64 = Gw.stF x.testBit p) := Lib.hid (Gw.hi_end hp hh.out)
      go_wp2_with fail
      go_ret
      exact ⟨_, rfl, by rw [hw.out]; exact ho.out, hbw.out⟩
    · obtain ⟨s1, s2, s3, s4⟩ := Gw.hi_step h0 hwd hh.out hp
      have S1 := Lib.hid s1
      have S2 := Lib.hid s2
      have C := Lib.hid (CT.out wd h0 hwd _ hbw.out)
      have hne : ((wd : Int) != 0) = true := bne_iff_ne.2 (by omega)
      have HW : Hid (bits .and .u64 (wd : Int) ((wd : Int) - 1) = ((wd &&& (wd - 1) : Nat) : Int)) := Lib.hid (by
        rw [show (wd : Int) - 1 = ((wd - 1 : Nat) : Int) by omega]
        exact bits_and_u64_nat wd (wd - 1) hwd (by omega))
      clear s1 s2 hh
      generalize Gw.stF x.testBit p = l at *
      generalize Lib.ctz 64 wd = k at *
      obtain ⟨wn, hwn⟩ : ∃ u, wd &&& (wd - 1) = u := ⟨_, rfl⟩
      rw [hwn] at S2 HW s4
      clear hwn h0
      go_wp2_with fail
      refine C.out.mono ?_
      rintro e w2 ⟨rfl, rfl⟩
      clear C
      go_wp2_with (at_builtin; refine wpList_append_own _ rfl _ _ 22 rfl w.heap.size 2 i0 (.int .i64 0) 1 8 Tryd.underlying22 hi hz0 hz1 hz2 rfl (by decide) _ _ _ rfl (own_belowAll ho.out ((Below.refl _ _).alloc (Nat.le_refl _) _)) ⟨w2.heap.size, 0, none⟩ 1 1 [.int .i64 (k : Int)] rfl rfl (row_new _ [_] _) (iv_cell [(k : Int)]) ?c3 ?c4 ?c5 ?_)
      case c3 => unfold maxLen; omega
      case c4 => omega
      case c5 => have := hbw.out.size; first | omega | (simp; omega)
      intro v' w3 hown' hgrow _
      have hnx : Hid (Own w.heap.size w3 v' (Gw.stF x.testBit (k + 1))) := Lib.hid (by rw [S1.out]; unfold Own; rw [iv_append, List.length_append]; exact hown')
      have hnb : Hid (Below w.heap.size w w3) := Lib.hid ((hbw.out.alloc hbw.out.size _).grown hgrow (by have := hbw.out.size; simp; omega) (fun j hj => (ho.out.lt j hj).1))
      clear hown' hgrow ho hbw
      go_wp2
      exact ⟨⟨wn, k + 1, by rw [HW.out], by omega, by omega, S2, hnx, hnb⟩, by rw [HW.out]; simp only [intOf]; omega⟩
end Go.Proofs.YtaldmdammipfjaaDoor
