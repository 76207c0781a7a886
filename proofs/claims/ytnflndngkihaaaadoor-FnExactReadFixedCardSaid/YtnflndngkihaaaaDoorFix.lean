/-
  FixedText of chapter 2, by the program and by the model. The library's table of powers of ten holds what its text lays: no other condition of its own.
-/
import Derived.Test.YtnflndngkihaaaaDoorBld
import Derived.Test.YtnflndngkihaaaaDoorSplit
import Derived.Test.YtnflndngkihaaaaDoorNames
namespace Go.Proofs.YtnflndngkihaaaaDoor
open Go.RowKit
set_option linter.unusedVariables false

theorem ext_len (t : ByteArray) (a b : Nat) : (t.extract a b).data.toList.length ≤ t.size ∧ (t.extract a b).size ≤ t.size := by
  have h : (t.extract a b).data.toList.length = (t.extract a b).size := by simp; omega
  have h2 : (t.extract a b).size ≤ t.size := by rw [ByteArray.size_extract]; omega
  exact ⟨by omega, h2⟩
theorem ext_drop (t : ByteArray) (a b : Nat) (hb : t.size ≤ b) : (t.extract a b).data.toList = t.data.toList.drop a := by
  rw [ext_eq, mk_data, List.take_of_length_le (by simp; omega)]
theorem ext_take (t : ByteArray) (b : Nat) : (t.extract 0 b).data.toList = t.data.toList.take b := by
  rw [ext_eq, mk_data, List.drop_zero, Nat.sub_zero]
/-- what FixedText answers -/
def fxV (n p : Int) : List UInt8 := if (-1000000000 ≤ n ∧ n ≤ 1000000000) ∧ 1 ≤ p ∧ p ≤ 6 then Dg.fx n p.toNat else []
theorem fxV_in {n : Int} {p : Nat} (h1 : -1000000000 ≤ n) (h2 : n ≤ 1000000000) (h3 : 1 ≤ p) (h4 : p ≤ 6) : fxV n p = Dg.fx n p := by
  unfold fxV; rw [if_pos ⟨⟨h1, h2⟩, by omega, by omega⟩]; simp
theorem fxV_out {n p : Int} (h : ¬ ((-1000000000 ≤ n ∧ n ≤ 1000000000) ∧ 1 ≤ p ∧ p ≤ 6)) : fxV n p = [] := by unfold fxV; rw [if_neg h]
theorem fx_parts (n : Int) (p : Nat) : (Dg.zpad (p + 1) n.natAbs).take (Lib.decDigits (n.natAbs / 10 ^ p)).length = Lib.decDigits (n.natAbs / 10 ^ p) ∧ (Dg.zpad (p + 1) n.natAbs).drop (Lib.decDigits (n.natAbs / 10 ^ p)).length = Dg.pad p (n.natAbs % 10 ^ p) ∧ (Dg.zpad (p + 1) n.natAbs).length = (Lib.decDigits (n.natAbs / 10 ^ p)).length + p := by
  rw [Dg.zpad_split]
  exact ⟨by simp, by simp, by simp [Dg.pad_length]⟩
theorem ten_bd {p : Nat} (h : p ≤ 6) : 1 ≤ 10 ^ p ∧ 10 ^ p ≤ 1000000 :=
  ⟨Nat.pow_pos (by decide), Nat.le_trans (Nat.pow_le_pow_right (by decide) h) (by decide)⟩
theorem drewBelow {w w1 : World} (h : Below w.drew.heap.size w.drew w1) : Below w.heap.size w w1 := ⟨h.os, h.tape, h.output, h.size, h.block⟩

set_option maxHeartbeats 400000 in
theorem l02Whole_any (x : Int) (w : World) :
    Calls Tryd.prog 49 #[.int .i64 x] w fun e w' => e = .returned (.bool (Ar.inB (-1000000000) x 1000000000)) ∧ w = w' := by
  go_enter Tryd.func49, Tryd.ntmps49
  go_wp2_with (go_at_call 46; refine (l00In_any _ _ _ _).mono ?_; rintro e w' ⟨rfl, rfl⟩)
  go_ret
  exact ⟨rfl, rfl⟩
set_option maxHeartbeats 400000 in
theorem l02Places_any (x : Int) (w : World) :
    Calls Tryd.prog 50 #[.int .i64 x] w fun e w' => e = .returned (.bool (Ar.inB 1 x 6)) ∧ w = w' := by
  go_enter Tryd.func50, Tryd.ntmps50
  go_wp2_with (go_at_call 46; refine (l00In_any _ _ _ _).mono ?_; rintro e w' ⟨rfl, rfl⟩)
  go_ret
  exact ⟨rfl, rfl⟩
set_option maxHeartbeats 1600000 in
theorem l02Ten_any (p : Nat) (w : World) (h : p ≤ 6) :
    Calls Tryd.prog 55 #[.int .i64 p] w fun e w' => e = .returned (.int .i64 ((10 ^ p : Nat) : Int)) ∧ Below w.heap.size w w' := by
  have HT := Lib.hid (fun j (hj : j ≤ 6) => ten_bd hj)
  have HF := Lib.hid (rfl : 10 ^ p = 10 ^ p)
  generalize hP : 10 ^ p = P at HF ⊢
  have HP := Lib.hid hP
  clear hP HF
  go_enter Tryd.func55, Tryd.ntmps55
  go_wp2
  go_loopw [3, 4] (fun x i wr => ∃ j n : Nat, j ≤ p ∧ i = .int .i64 j ∧ x = .int .i64 n ∧ Hid (n = 10 ^ j) ∧ n ≤ 1000000 ∧ ∃ q, wr = w.drewN q) (fun _ i _ => p - (intOf i).toNat)
  case atStart => exact ⟨0, 1, Nat.zero_le _, rfl, rfl, Lib.hid rfl, by omega, 0, rfl⟩
  case round =>
    obtain ⟨j, n, hj, rfl, rfl, hn, hb, q, rfl⟩ := hrel
    by_cases hlt : j < p
    · have hn2 : Hid (n * 10 = 10 ^ (j + 1)) := Lib.hid (by rw [Nat.pow_succ, hn.out])
      have hb2 : n * 10 ≤ 1000000 := by rw [hn2.out]; exact (HT.out (j + 1) (by omega)).2
      go_wp2
      refine ⟨⟨j + 1, n * 10, by omega, by go_num, ?_, hn2, hb2, _, rfl⟩, by simp only [intOf]; omega⟩
      rw [show ((n * 10 : Nat) : Int) = (n : Int) * 10 from by omega]
    · have hje : j = p := by omega
      have hr : Hid ((n : Int) = (P : Int)) := Lib.hid (by rw [hn.out, hje, HP.out])
      clear hje
      go_wp2
      go_ret
      exact ⟨ret_int hr.out, below_drewN (Below.refl _ _) _⟩
theorem dec_nat (d : Nat) (w : World) (h : d ≤ 1000000000000) : Calls Tryd.prog 65 #[.int .i64 d] w (Str (Lib.decDigits d) w) := by
  refine (l01Dec_any (d : Int) w (by omega) (by omega)).mono ?_
  rintro e w' ⟨rfl, hb⟩
  rw [itoa_nat]
  exact Str.mk (mk_data _) hb
set_option maxRecDepth 100000 in
set_option maxHeartbeats 3200000 in
theorem l02Fixed_any (n : Int) (p : Nat) (w : World) (h1 : -1000000000 ≤ n) (h2 : n ≤ 1000000000) (h3 : 1 ≤ p) (h4 : p ≤ 6) :
    Calls Tryd.prog 51 #[.int .i64 n, .int .i64 p] w (Str (Dg.fx n p) w) := by
  obtain ⟨T1, T2⟩ := ten_bd h4
  have CT := Lib.hid (l02Ten_any p w h4)
  have hdp := Dg.drop_pad p (n.natAbs % 10 ^ p) (Nat.mod_lt _ (by omega))
  have hfx : Hid (∀ l, l = (if n < 0 then [45] else []) ++ Lib.decDigits (n.natAbs / 10 ^ p) ++ 46 :: Dg.pad p (n.natAbs % 10 ^ p) → l = Dg.fx n p) := Lib.hid (fun l h => h)
  have ha : n.natAbs ≤ 1000000000 := by omega
  have hd0 := Nat.div_le_self n.natAbs (10 ^ p)
  have hr0 := Nat.mod_lt n.natAbs (show 0 < 10 ^ p by omega)
  have hdiv : ((n.natAbs : Nat) : Int) / ((10 ^ p : Nat) : Int) = ((n.natAbs / 10 ^ p : Nat) : Int) := (Int.natCast_ediv _ _).symm
  have hmod : ((n.natAbs : Nat) : Int) % ((10 ^ p : Nat) : Int) = ((n.natAbs % 10 ^ p : Nat) : Int) := (Int.natCast_emod _ _).symm
  generalize 10 ^ p = T at *
  generalize n.natAbs / T = d at *
  generalize n.natAbs % T = r at *
  have C1 := fun W => Lib.hid (dec_nat (r + T) W (by omega))
  have C2 := fun W => Lib.hid (dec_nat d W (by omega))
  have L1 := Lib.hid (Dg.dec_len_le 13 (r + T) (by omega) (by omega))
  have L2 := Lib.hid (Dg.dec_len_le 13 d (by omega) (by omega))
  have L3 := Lib.hid (Dg.dec_len_pos (r + T))
  have HDP := Lib.hid hdp
  clear hdp
  rw [show ((r + T : Nat) : Int) = (r : Int) + (T : Int) from by omega] at C1
  by_cases hn : n < 0
  · have hna : -n = ((n.natAbs : Nat) : Int) := by omega
    have HS : Hid ((⟨#[45]⟩ : ByteArray).data.toList = [45]) := Lib.hid rfl
    have HFX : Hid (∀ l, l = [45] ++ Lib.decDigits d ++ 46 :: Dg.pad p r → l = Dg.fx n p) := Lib.hid (fun l h => hfx.out l (by rw [if_pos hn]; exact h))
    clear hfx
    generalize n.natAbs = a at *
    go_enter Tryd.func51, Tryd.ntmps51
    go_wp2_with fail
    refine CT.out.mono ?_
    rintro e w1 ⟨rfl, b1⟩
    have B1 := Lib.hid b1
    clear b1
    go_wp2_with fail
    refine (C1 _).out.mono ?_
    rintro e w2 ⟨s7, rfl, d7, z7, b2⟩
    have B2 := Lib.hid (tbt B1.out b2)
    have D7 := Lib.hid d7
    have z7' : s7.size ≤ 13 := Nat.le_trans z7 L1.out
    have z71 : 1 ≤ s7.size := by
      have e : s7.data.toList.length = s7.size := by simp
      rw [← e, d7]; exact L3.out
    clear b2 d7 z7
    go_wp2_with fail
    go_region_with (refine (C2 _).out.mono ?_; rintro e w3 ⟨s8, rfl, d8, z8, b3⟩; have z8' : s8.size ≤ 13 := Nat.le_trans z8 L2.out)
    all_goals (
      have D8 := Lib.hid d8
      have B3 : Hid (Below w.heap.size w w3) := Lib.hid (tbt B2.out (by first | exact b3 | exact drewBelow b3))
      clear b3 d8 z8
      go_wp2
      go_ret
      refine Str.mk ?_ B3.out
      apply HFX.out
      rw [app_data, app_data, app_data, ext_drop _ _ _ (Nat.le_refl _), D7.out, D8.out, HDP.out]
      simp)
  · have hna : n = ((n.natAbs : Nat) : Int) := by omega
    have HS : Hid ((⟨#[]⟩ : ByteArray).data.toList = []) := Lib.hid rfl
    have HFX : Hid (∀ l, l = [] ++ Lib.decDigits d ++ 46 :: Dg.pad p r → l = Dg.fx n p) := Lib.hid (fun l h => hfx.out l (by rw [if_neg hn]; exact h))
    clear hfx
    generalize hA : n.natAbs = a at *
    subst hna
    go_enter Tryd.func51, Tryd.ntmps51
    go_wp2_with fail
    refine CT.out.mono ?_
    rintro e w1 ⟨rfl, b1⟩
    have B1 := Lib.hid b1
    clear b1
    go_wp2_with fail
    refine (C1 _).out.mono ?_
    rintro e w2 ⟨s7, rfl, d7, z7, b2⟩
    have B2 := Lib.hid (tbt B1.out b2)
    have D7 := Lib.hid d7
    have z7' : s7.size ≤ 13 := Nat.le_trans z7 L1.out
    have z71 : 1 ≤ s7.size := by
      have e : s7.data.toList.length = s7.size := by simp
      rw [← e, d7]; exact L3.out
    clear b2 d7 z7
    go_wp2_with fail
    go_region_with (refine (C2 _).out.mono ?_; rintro e w3 ⟨s8, rfl, d8, z8, b3⟩; have z8' : s8.size ≤ 13 := Nat.le_trans z8 L2.out)
    all_goals (
      have D8 := Lib.hid d8
      have B3 : Hid (Below w.heap.size w w3) := Lib.hid (tbt B2.out (by first | exact b3 | exact drewBelow b3))
      clear b3 d8 z8
      go_wp2
      go_ret
      refine Str.mk ?_ B3.out
      apply HFX.out
      rw [app_data, app_data, app_data, ext_drop _ _ _ (Nat.le_refl _), D7.out, D8.out, HDP.out]
      simp)
set_option maxHeartbeats 1600000 in
theorem specFixedText_in (n : Int) (p : Nat) (w : World) (h1 : -1000000000 ≤ n) (h2 : n ≤ 1000000000) (h3 : 1 ≤ p) (h4 : p ≤ 6) :
    Calls Tryd.prog 25 #[.int .i64 n, .int .i64 p] w (Str (Dg.fx n p) w) := by
  have i1 : Ar.inB (-1000000000) n 1000000000 = true := Ar.inB_t h1 h2
  have i2 : Ar.inB 1 (p : Int) 6 = true := Ar.inB_t (by omega) (by omega)
  have C := fun W => Lib.hid (l02Fixed_any n p W h1 h2 h3 h4)
  go_enter Tryd.func25, Tryd.ntmps25
  go_wp2_with (first | (go_at_call 49; refine (l02Whole_any _ _).mono ?_; rintro e w' ⟨rfl, rfl⟩) | (go_at_call 50; refine (l02Places_any _ _).mono ?_; rintro e w' ⟨rfl, rfl⟩))
  refine (C _).out.mono ?_
  rintro e w1 ⟨s, rfl, d1, z1, b1⟩
  have D1 := Lib.hid d1
  have B1 := Lib.hid b1
  clear b1 d1 z1
  go_wp2_with fail
  go_ret
  exact Str.mk D1.out B1.out
set_option maxHeartbeats 1600000 in
theorem specFixedText_out (n p : Int) (w : World) (h : ¬ ((-1000000000 ≤ n ∧ n ≤ 1000000000) ∧ 1 ≤ p ∧ p ≤ 6)) :
    Calls Tryd.prog 25 #[.int .i64 n, .int .i64 p] w (Str [] w) := by
  rcases in_cases (-1000000000) n 1000000000 with ⟨a1, a2, i1⟩ | ⟨-, i1⟩
  · have i2 : Ar.inB 1 p 6 = false := Ar.inB_f (by omega)
    go_enter Tryd.func25, Tryd.ntmps25
    go_wp2_with (first | (go_at_call 49; refine (l02Whole_any _ _).mono ?_; rintro e w' ⟨rfl, rfl⟩) | (go_at_call 50; refine (l02Places_any _ _).mono ?_; rintro e w' ⟨rfl, rfl⟩))
    go_ret
    exact Str.mk rfl (Below.refl _ _)
  · go_enter Tryd.func25, Tryd.ntmps25
    go_wp2_with (first | (go_at_call 49; refine (l02Whole_any _ _).mono ?_; rintro e w' ⟨rfl, rfl⟩) | (go_at_call 50; refine (l02Places_any _ _).mono ?_; rintro e w' ⟨rfl, rfl⟩))
    go_ret
    exact Str.mk rfl (Below.refl _ _)
end Go.Proofs.YtnflndngkihaaaaDoor
