/-
  The model's ReadFixed. Condition: a text of at most 2^20 bytes.
-/
import Derived.Test.YtnflndngkihaaaaDoorRfI
namespace Go.Proofs.YtnflndngkihaaaaDoor
open Go.RowKit
set_option linter.unusedVariables false
set_option linter.unusedSimpArgs false

theorem val_wide {l : List UInt8} {j n : Nat} (h : (l.take j).all Nu.dgB = true) (hv : Nu.val (l.take j) = n) (hj : j ≤ 18) : n ≤ 999999999999999999 := by
  have h1 := Nu.val_lt _ h
  rw [hv] at h1
  have h2 : (l.take j).length ≤ 18 := by simp; omega
  have h3 := Nat.pow_le_pow_right (n := 10) (by omega) h2
  omega
set_option maxHeartbeats 1600000 in
theorem l02DigitsW_any (s : ByteArray) (w : World) (hs : s.size ≤ 18) :
    Calls Tryd.prog 48 #[.string s] w fun e w' => e = .returned (.tuple #[.int .i64 (((Fd.rd1 s.size s.data.toList).getD 0 : Nat) : Int), .bool (Fd.rd1 s.size s.data.toList).isSome]) ∧ Below w.heap.size w w' := by
  have hsz : s.data.toList.length = s.size := by simp
  have HR := Lib.hid (rd1_full hsz)
  have HL := Lib.hid hsz
  clear hsz
  generalize Fd.rd1 s.size s.data.toList = o at *
  go_enter Tryd.func48, Tryd.ntmps48
  go_wp2
  go_loopw [4, 5] (fun x y wr => ∃ j n : Nat, j ≤ s.size ∧ y = .int .i64 (j : Int) ∧ x = .int .i64 n ∧ n ≤ 999999999999999999 ∧ Hid ((s.data.toList.take j).all Nu.dgB = true) ∧ Hid (Nu.val (s.data.toList.take j) = n) ∧ ∃ q, wr = w.drewN q) (fun _ y _ => s.size - (intOf y).toNat)
  case atStart => exact ⟨0, 0, Nat.zero_le _, rfl, rfl, by omega, Lib.hid rfl, Lib.hid rfl, 0, rfl⟩
  case round =>
    obtain ⟨j, n, hj, rfl, rfl, hn, hall, hval, q, rfl⟩ := hrel
    by_cases hlt : j < s.size
    · have hts := tk_snoc hlt
      by_cases hd : Nu.dgB (s[j]'hlt) = true
      · have hdd := (Nu.dgB_iff _).1 hd
        have H1 : Hid ((s.data.toList.take (j + 1)).all Nu.dgB = true) := Lib.hid (by rw [hts, List.all_append, hall.out]; simp [hd])
        have H2 : Hid (Nu.val (s.data.toList.take (j + 1)) = n * 10 + ((s[j]'hlt).toNat - 48)) := Lib.hid (by rw [hts, Nu.val_snoc, hval.out])
        have hn2 := val_wide H1.out H2.out (by omega)
        have d1 : (48 : Int) ≤ (s[j]'hlt).toNat := by omega
        have d2 : ((s[j]'hlt).toNat : Int) ≤ 57 := by omega
        clear hts hdd
        go_wp2_with (go_at_call 71; refine (digit_any _ _).mono ?_; rintro e w' ⟨rfl, rfl⟩)
        refine ⟨⟨j + 1, n * 10 + ((s[j]'hlt).toNat - 48), by omega, by go_num, ?_, hn2, H1, H2, _, rfl⟩, by simp [intOf]; omega⟩
        rw [show (((n * 10 + ((s[j]'hlt).toNat - 48) : Nat)) : Int) = 10 * (n : Int) + (((s[j]'hlt).toNat : Int) - 48) from by omega]
      · have hd' : Nu.dgB (s[j]'hlt) = false := by simpa using hd
        have hr : Hid (o = none) := Lib.hid (HR.out.2 (all_tk_f (k := j + 1) (by rw [hts, List.all_append]; simp [hd'])))
        clear hts hd
        go_wp2_with (go_at_call 71; refine (digit_any _ _).mono ?_; rintro e w' ⟨rfl, rfl⟩)
        go_ret2
        exact ⟨ret_nb hr.out.symm rfl rfl, below_drewN (Below.refl _ _) _⟩
    · have hje : j = s.size := by omega
      have hr : Hid (o = some n) := Lib.hid (by
        have h1 := hall.out
        have h2 := hval.out
        rw [hje, ← HL.out, List.take_length] at h1 h2
        rw [HR.out.1 h1, h2])
      clear hje
      go_wp2
      go_ret2
      exact ⟨ret_nb hr.out.symm rfl rfl, below_drewN (Below.refl _ _) _⟩
/-- a part of a text -/
theorem l02DigitsW_at (s : ByteArray) (a b : Nat) (h1 : a ≤ b) (h2 : b ≤ s.size) (h3 : b - a ≤ 18) (w : World) :
    Calls Tryd.prog 48 #[.string (s.extract a b)] w fun e w' => e = .returned (.tuple #[.int .i64 (((Fd.rd1 (b - a) ((s.data.toList.drop a).take (b - a))).getD 0 : Nat) : Int), .bool (Fd.rd1 (b - a) ((s.data.toList.drop a).take (b - a))).isSome]) ∧ Below w.heap.size w w' := by
  have e1 : (s.extract a b).size = b - a := by rw [ByteArray.size_extract]; omega
  have e2 : (s.extract a b).data.toList = (s.data.toList.drop a).take (b - a) := by rw [ext_eq]
  have := l02DigitsW_any (s.extract a b) w (by omega)
  rw [e1, e2] at this
  exact this
theorem rd1_w {k : Nat} {l : List UInt8} (h : l.length = k) (h2 : l.all Nu.dgB = true) {v : Nat} (hv : Nu.val l = v) : Fd.rd1 k l = some v := by
  rw [Fd.rd1_some h h2, hv]
theorem rd1_lt {k v : Nat} {l : List UInt8} (h : Fd.rd1 k l = some v) : v < 10 ^ k := by
  unfold Fd.rd1 at h
  split at h
  · rename_i hq
    simp only [Option.some.injEq] at h
    have := Nu.val_lt _ hq.2
    rw [hq.1, h] at this
    exact this
  · cases h
theorem at_some {s : ByteArray} {k : Nat} (h : k < s.size) : s.data.toList[k]? = some (s[k]'h) := by rw [List.getElem?_eq_getElem (by simpa using h)]; rfl
theorem byte_ne {x y : UInt8} (h : ¬ x = y) : ((x.toNat : Int) == (y.toNat : Int)) = false := by
  rw [beq_eq_false_iff_ne]; intro hc; apply h; apply UInt8.toNat_inj.1; omega
set_option maxRecDepth 100000 in
set_option maxHeartbeats 12800000 in
theorem specReadFixed_any (s : ByteArray) (p : Int) (w : World) (hs : s.size ≤ 1048576) :
    Calls Tryd.prog 27 #[.string s, .int .i64 p] w fun e w' => ∃ o, Fx.RFx s.data.toList p o ∧ e = .returned (.tuple #[.int .i64 (o.getD 0), .bool o.isSome]) ∧ Below w.heap.size w w' := by
  have hsl : s.data.toList.length = s.size := by simp
  rcases in_cases 1 p 6 with ⟨p1, p2, ip⟩ | ⟨hno, ip⟩
  · obtain ⟨q, rfl⟩ := Int.eq_ofNat_of_zero_le (show 0 ≤ p by omega)
    have q1 : 1 ≤ q := by omega
    have q2 : q ≤ 6 := by omega
    have SH := fun (n : Int) (hn : -1000000000 ≤ n ∧ n ≤ 1000000000) (h : Dg.fx n q = s.data.toList) => Fx.fx_shape hn.1 hn.2 q1 q2 h
    rw [hsl] at SH
    by_cases h20 : 20 < s.size
    · have HO : Hid (Fx.RFx s.data.toList q none) := Lib.hid (fun n hn _ h => by
        rw [Int.toNat_natCast] at h
        have := (SH n hn h).1; omega)
      have t20 : (20 : Int) < s.size := by omega
      clear SH h20
      go_enter Tryd.func27, Tryd.ntmps27
      go_wp2_with (go_at_call 50; refine (l02Places_any _ _).mono ?_; rintro e w' ⟨rfl, rfl⟩)
      go_ret2
      exact ret_fx HO.out rfl (Below.refl _ _)
    · have t20 : ¬ (20 : Int) < s.size := by omega
      by_cases hsm : s.size < q + 2
      · have HO : Hid (Fx.RFx s.data.toList q none) := Lib.hid (fun n hn _ h => by
          rw [Int.toNat_natCast] at h
          have := (SH n hn h).2.1; omega)
        have tsm : (s.size : Int) < (q : Int) + 2 := by omega
        clear SH h20 hsm
        go_enter Tryd.func27, Tryd.ntmps27
        go_wp2_with (go_at_call 50; refine (l02Places_any _ _).mono ?_; rintro e w' ⟨rfl, rfl⟩)
        go_ret2
        exact ret_fx HO.out rfl (Below.refl _ _)
      · have tsm : ¬ (s.size : Int) < (q : Int) + 2 := by omega
        obtain ⟨D, hD⟩ : ∃ D, s.size = D + q + 1 := ⟨s.size - q - 1, by omega⟩
        have hD1 : 1 ≤ D := by omega
        have hD2 : D ≤ 18 := by omega
        have hq : (s.size : Int) - (q : Int) - 1 = (D : Int) := by omega
        have p0 : 0 < s.size := by omega
        have pD : D < s.size := by omega
        have a0 := at_some p0
        have aD := at_some pD
        rw [show s.size - q - 1 = D by omega, show s.size - q = D + 1 by omega] at SH
        have HD := Lib.hid hD
        clear hD
        by_cases hc : s[D]'pD = 46
        · have tD : (((s[D]'pD).toNat : Int) != 46) = false := by rw [hc]; rfl
          by_cases h45 : s[0]'p0 = 45
          · have t0 : (((s[0]'p0).toNat : Int) == 45) = true := by rw [h45]; rfl
            by_cases h1D : 1 < D
            · have tst : ¬ (D : Int) ≤ 1 := by omega
              have HX : ∀ n : Int, (-1000000000 ≤ n ∧ n ≤ 1000000000) → Dg.fx n q = s.data.toList → Fd.rd1 (D - 1) ((s.data.toList.drop 1).take (D - 1)) = some (n.natAbs / 10 ^ q) ∧ Fd.rd1 q ((s.data.toList.drop (D + 1)).take q) = some (n.natAbs % 10 ^ q) ∧ n = -((n.natAbs : Nat) : Int) := by
                intro n hn h
                obtain ⟨_, _, _, h4, h5⟩ := SH n hn h
                rcases h5 with ⟨hn0, _, _, h6⟩ | ⟨_, h6, _, _⟩
                · have h7 : Nu.val ((s.data.toList.drop 1).take (D - 1)) = n.natAbs / 10 ^ q := by rw [h6]; exact (Nu.val_dec _).1
                  refine ⟨rd1_w (by simp; omega) (by rw [h6]; exact Fx.dd_digits _) h7, ?_, by omega⟩
                  rw [h4, List.take_of_length_le (by rw [Dg.pad_length]; exact Nat.le_refl _)]
                  exact rd1_w (Dg.pad_length _ _) (Dg.pad_digits _ _) (Dg.pad_val q _ (Nat.mod_lt _ (Dg.pow_pos q)))
                · exact absurd (by rw [a0, h45]) h6
              have C1 := Lib.hid (l02DigitsW_at s 1 D (by omega) (by omega) (by omega) w)
              have C2 : ∀ W, Hid (Calls Tryd.prog 48 #[.string (s.extract (D + 1) s.size)] W fun e w' => e = .returned (.tuple #[.int .i64 (((Fd.rd1 q ((s.data.toList.drop (D + 1)).take q)).getD 0 : Nat) : Int), .bool (Fd.rd1 q ((s.data.toList.drop (D + 1)).take q)).isSome]) ∧ Below W.heap.size W w') := fun W => by
                have hD := HD.out
                have := l02DigitsW_at s (D + 1) s.size (by omega) (by omega) (by omega) W
                rw [show s.size - (D + 1) = q by omega] at this
                exact Lib.hid this
              have LT := Lib.hid (fun v (h : Fd.rd1 q ((s.data.toList.drop (D + 1)).take q) = some v) => rd1_lt h)
              clear SH a0 aD hc h45
              generalize Fd.rd1 (D - 1) ((s.data.toList.drop 1).take (D - 1)) = x at *
              generalize Fd.rd1 q ((s.data.toList.drop (D + 1)).take q) = y at *
              have main : (x = none ∨ y = none) ∨ ∃ a b : Nat, x = some a ∧ y = some b := by
                rcases x with _ | a
                · exact Or.inl (Or.inl rfl)
                · rcases y with _ | b
                  · exact Or.inl (Or.inr rfl)
                  · exact Or.inr ⟨a, b, rfl, rfl⟩
              rcases main with hno | ⟨a, b, rfl, rfl⟩
              · have HO : Hid (Fx.RFx s.data.toList q none) := Lib.hid (fun n hn _ h => by
                  rw [Int.toNat_natCast] at h
                  obtain ⟨g1, g2, _⟩ := HX n hn h
                  rcases hno with h' | h'
                  · rw [h'] at g1; cases g1
                  · rw [h'] at g2; cases g2)
                have hbs : x.isSome = false ∨ (x.isSome = true ∧ y.isSome = false) := by
                  rcases x with _ | a
                  · exact Or.inl rfl
                  · rcases y with _ | b
                    · exact Or.inr ⟨rfl, rfl⟩
                    · simp at hno
                clear hno HX LT
                generalize ((x.getD 0 : Nat) : Int) = xv at *
                generalize ((y.getD 0 : Nat) : Int) = yv at *
                generalize x.isSome = xb at *
                generalize y.isSome = yb at *
                rcases hbs with hx | ⟨hx, hy⟩
                all_goals (
                  go_enter Tryd.func27, Tryd.ntmps27
                  go_wp2_with (go_at_call 50; refine (l02Places_any _ _).mono ?_; rintro e w' ⟨rfl, rfl⟩)
                  refine C1.out.mono ?_
                  rintro e w1 ⟨rfl, b1⟩
                  have B1 := Lib.hid b1
                  clear b1
                  go_wp2_with fail
                  refine (C2 _).out.mono ?_
                  rintro e w2 ⟨rfl, b2⟩
                  have B2 := Lib.hid (bt B1.out b2)
                  clear b2
                  go_wp2_with fail
                  go_ret2
                  exact ret_fx HO.out rfl B2.out)
              · have hb := LT.out b rfl
                obtain ⟨T1, T2⟩ := ten_bd q2
                by_cases hbig : 1000000000 < a
                · have HO : Hid (Fx.RFx s.data.toList q none) := Lib.hid (fun n hn _ h => by
                    rw [Int.toNat_natCast] at h
                    obtain ⟨g1, _, _⟩ := HX n hn h
                    simp only [Option.some.injEq] at g1
                    have := Nat.div_le_self n.natAbs (10 ^ q)
                    omega)
                  have tb : (1000000000 : Int) < (a : Int) := by omega
                  clear HX LT hb T1 T2
                  go_enter Tryd.func27, Tryd.ntmps27
                  go_wp2_with (go_at_call 50; refine (l02Places_any _ _).mono ?_; rintro e w' ⟨rfl, rfl⟩)
                  refine C1.out.mono ?_
                  rintro e w1 ⟨rfl, b1⟩
                  have B1 := Lib.hid b1
                  clear b1
                  go_wp2_with fail
                  refine (C2 _).out.mono ?_
                  rintro e w2 ⟨rfl, b2⟩
                  have B2 := Lib.hid (bt B1.out b2)
                  clear b2
                  go_wp2_with fail
                  go_ret2
                  exact ret_fx HO.out rfl B2.out
                · have tb : ¬ (1000000000 : Int) < (a : Int) := by omega
                  have HV : Hid (∀ n : Int, (-1000000000 ≤ n ∧ n ≤ 1000000000) → Dg.fx n q = s.data.toList → n = -((a : Int) * ((10 ^ q : Nat) : Int) + (b : Int))) := Lib.hid (fun n hn h => by
                    obtain ⟨g1, g2, g3⟩ := HX n hn h
                    simp only [Option.some.injEq] at g1 g2
                    have e := Nat.div_add_mod n.natAbs (10 ^ q)
                    rw [← g1, ← g2, Nat.mul_comm] at e
                    rw [g3, ← e]
                    simp)
                  have CT := fun W => Lib.hid (l02Ten_any q W q2)
                  have CF := fun (v : Int) W h1 h2 => Lib.hid (l02Fixed_any v q W h1 h2 q1 q2)
                  clear HX LT
                  generalize 10 ^ q = T at *
                  have hp1 : 0 ≤ (a : Int) * (T : Int) ∧ (a : Int) * (T : Int) ≤ 1000000000000000 := by
                    have e1 := Int.mul_nonneg (a := (a : Int)) (b := (T : Int)) (by omega) (by omega)
                    have e2 := Int.mul_le_mul (a := (a : Int)) (b := (T : Int)) (c := 1000000000) (d := 1000000) (by omega) (by omega) (by omega) (by omega)
                    omega
                  obtain ⟨hp1, hp2⟩ := hp1
                  obtain ⟨v, hv⟩ : ∃ v : Int, -((a : Int) * (T : Int) + (b : Int)) = v := ⟨_, rfl⟩
                  have v1 : -1000000000000000000 ≤ v := by omega
                  have v2 : v ≤ 1000000000000000000 := by omega
                  rw [hv] at HV
                  by_cases hin : -1000000000 ≤ v ∧ v ≤ 1000000000
                  · have iv1 : Ar.inB (-1000000000) v 1000000000 = true := Ar.inB_t hin.1 hin.2
                    by_cases hit : Dg.fx v q = s.data.toList
                    · have HO : Hid (Fx.RFx s.data.toList q (some v)) := Lib.hid ⟨hin, ⟨p1, p2⟩, by rw [Int.toNat_natCast]; exact hit⟩
                      have HS := Lib.hid hit
                      have CF' := fun W => CF v W hin.1 hin.2
                      clear hit HV CF
                      go_enter Tryd.func27, Tryd.ntmps27
                      go_wp2_with (go_at_call 50; refine (l02Places_any _ _).mono ?_; rintro e w' ⟨rfl, rfl⟩)
                      refine C1.out.mono ?_
                      rintro e w1 ⟨rfl, b1⟩
                      have B1 := Lib.hid b1
                      clear b1
                      go_wp2_with fail
                      refine (C2 _).out.mono ?_
                      rintro e w2 ⟨rfl, b2⟩
                      have B2 := Lib.hid (bt B1.out b2)
                      clear b2
                      go_wp2_with fail
                      refine (CT _).out.mono ?_
                      rintro e w3 ⟨rfl, b3⟩
                      have B3 := Lib.hid (bt B2.out b3)
                      clear b3
                      go_wp2_with (go_at_call 49; refine (l02Whole_any _ _).mono ?_; rintro e w' ⟨rfl, rfl⟩)
                      refine (CF' _).out.mono ?_
                      rintro e w4 ⟨t, rfl, d4, z4, b4⟩
                      have B4 := Lib.hid (bt B3.out b4)
                      obtain rfl : t = s := str_eq (d4.trans HS.out)
                      clear b4 d4 z4
                      go_wp2_with fail
                      go_ret2
                      exact ret_fx HO.out rfl B4.out
                    · have HO : Hid (Fx.RFx s.data.toList q none) := Lib.hid (fun n hn _ h => hit (by
                        rw [Int.toNat_natCast] at h
                        rw [← HV.out n hn h]; exact h))
                      have HS := Lib.hid hit
                      have CF' := fun W => CF v W hin.1 hin.2
                      clear hit HV CF
                      go_enter Tryd.func27, Tryd.ntmps27
                      go_wp2_with (go_at_call 50; refine (l02Places_any _ _).mono ?_; rintro e w' ⟨rfl, rfl⟩)
                      refine C1.out.mono ?_
                      rintro e w1 ⟨rfl, b1⟩
                      have B1 := Lib.hid b1
                      clear b1
                      go_wp2_with fail
                      refine (C2 _).out.mono ?_
                      rintro e w2 ⟨rfl, b2⟩
                      have B2 := Lib.hid (bt B1.out b2)
                      clear b2
                      go_wp2_with fail
                      refine (CT _).out.mono ?_
                      rintro e w3 ⟨rfl, b3⟩
                      have B3 := Lib.hid (bt B2.out b3)
                      clear b3
                      go_wp2_with (go_at_call 49; refine (l02Whole_any _ _).mono ?_; rintro e w' ⟨rfl, rfl⟩)
                      refine (CF' _).out.mono ?_
                      rintro e w4 ⟨t, rfl, d4, z4, b4⟩
                      have B4 := Lib.hid (bt B3.out b4)
                      have hne : (!(t.toList == s.toList)) = true := by
                        rw [ByteArray.toList_eq, ByteArray.toList_eq, Bool.not_eq_true', beq_eq_false_iff_ne, d4]; exact HS.out
                      clear b4 d4 z4
                      go_wp2_with fail
                      go_ret2
                      exact ret_fx HO.out rfl B4.out
                  · have iv1 : Ar.inB (-1000000000) v 1000000000 = false := Ar.inB_f hin
                    have HO : Hid (Fx.RFx s.data.toList q none) := Lib.hid (fun n hn _ h => hin (by
                      rw [Int.toNat_natCast] at h
                      rw [← HV.out n hn h]; exact hn))
                    clear hin HV CF
                    go_enter Tryd.func27, Tryd.ntmps27
                    go_wp2_with (go_at_call 50; refine (l02Places_any _ _).mono ?_; rintro e w' ⟨rfl, rfl⟩)
                    refine C1.out.mono ?_
                    rintro e w1 ⟨rfl, b1⟩
                    have B1 := Lib.hid b1
                    clear b1
                    go_wp2_with fail
                    refine (C2 _).out.mono ?_
                    rintro e w2 ⟨rfl, b2⟩
                    have B2 := Lib.hid (bt B1.out b2)
                    clear b2
                    go_wp2_with fail
                    refine (CT _).out.mono ?_
                    rintro e w3 ⟨rfl, b3⟩
                    have B3 := Lib.hid (bt B2.out b3)
                    clear b3
                    go_wp2_with (go_at_call 49; refine (l02Whole_any _ _).mono ?_; rintro e w' ⟨rfl, rfl⟩)
                    go_ret2
                    exact ret_fx HO.out rfl B3.out
            · have tst : (D : Int) ≤ 1 := by omega
              have HO : Hid (Fx.RFx s.data.toList q none) := Lib.hid (fun n hn _ h => by
                rw [Int.toNat_natCast] at h
                rcases (SH n hn h).2.2.2.2 with ⟨_, _, h3, _⟩ | ⟨_, h3, _, _⟩
                · omega
                · exact h3 (by rw [a0, h45]))
              clear SH a0 aD hc h45
              go_enter Tryd.func27, Tryd.ntmps27
              go_wp2_with (go_at_call 50; refine (l02Places_any _ _).mono ?_; rintro e w' ⟨rfl, rfl⟩)
              go_ret2
              exact ret_fx HO.out rfl (Below.refl _ _)
          · have t0 : (((s[0]'p0).toNat : Int) == 45) = false := byte_ne (y := 45) h45
            have tst : ¬ (D : Int) ≤ 0 := by omega
            have HX : ∀ n : Int, (-1000000000 ≤ n ∧ n ≤ 1000000000) → Dg.fx n q = s.data.toList → Fd.rd1 (D - 0) ((s.data.toList.drop 0).take (D - 0)) = some (n.natAbs / 10 ^ q) ∧ Fd.rd1 q ((s.data.toList.drop (D + 1)).take q) = some (n.natAbs % 10 ^ q) ∧ n = ((n.natAbs : Nat) : Int) := by
              intro n hn h
              obtain ⟨_, _, _, h4, h5⟩ := SH n hn h
              rcases h5 with ⟨_, h6, _, _⟩ | ⟨hn0, _, _, h6⟩
              · rw [a0] at h6
                exact absurd (Option.some.inj h6) h45
              · have h7 : Nu.val ((s.data.toList.drop 0).take (D - 0)) = n.natAbs / 10 ^ q := by rw [h6]; exact (Nu.val_dec _).1
                refine ⟨rd1_w (by simp; omega) (by rw [h6]; exact Fx.dd_digits _) h7, ?_, by omega⟩
                rw [h4, List.take_of_length_le (by rw [Dg.pad_length]; exact Nat.le_refl _)]
                exact rd1_w (Dg.pad_length _ _) (Dg.pad_digits _ _) (Dg.pad_val q _ (Nat.mod_lt _ (Dg.pow_pos q)))
            have C1 := Lib.hid (l02DigitsW_at s 0 D (by omega) (by omega) (by omega) w)
            have C2 : ∀ W, Hid (Calls Tryd.prog 48 #[.string (s.extract (D + 1) s.size)] W fun e w' => e = .returned (.tuple #[.int .i64 (((Fd.rd1 q ((s.data.toList.drop (D + 1)).take q)).getD 0 : Nat) : Int), .bool (Fd.rd1 q ((s.data.toList.drop (D + 1)).take q)).isSome]) ∧ Below W.heap.size W w') := fun W => by
              have hD := HD.out
              have := l02DigitsW_at s (D + 1) s.size (by omega) (by omega) (by omega) W
              rw [show s.size - (D + 1) = q by omega] at this
              exact Lib.hid this
            have LT := Lib.hid (fun v (h : Fd.rd1 q ((s.data.toList.drop (D + 1)).take q) = some v) => rd1_lt h)
            clear SH a0 aD hc h45
            generalize Fd.rd1 (D - 0) ((s.data.toList.drop 0).take (D - 0)) = x at *
            generalize Fd.rd1 q ((s.data.toList.drop (D + 1)).take q) = y at *
            have main : (x = none ∨ y = none) ∨ ∃ a b : Nat, x = some a ∧ y = some b := by
              rcases x with _ | a
              · exact Or.inl (Or.inl rfl)
              · rcases y with _ | b
                · exact Or.inl (Or.inr rfl)
                · exact Or.inr ⟨a, b, rfl, rfl⟩
            rcases main with hno | ⟨a, b, rfl, rfl⟩
            · have HO : Hid (Fx.RFx s.data.toList q none) := Lib.hid (fun n hn _ h => by
                rw [Int.toNat_natCast] at h
                obtain ⟨g1, g2, _⟩ := HX n hn h
                rcases hno with h' | h'
                · rw [h'] at g1; cases g1
                · rw [h'] at g2; cases g2)
              have hbs : x.isSome = false ∨ (x.isSome = true ∧ y.isSome = false) := by
                rcases x with _ | a
                · exact Or.inl rfl
                · rcases y with _ | b
                  · exact Or.inr ⟨rfl, rfl⟩
                  · simp at hno
              clear hno HX LT
              generalize ((x.getD 0 : Nat) : Int) = xv at *
              generalize ((y.getD 0 : Nat) : Int) = yv at *
              generalize x.isSome = xb at *
              generalize y.isSome = yb at *
              rcases hbs with hx | ⟨hx, hy⟩
              all_goals (
                go_enter Tryd.func27, Tryd.ntmps27
                go_wp2_with (go_at_call 50; refine (l02Places_any _ _).mono ?_; rintro e w' ⟨rfl, rfl⟩)
                refine C1.out.mono ?_
                rintro e w1 ⟨rfl, b1⟩
                have B1 := Lib.hid b1
                clear b1
                go_wp2_with fail
                refine (C2 _).out.mono ?_
                rintro e w2 ⟨rfl, b2⟩
                have B2 := Lib.hid (bt B1.out b2)
                clear b2
                go_wp2_with fail
                go_ret2
                exact ret_fx HO.out rfl B2.out)
            · have hb := LT.out b rfl
              obtain ⟨T1, T2⟩ := ten_bd q2
              by_cases hbig : 1000000000 < a
              · have HO : Hid (Fx.RFx s.data.toList q none) := Lib.hid (fun n hn _ h => by
                  rw [Int.toNat_natCast] at h
                  obtain ⟨g1, _, _⟩ := HX n hn h
                  simp only [Option.some.injEq] at g1
                  have := Nat.div_le_self n.natAbs (10 ^ q)
                  omega)
                have tb : (1000000000 : Int) < (a : Int) := by omega
                clear HX LT hb T1 T2
                go_enter Tryd.func27, Tryd.ntmps27
                go_wp2_with (go_at_call 50; refine (l02Places_any _ _).mono ?_; rintro e w' ⟨rfl, rfl⟩)
                refine C1.out.mono ?_
                rintro e w1 ⟨rfl, b1⟩
                have B1 := Lib.hid b1
                clear b1
                go_wp2_with fail
                refine (C2 _).out.mono ?_
                rintro e w2 ⟨rfl, b2⟩
                have B2 := Lib.hid (bt B1.out b2)
                clear b2
                go_wp2_with fail
                go_ret2
                exact ret_fx HO.out rfl B2.out
              · have tb : ¬ (1000000000 : Int) < (a : Int) := by omega
                have HV : Hid (∀ n : Int, (-1000000000 ≤ n ∧ n ≤ 1000000000) → Dg.fx n q = s.data.toList → n = ((a : Int) * ((10 ^ q : Nat) : Int) + (b : Int))) := Lib.hid (fun n hn h => by
                  obtain ⟨g1, g2, g3⟩ := HX n hn h
                  simp only [Option.some.injEq] at g1 g2
                  have e := Nat.div_add_mod n.natAbs (10 ^ q)
                  rw [← g1, ← g2, Nat.mul_comm] at e
                  rw [g3, ← e]
                  simp)
                have CT := fun W => Lib.hid (l02Ten_any q W q2)
                have CF := fun (v : Int) W h1 h2 => Lib.hid (l02Fixed_any v q W h1 h2 q1 q2)
                clear HX LT
                generalize 10 ^ q = T at *
                have hp1 : 0 ≤ (a : Int) * (T : Int) ∧ (a : Int) * (T : Int) ≤ 1000000000000000 := by
                  have e1 := Int.mul_nonneg (a := (a : Int)) (b := (T : Int)) (by omega) (by omega)
                  have e2 := Int.mul_le_mul (a := (a : Int)) (b := (T : Int)) (c := 1000000000) (d := 1000000) (by omega) (by omega) (by omega) (by omega)
                  omega
                obtain ⟨hp1, hp2⟩ := hp1
                obtain ⟨v, hv⟩ : ∃ v : Int, ((a : Int) * (T : Int) + (b : Int)) = v := ⟨_, rfl⟩
                have v1 : -1000000000000000000 ≤ v := by omega
                have v2 : v ≤ 1000000000000000000 := by omega
                rw [hv] at HV
                by_cases hin : -1000000000 ≤ v ∧ v ≤ 1000000000
                · have iv1 : Ar.inB (-1000000000) v 1000000000 = true := Ar.inB_t hin.1 hin.2
                  by_cases hit : Dg.fx v q = s.data.toList
                  · have HO : Hid (Fx.RFx s.data.toList q (some v)) := Lib.hid ⟨hin, ⟨p1, p2⟩, by rw [Int.toNat_natCast]; exact hit⟩
                    have HS := Lib.hid hit
                    have CF' := fun W => CF v W hin.1 hin.2
                    clear hit HV CF
                    go_enter Tryd.func27, Tryd.ntmps27
                    go_wp2_with (go_at_call 50; refine (l02Places_any _ _).mono ?_; rintro e w' ⟨rfl, rfl⟩)
                    refine C1.out.mono ?_
                    rintro e w1 ⟨rfl, b1⟩
                    have B1 := Lib.hid b1
                    clear b1
                    go_wp2_with fail
                    refine (C2 _).out.mono ?_
                    rintro e w2 ⟨rfl, b2⟩
                    have B2 := Lib.hid (bt B1.out b2)
                    clear b2
                    go_wp2_with fail
                    refine (CT _).out.mono ?_
                    rintro e w3 ⟨rfl, b3⟩
                    have B3 := Lib.hid (bt B2.out b3)
                    clear b3
                    go_wp2_with (go_at_call 49; refine (l02Whole_any _ _).mono ?_; rintro e w' ⟨rfl, rfl⟩)
                    refine (CF' _).out.mono ?_
                    rintro e w4 ⟨t, rfl, d4, z4, b4⟩
                    have B4 := Lib.hid (bt B3.out b4)
                    obtain rfl : t = s := str_eq (d4.trans HS.out)
                    clear b4 d4 z4
                    go_wp2_with fail
                    go_ret2
                    exact ret_fx HO.out rfl B4.out
                  · have HO : Hid (Fx.RFx s.data.toList q none) := Lib.hid (fun n hn _ h => hit (by
                      rw [Int.toNat_natCast] at h
                      rw [← HV.out n hn h]; exact h))
                    have HS := Lib.hid hit
                    have CF' := fun W => CF v W hin.1 hin.2
                    clear hit HV CF
                    go_enter Tryd.func27, Tryd.ntmps27
                    go_wp2_with (go_at_call 50; refine (l02Places_any _ _).mono ?_; rintro e w' ⟨rfl, rfl⟩)
                    refine C1.out.mono ?_
                    rintro e w1 ⟨rfl, b1⟩
                    have B1 := Lib.hid b1
                    clear b1
                    go_wp2_with fail
                    refine (C2 _).out.mono ?_
                    rintro e w2 ⟨rfl, b2⟩
                    have B2 := Lib.hid (bt B1.out b2)
                    clear b2
                    go_wp2_with fail
                    refine (CT _).out.mono ?_
                    rintro e w3 ⟨rfl, b3⟩
                    have B3 := Lib.hid (bt B2.out b3)
                    clear b3
                    go_wp2_with (go_at_call 49; refine (l02Whole_any _ _).mono ?_; rintro e w' ⟨rfl, rfl⟩)
                    refine (CF' _).out.mono ?_
                    rintro e w4 ⟨t, rfl, d4, z4, b4⟩
                    have B4 := Lib.hid (bt B3.out b4)
                    have hne : (!(t.toList == s.toList)) = true := by
                      rw [ByteArray.toList_eq, ByteArray.toList_eq, Bool.not_eq_true', beq_eq_false_iff_ne, d4]; exact HS.out
                    clear b4 d4 z4
                    go_wp2_with fail
                    go_ret2
                    exact ret_fx HO.out rfl B4.out
                · have iv1 : Ar.inB (-1000000000) v 1000000000 = false := Ar.inB_f hin
                  have HO : Hid (Fx.RFx s.data.toList q none) := Lib.hid (fun n hn _ h => hin (by
                    rw [Int.toNat_natCast] at h
                    rw [← HV.out n hn h]; exact hn))
                  clear hin HV CF
                  go_enter Tryd.func27, Tryd.ntmps27
                  go_wp2_with (go_at_call 50; refine (l02Places_any _ _).mono ?_; rintro e w' ⟨rfl, rfl⟩)
                  refine C1.out.mono ?_
                  rintro e w1 ⟨rfl, b1⟩
                  have B1 := Lib.hid b1
                  clear b1
                  go_wp2_with fail
                  refine (C2 _).out.mono ?_
                  rintro e w2 ⟨rfl, b2⟩
                  have B2 := Lib.hid (bt B1.out b2)
                  clear b2
                  go_wp2_with fail
                  refine (CT _).out.mono ?_
                  rintro e w3 ⟨rfl, b3⟩
                  have B3 := Lib.hid (bt B2.out b3)
                  clear b3
                  go_wp2_with (go_at_call 49; refine (l02Whole_any _ _).mono ?_; rintro e w' ⟨rfl, rfl⟩)
                  go_ret2
                  exact ret_fx HO.out rfl B3.out
        · have tD : (((s[D]'pD).toNat : Int) != 46) = true := by
            have := byte_ne (y := 46) hc
            rw [bne, Bool.not_eq_true']; exact this
          have HO : Hid (Fx.RFx s.data.toList q none) := Lib.hid (fun n hn _ h => by
            rw [Int.toNat_natCast] at h
            have := (SH n hn h).2.2.1
            rw [aD] at this
            exact hc (Option.some.inj this))
          by_cases h45 : s[0]'p0 = 45
          · have t0 : (((s[0]'p0).toNat : Int) == 45) = true := by rw [h45]; rfl
            clear SH a0 aD hc h45
            go_enter Tryd.func27, Tryd.ntmps27
            go_wp2_with (go_at_call 50; refine (l02Places_any _ _).mono ?_; rintro e w' ⟨rfl, rfl⟩)
            go_ret2
            exact ret_fx HO.out rfl (Below.refl _ _)
          · have t0 : (((s[0]'p0).toNat : Int) == 45) = false := byte_ne (y := 45) h45
            clear SH a0 aD hc h45
            go_enter Tryd.func27, Tryd.ntmps27
            go_wp2_with (go_at_call 50; refine (l02Places_any _ _).mono ?_; rintro e w' ⟨rfl, rfl⟩)
            go_ret2
            exact ret_fx HO.out rfl (Below.refl _ _)
  · have HO : Hid (Fx.RFx s.data.toList p none) := Lib.hid (fun n hn hp h => hno hp)
    clear hno
    go_enter Tryd.func27, Tryd.ntmps27
    go_wp2_with (go_at_call 50; refine (l02Places_any _ _).mono ?_; rintro e w' ⟨rfl, rfl⟩)
    go_ret2
    exact ret_fx HO.out rfl (Below.refl _ _)
end Go.Proofs.YtnflndngkihaaaaDoor
