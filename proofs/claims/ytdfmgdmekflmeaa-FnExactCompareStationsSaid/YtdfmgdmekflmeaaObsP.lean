/-
  CompareStations of chapter 4, by the model (all pairs) and by the program (a map by hours). No condition of its own.
-/
import Derived.Test.YtdfmgdmekflmeaaObsN
import Derived.Test.YtdfmgdmekflmeaaObsH
import Derived.Test.YtdfmgdmekflmeaaObsK
namespace Go.Proofs.Ytdfmgdmekflmeaa
open Go.RowKit Go.Shelf Go.Maps
set_option linter.unusedVariables false
set_option maxRecDepth 100000

theorem Ob.cmp_bad {a b : List Obs} (h : Ob.okS a = false ∨ Ob.okS b = false) : Ob.cmpM a b = 0 ∧ Ob.cmpS a b = 0 ∧ Ob.cmpC a b = 1 := by
  have e : (Ob.okS a && Ob.okS b) = false := by rcases h with h | h <;> simp [h]
  unfold Ob.cmpM Ob.cmpS Ob.cmpC; rw [e]; exact ⟨rfl, rfl, rfl⟩
theorem Ob.cmp_ok {a b : List Obs} (h1 : Ob.okS a = true) (h2 : Ob.okS b = true) : Ob.cmpM a b = Ob.cntA a b a.length ∧ Ob.cmpS a b = Ob.sumA a b a.length ∧ Ob.cmpC a b = 0 := by
  unfold Ob.cmpM Ob.cmpS Ob.cmpC; rw [h1, h2]; exact ⟨rfl, rfl, rfl⟩
set_option maxHeartbeats 3200000 in
theorem specCompareStations_any (w : World) (v : Value) (xs : List Obs) (u : Value) (ys : List Obs) (hv : ObSl w v xs) (hl : xs.length ≤ 1048576) (hu : ObSl w u ys) (hl2 : ys.length ≤ 1048576) :
    Calls Try.prog 56 #[v, u] w fun e w' => e = .returned (.tuple #[.int .i64 (Ob.cmpM xs ys), .int .i64 (Ob.cmpS xs ys), .int .i64 (Ob.cmpC xs ys)]) ∧ Below w.heap.size w w' := by
  have C := Lib.hid (l04Ok_any w v xs hv hl)
  have D := fun W (hb : Below w.heap.size w W) => Lib.hid (l04Ok_any W u ys (hu.below hb) hl2)
  obtain ⟨a, cap, rfl⟩ := hv.form
  obtain ⟨a', cap', rfl⟩ := hu.form
  have HV := Lib.hid hv
  have HU := Lib.hid hu
  clear hv hu
  cases hq : Ob.okS xs with
  | false =>
    have hr := Lib.hid (Ob.cmp_bad (b := ys) (Or.inl hq))
    rw [hq] at C
    clear hq
    go_enter Try.func56, Try.ntmps56
    go_wp2_with fail
    refine C.out.mono ?_
    rintro e w1 ⟨rfl, b1⟩
    have B1 := Lib.hid b1
    clear b1
    go_wp2_with fail
    go_ret3
    exact ⟨ret_iii hr.out.1.symm hr.out.2.1.symm hr.out.2.2.symm, B1.out⟩
  | true =>
    cases hq2 : Ob.okS ys with
    | false =>
      have hr := Lib.hid (Ob.cmp_bad (a := xs) (Or.inr hq2))
      rw [hq] at C
      rw [hq2] at D
      clear hq hq2
      go_enter Try.func56, Try.ntmps56
      go_wp2_with fail
      refine C.out.mono ?_
      rintro e w1 ⟨rfl, b1⟩
      have B1 := Lib.hid b1
      clear b1
      go_wp2_with fail
      refine (D w1 B1.out).out.mono ?_
      rintro e w2 ⟨rfl, b2⟩
      have B2 := Lib.hid (bt B1.out b2)
      clear b2
      go_wp2_with fail
      go_ret3
      exact ⟨ret_iii hr.out.1.symm hr.out.2.1.symm hr.out.2.2.symm, B2.out⟩
    | true =>
      have hr := Lib.hid (Ob.cmp_ok hq hq2)
      have h48 := Ob.len_ok hq
      have h48' := Ob.len_ok hq2
      have HF := Lib.hid ((Ob.okS_iff xs).1 hq).2.1
      have HG := Lib.hid ((Ob.okS_iff ys).1 hq2).2.1
      rw [hq] at C
      rw [hq2] at D
      clear hq hq2
      go_enter Try.func56, Try.ntmps56
      go_wp2_with fail
      refine C.out.mono ?_
      rintro e w1 ⟨rfl, b1⟩
      have B1 := Lib.hid b1
      clear b1
      go_wp2_with fail
      refine (D w1 B1.out).out.mono ?_
      rintro e w2 ⟨rfl, b2⟩
      have B2 := Lib.hid (bt B1.out b2)
      clear b2
      go_wp2_with fail
      go_loopw [7, 8, 9, 10] (fun m t i _ wr => ∃ (k : Nat) (z y : Int), k ≤ xs.length ∧ i = .int .i64 k ∧ m = .int .i64 z ∧ t = .int .i64 y ∧ 0 ≤ z ∧ z ≤ 48 * k ∧ 0 ≤ y ∧ y ≤ 96000 * k ∧ Hid (z = Ob.cntA xs ys k) ∧ Hid (y = Ob.sumA xs ys k) ∧ Hid (Below w.heap.size w wr)) (fun _ _ i _ _ => xs.length - (intOf i).toNat)
      case atStart => exact ⟨0, 0, 0, Nat.zero_le _, rfl, rfl, rfl, by omega, by omega, by omega, by omega, Lib.hid rfl, Lib.hid rfl, B2⟩
      case round =>
        obtain ⟨k, z, y, hk, rfl, rfl, rfl, z1, z2, y1, y2, hz, hy, hbw⟩ := hrel
        by_cases hlt : k < xs.length
        · obtain ⟨b, off, cap1, hn, hbl, hcc⟩ := (HV.out.below hbw.out).at_ hlt
          simp only [Value.slice.injEq] at hn
          obtain ⟨rfl, -, rfl⟩ := hn
          have HX := Lib.hid (hcc k hlt)
          have FX := Lib.hid (HF.out _ (List.getElem_mem hlt))
          have hn1 := Lib.hid (show Ob.cntA xs ys (k + 1) = Ob.cntA xs ys k + Ob.cntB ys (Ob.nth xs k).ho ys.length from rfl)
          have hn2 := Lib.hid (show Ob.sumA xs ys (k + 1) = Ob.sumA xs ys k + Ob.sumB ys (Ob.nth xs k) ys.length from rfl)
          rw [Ob.nth_eq hlt] at hn1 hn2
          clear hcc
          generalize xs[k] = x at *
          obtain ⟨wo, hwo⟩ : ∃ wo : World, wo = wr := ⟨_, rfl⟩
          subst hwo
          go_wp2
          go_loopw [7, 8, 10] (fun m t i wq => ∃ (j : Nat) (p q : Int), j ≤ ys.length ∧ i = .int .i64 j ∧ m = .int .i64 (z + p) ∧ t = .int .i64 (y + q) ∧ 0 ≤ p ∧ p ≤ j ∧ 0 ≤ q ∧ q ≤ 2000 * j ∧ Hid (p = Ob.cntB ys x.ho j) ∧ Hid (q = Ob.sumB ys x j) ∧ Hid (Below wo.heap.size wo wq)) (fun _ _ i _ => ys.length - (intOf i).toNat)
          case atStart => exact ⟨0, 0, 0, Nat.zero_le _, rfl, by simp, by simp, by omega, by omega, by omega, by omega, Lib.hid rfl, Lib.hid rfl, Lib.hid (Below.refl _ _)⟩
          case round =>
            obtain ⟨j, p, q, hj, rfl, rfl, rfl, p1, p2, q1, q2, hp, hq, hbq⟩ := hrel
            by_cases hjl : j < ys.length
            · obtain ⟨b', off', cap2, hn', hbl', hcc'⟩ := (HU.out.below (bt hbw.out hbq.out)).at_ hjl
              simp only [Value.slice.injEq] at hn'
              obtain ⟨rfl, -, rfl⟩ := hn'
              obtain ⟨d0, d1, d2, d3⟩ := hcc' j hjl
              obtain ⟨c0, c1, c2, c3⟩ := HX.out.below hbq.out hbl
              have FY := HG.out _ (List.getElem_mem hjl)
              have s1 := FX.out.s1
              have s2 := FX.out.s2
              have s3 := FY.s1
              have s4 := FY.s2
              have m1 := Lib.hid (show Ob.cntB ys x.ho (j + 1) = Ob.cntB ys x.ho j + (if x.ho = (Ob.nth ys j).ho then 1 else 0) from rfl)
              have m2 := Lib.hid (show Ob.sumB ys x (j + 1) = Ob.sumB ys x j + (if x.ho = (Ob.nth ys j).ho then Ar.ab (x.sn - (Ob.nth ys j).sn) else 0) from rfl)
              rw [Ob.nth_eq hjl] at m1 m2
              clear hcc' FY
              generalize ys[j] = y' at *
              by_cases he : x.ho = y'.ho
              · have hbe : (x.ho == y'.ho) = true := beq_iff_eq.2 he
                have k1 : Hid (p + 1 = Ob.cntB ys x.ho (j + 1)) := Lib.hid (by rw [m1.out, if_pos he, hp.out])
                have k2 : Hid (q + Ar.ab (x.sn - y'.sn) = Ob.sumB ys x (j + 1)) := Lib.hid (by rw [m2.out, if_pos he, hq.out])
                have ab1 := Ar.ab_nonneg (x.sn - y'.sn)
                have ab2 := Ar.ab_le (a := x.sn - y'.sn) (m := 2000) (by omega) (by omega)
                have A := fun W => Lib.hid (l04Abs_any (x.sn - y'.sn) W (by omega) (by omega))
                have n1 : IntKind.i64.wrap (x.sn - y'.sn) = x.sn - y'.sn := IntWalk.i64_in _ (by omega)
                have n2 : IntKind.i64.wrap (y + q + Ar.ab (x.sn - y'.sn)) = y + q + Ar.ab (x.sn - y'.sn) := IntWalk.i64_in _ (by omega)
                clear he m1 m2
                go_wp2_with fail
                go_quiet (fail)
                go_wp2_with fail
                go_quiet ((go_at_call 106; exact quiet_more (A _).out))
                go_wp2
                exact ⟨⟨j + 1, p + 1, q + Ar.ab (x.sn - y'.sn), by omega, by go_num, congrArg (Value.int .i64) (by omega), congrArg (Value.int .i64) (by omega), by omega, by omega, by omega, by omega, k1, k2, Lib.hid (below_drewN hbq.out _)⟩, by simp only [intOf]; omega⟩
              · have hbe : (x.ho == y'.ho) = false := beq_eq_false_iff_ne.2 he
                have k1 : Hid (p = Ob.cntB ys x.ho (j + 1)) := Lib.hid (by rw [m1.out, if_neg he, hp.out, Int.add_zero])
                have k2 : Hid (q = Ob.sumB ys x (j + 1)) := Lib.hid (by rw [m2.out, if_neg he, hq.out, Int.add_zero])
                clear he m1 m2
                go_wp2_with fail
                go_quiet (fail)
                go_wp2_with fail
                exact ⟨⟨j + 1, p, q, by omega, by go_num, rfl, rfl, by omega, by omega, by omega, by omega, k1, k2, Lib.hid (below_drewN hbq.out _)⟩, by simp only [intOf]; omega⟩
            · have hje : j = ys.length := by omega
              have k1 : Hid (z + p = Ob.cntA xs ys (k + 1)) := Lib.hid (by rw [hn1.out, hz.out, hp.out, hje])
              have k2 : Hid (y + q = Ob.sumA xs ys (k + 1)) := Lib.hid (by rw [hn2.out, hy.out, hq.out, hje])
              clear hje
              go_wp2
              exact ⟨⟨k + 1, z + p, y + q, by omega, by go_num, rfl, rfl, by omega, by omega, by omega, by omega, k1, k2, Lib.hid (bt hbw.out hbq.out)⟩, by simp only [intOf]; omega⟩
        · have hkn : k = xs.length := by omega
          have HZ : Hid (z = Ob.cntA xs ys xs.length) := Lib.hid (by rw [hz.out, hkn])
          have HY : Hid (y = Ob.sumA xs ys xs.length) := Lib.hid (by rw [hy.out, hkn])
          clear hkn
          go_wp2
          go_ret3
          exact ⟨ret_iii (by rw [hr.out.1]; exact HZ.out) (by rw [hr.out.2.1]; exact HY.out) hr.out.2.2.symm, hbw.out⟩
set_option maxHeartbeats 3200000 in
theorem implCompareStations_any (w : World) (v : Value) (xs : List Obs) (u : Value) (ys : List Obs) (hv : ObSl w v xs) (hl : xs.length ≤ 1048576) (hu : ObSl w u ys) (hl2 : ys.length ≤ 1048576) :
    Calls Try.prog 57 #[v, u] w fun e w' => e = .returned (.tuple #[.int .i64 (Ob.cmpM xs ys), .int .i64 (Ob.cmpS xs ys), .int .i64 (Ob.cmpC xs ys)]) ∧ Below w.heap.size w w' := by
  have C := Lib.hid (implValidObserved_any w v xs hv hl)
  have D := fun W (hb : Below w.heap.size w W) => Lib.hid (implValidObserved_any W u ys (hu.below hb) hl2)
  obtain ⟨a, cap, rfl⟩ := hv.form
  obtain ⟨a', cap', rfl⟩ := hu.form
  have HV := Lib.hid hv
  have HU := Lib.hid hu
  clear hv hu
  cases hq : Ob.okS xs with
  | false =>
    have hr := Lib.hid (Ob.cmp_bad (b := ys) (Or.inl hq))
    rw [hq] at C
    clear hq
    go_enter Try.func57, Try.ntmps57
    go_wp2_with fail
    refine C.out.mono ?_
    rintro e w1 ⟨rfl, b1⟩
    have B1 := Lib.hid b1
    clear b1
    go_wp2_with fail
    go_ret3
    exact ⟨ret_iii hr.out.1.symm hr.out.2.1.symm hr.out.2.2.symm, B1.out⟩
  | true =>
    cases hq2 : Ob.okS ys with
    | false =>
      have hr := Lib.hid (Ob.cmp_bad (a := xs) (Or.inr hq2))
      rw [hq] at C
      rw [hq2] at D
      clear hq hq2
      go_enter Try.func57, Try.ntmps57
      go_wp2_with fail
      refine C.out.mono ?_
      rintro e w1 ⟨rfl, b1⟩
      have B1 := Lib.hid b1
      clear b1
      go_wp2_with fail
      refine (D w1 B1.out).out.mono ?_
      rintro e w2 ⟨rfl, b2⟩
      have B2 := Lib.hid (bt B1.out b2)
      clear b2
      go_wp2_with fail
      go_ret3
      exact ⟨ret_iii hr.out.1.symm hr.out.2.1.symm hr.out.2.2.symm, B2.out⟩
    | true =>
      have hr := Lib.hid (Ob.cmp_ok hq hq2)
      have h48 := Ob.len_ok hq
      have h48' := Ob.len_ok hq2
      have HF := Lib.hid ((Ob.okS_iff xs).1 hq).2.1
      have HG := Lib.hid ((Ob.okS_iff ys).1 hq2).2.1
      have HUp := Lib.hid ((Ob.okS_iff ys).1 hq2).2.2
      rw [hq] at C
      rw [hq2] at D
      clear hq hq2
      go_enter Try.func57, Try.ntmps57
      go_wp2_with fail
      refine C.out.mono ?_
      rintro e w1 ⟨rfl, b1⟩
      have B1 := Lib.hid b1
      clear b1
      go_wp2_with fail
      refine (D w1 B1.out).out.mono ?_
      rintro e w2 ⟨rfl, b2⟩
      have B2 := Lib.hid (bt B1.out b2)
      clear b2
      go_wp2_with fail
      refine (snowByHour_any Unit w2 _ ys (HU.out.below B2.out) h48' HG.out).mono ?_
      rintro e w3 ⟨rfl, m3, b3⟩
      have B3 := Lib.hid (bt B2.out b3)
      have M3 := Lib.hid m3
      have hws := B2.out.size
      clear b3 m3
      go_wp2_with fail
      generalize w2.heap.size = g at *
      go_loopw [8, 9, 26] (fun m t i wr => ∃ (k : Nat) (z y : Int), k ≤ xs.length ∧ i = .int .i64 k ∧ m = .int .i64 z ∧ t = .int .i64 y ∧ 0 ≤ z ∧ z ≤ 48 * k ∧ 0 ≤ y ∧ y ≤ 96000 * k ∧ Hid (z = Ob.cntA xs ys k) ∧ Hid (y = Ob.sumA xs ys k) ∧ Hid (MapIn Unit wr g ys.length ys) ∧ Hid (Below w.heap.size w wr)) (fun _ _ i _ => xs.length - (intOf i).toNat)
      case atStart => exact ⟨0, 0, 0, Nat.zero_le _, rfl, rfl, rfl, by omega, by omega, by omega, by omega, Lib.hid rfl, Lib.hid rfl, M3, B3⟩
      case round =>
        obtain ⟨k, z, y, hk, rfl, rfl, rfl, z1, z2, y1, y2, hz, hy, hM, hbw⟩ := hrel
        by_cases hlt : k < xs.length
        · have hltz : (k : Int) < (xs.length : Int) := by omega
          obtain ⟨b, off, cap1, hn, hbl, hcc⟩ := (HV.out.below hbw.out).at_ hlt
          simp only [Value.slice.injEq] at hn
          obtain ⟨rfl, -, rfl⟩ := hn
          obtain ⟨c0, c1, c2, c3⟩ := hcc k hlt
          have FX := HF.out _ (List.getElem_mem hlt)
          have hn1 := Lib.hid (show Ob.cntA xs ys (k + 1) = Ob.cntA xs ys k + Ob.cntB ys (Ob.nth xs k).ho ys.length from rfl)
          have hn2 := Lib.hid (show Ob.sumA xs ys (k + 1) = Ob.sumA xs ys k + Ob.sumB ys (Ob.nth xs k) ys.length from rfl)
          rw [Ob.nth_eq hlt] at hn1 hn2
          have s1 := FX.s1
          have s2 := FX.s2
          have hkey : Hid (keyOf Try.prog 2 (.int .i64 xs[k].ho) = some (kH xs[k].ho)) := Lib.hid (keyOf_int_mk Try.underlying2 (by have := FX.h1; have := FX.h2; exact WalkArith.wf_i64 (by omega)))
          have MA := fun o => Lib.hid (World.ownsMap.alloc hM.out o)
          have BA := fun o => Lib.hid (hbw.out.alloc hbw.out.size o)
          clear hcc FX
          generalize xs[k] = x at *
          cases hh : Ob.has ys x.ho with
          | true =>
            obtain ⟨j, hj, he⟩ := Ob.has_ix hh
            have hhit := Lib.hid (Ob.hit HUp.out hj x he ys.length (Nat.le_refl _))
            have hat0 := Lib.hid (at_mapOf Unit HUp.out hj (.lit (.int .i64 0)))
            have FY := HG.out _ (List.getElem_mem hj)
            have s3 := FY.s1
            have s4 := FY.s2
            have HE := Lib.hid he
            have hhas : Hid (Maps.has (mapOf Unit ys) (kH x.ho) = true) := Lib.hid (by rw [has_mapOf, hh])
            have k1 : Hid (z + 1 = Ob.cntA xs ys (k + 1)) := Lib.hid (by rw [hn1.out, hz.out, hhit.out.1, if_pos hj])
            have k2 : Hid (y + Ar.ab (ys[j].sn - x.sn) = Ob.sumA xs ys (k + 1)) := Lib.hid (by
              rw [hn2.out, hy.out, hhit.out.2, if_pos hj]
              congr 1; unfold Ar.ab; split <;> split <;> omega)
            have ab1 := Ar.ab_nonneg (ys[j].sn - x.sn)
            have ab2 := Ar.ab_le (a := ys[j].sn - x.sn) (m := 2000) (by omega) (by omega)
            clear he FY hh hn1 hn2
            go_wp2_with (at_lookup; refine wpList_lookup_own_ok_int _ rfl _ _ 99 rfl 2 2 .i64 law64 Try.underlying99 Try.underlying2 (zero64 _) g ys.length (mapOf Unit ys) rfl (MA _).out _ (kH x.ho) rfl hkey.out ?_; intro c hat hwc; rw [hhas.out]; have HC : Hid (c = ys[j].sn) := Lib.hid (by have h1 := hat0.out; rw [← HE.out, hat] at h1; injection h1 with h1; injection h1); clear hat hwc)
            obtain rfl := HC.out
            clear HC
            go_wp2_with (go_at_call 107; refine (distance_any _ _ _ (by omega) (by omega) (by omega) (by omega)).mono ?_; rintro e w' ⟨rfl, rfl⟩)
            exact ⟨⟨k + 1, z + 1, y + Ar.ab (ys[j].sn - x.sn), by omega, by go_num, rfl, rfl, by omega, by omega, by omega, by omega, k1, k2, MA _, BA _⟩, by simp only [intOf]; omega⟩
          | false =>
            have hno := Lib.hid (Ob.miss_no hh ys.length (Nat.le_refl _))
            have hhas : Hid (Maps.has (mapOf Unit ys) (kH x.ho) = false) := Lib.hid (by rw [has_mapOf, hh])
            have k1 : Hid (z = Ob.cntA xs ys (k + 1)) := Lib.hid (by rw [hn1.out, hz.out, hno.out.1, Int.add_zero])
            have k2 : Hid (y = Ob.sumA xs ys (k + 1)) := Lib.hid (by rw [hn2.out, hy.out, hno.out.2, Int.add_zero])
            clear hh hn1 hn2
            go_wp2_with (at_lookup; refine wpList_lookup_own_ok_int _ rfl _ _ 99 rfl 2 2 .i64 law64 Try.underlying99 Try.underlying2 (zero64 _) g ys.length (mapOf Unit ys) rfl (MA _).out _ (kH x.ho) rfl hkey.out ?_; intro c hat hwc; rw [hhas.out]; clear hat hwc)
            exact ⟨⟨k + 1, z, y, by omega, by go_num, rfl, rfl, by omega, by omega, by omega, by omega, k1, k2, MA _, BA _⟩, by simp only [intOf]; omega⟩
        · have hltz : ¬ (k : Int) < (xs.length : Int) := by omega
          have hkn : k = xs.length := by omega
          have HZ : Hid (z = Ob.cntA xs ys xs.length) := Lib.hid (by rw [hz.out, hkn])
          have HY : Hid (y = Ob.sumA xs ys xs.length) := Lib.hid (by rw [hy.out, hkn])
          clear hkn
          go_wp2
          go_ret3
          exact ⟨ret_iii (by rw [hr.out.1]; exact HZ.out) (by rw [hr.out.2.1]; exact HY.out) hr.out.2.2.symm, hbw.out⟩
end Go.Proofs.Ytdfmgdmekflmeaa
