/-
  The beta point and runouts, by the program (chapter 14). No condition of its own. (Written by wip/gen/genagq.py.)
-/
import Derived.Test.YtmieckchppfogaaAgL
import Derived.Test.YtmieckchppfogaaAgE
import Derived.Deep.QuietTactic
import Derived.BigQuiet
namespace Go.Proofs.Ytmieckchppfogaa
open Go.RowKit Go.Shelf
set_option linter.unusedVariables false
set_option maxRecDepth 100000

set_option maxHeartbeats 3200000 in
theorem implBetaPoint_any (w : World) (v : Value) (xs : List Pth) (ho : PpAt w v xs) (hl : xs.length ≤ 1048576) :
    Calls Try.prog 35 #[v] w fun e w' => e = .returned (.tuple #[.int .i64 (Cd.vl (An.okB xs) true (An.bV xs)), .int .i64 (Cd.cd (An.okB xs) true (An.bC xs 3))]) ∧ Below w.heap.size w w' := by
  have CV := Lib.hid (implValidPath_any w v xs ho.sl hl)
  have HOW := Lib.hid ho
  obtain ⟨B0, b0, cap0, rfl, -⟩ := ho
  cases h : An.okB xs with
  | false =>
    rw [h] at CV
    rw [Cd.cd_f, Cd.vl_f]
    clear h HOW
    go_enter Try.func35, Try.ntmps35
    go_wp2_with fail
    refine CV.out.mono ?_
    rintro e w1 ⟨rfl, b1⟩
    have B1 := Lib.hid b1
    clear b1
    go_wp2_with fail
    go_ret2
    exact ⟨rfl, B1.out⟩
  | true =>
    rw [h] at CV
    rw [Cd.cd_t, Cd.vl_t]
    have o := An.okB_ok h
    have n2 := o.n2
    have n24 := o.n24
    obtain ⟨b, cap, hn, hcap, P0⟩ := HOW.out.pts (by omega)
    simp only [Value.slice.injEq, Option.some.injEq, Addr.mk.injEq] at hn
    obtain ⟨⟨rfl, -, -⟩, -, rfl⟩ := hn
    have HP := Lib.hid (fun W (hb : Below w.heap.size w W) => PtAt.below P0 hb)
    have HO := Lib.hid o
    have EV : Hid (An.bV xs = if An.bF xs = true then (An.bt0 xs : Int) + 1 else 0) := Lib.hid rfl
    have EC : Hid (An.bC xs 3 = if An.bF xs = true then 0 else 3) := Lib.hid rfl
    have HY := Lib.hid (fun k (hk : k + 2 < xs.length) (h1 : ∀ j, j < k → An.bP xs j = false) (h2 : An.bP xs k = true) => (by
      have e : An.bt0 xs = k := An.fi_eq (by omega) h1 (fun _ => h2)
      have f : An.bF xs = true := by unfold An.bF; rw [e]; exact decide_eq_true (by omega)
      rw [EV.out, EC.out, f, e]
      exact ⟨rfl, rfl⟩ : An.bV xs = (k : Int) + 1 ∧ An.bC xs 3 = 0))
    have HN := Lib.hid (fun (h1 : ∀ j, j + 2 < xs.length → An.bP xs j = false) => (by
      have e : An.bt0 xs = xs.length - 2 := An.fi_all (fun i hi => h1 i (by omega))
      have f : An.bF xs = false := by unfold An.bF; rw [e]; exact decide_eq_false (by omega)
      rw [EV.out, EC.out, f]
      exact ⟨rfl, rfl⟩ : An.bV xs = 0 ∧ An.bC xs 3 = 3))
    have m1 : IntKind.i64.wrap ((xs.length : Int) - 1) = (xs.length : Int) - 1 := wrap_in (by omega) (by omega)
    have m2 : (1 : Int) ≤ (xs.length : Int) - 1 := by omega
    have m3 : ((xs.length : Int) - 1).toNat = xs.length - 1 := by omega
    have m4 : (xs.length : Int) - 1 ≤ (cap0 : Int) := by omega
    have m5 : xs.length - 1 - 1 = xs.length - 2 := by omega
    clear h HOW P0 o EV EC
    go_enter Try.func35, Try.ntmps35
    go_wp2_with fail
    refine CV.out.mono ?_
    rintro e w1 ⟨rfl, b1⟩
    have B1 := Lib.hid b1
    clear b1 CV
    go_wp2_with fail
    go_loopw [16] (fun i wr => ∃ k : Nat, k ≤ xs.length - 2 ∧ i = .int .i64 (k : Int) ∧ Hid (∀ j, j < k → An.bP xs j = false) ∧ Hid (Below w.heap.size w wr)) (fun i _ => xs.length - (intOf i).toNat)
    case atStart => exact ⟨0, Nat.zero_le _, rfl, Lib.hid (fun j h => absurd h (Nat.not_lt_zero _)), B1⟩
    case round =>
      obtain ⟨k, hk, rfl, hlow, hb⟩ := hrel
      by_cases hlt : k < xs.length - 2
      · have hltz : (k : Int) < ((xs.length - 2 : Nat) : Int) := by omega
        obtain ⟨c0, c1⟩ := HP.out _ hb.out (k + 1) (by omega)
        obtain ⟨d0, d1⟩ := HP.out _ hb.out (k + 2) (by omega)
        have hbl : b0 < wr.heap.size := World.block_lt_of_cell? wr _ c0
        rw [show 0 + (k + 1) * 2 = 2 + k * 2 by omega] at c0 c1
        rw [Nat.zero_add] at d0 d1
        have hz2 : ((k : Int) + 2) < (xs.length : Int) := by omega
        have hw2 : IntKind.i64.wrap ((k : Int) + 2) = (k : Int) + 2 := wrap_in (by omega) (by omega)
        have hn2 : ((k : Int) + 2).toNat = k + 2 := by omega
        have f1 := HO.out.dl (k + 1) (by omega)
        have f2 := HO.out.dh (k + 1) (by omega)
        have f3 := HO.out.hl (k + 1) (by omega)
        have f4 := HO.out.h9 (k + 1) (by omega)
        have g1 := HO.out.dl (k + 2) (by omega)
        have g2 := HO.out.dh (k + 2) (by omega)
        have g3 := HO.out.hl (k + 2) (by omega)
        have g4 := HO.out.h9 (k + 2) (by omega)
        have EB : Hid (An.bP xs k = decide (1000 * ((An.nd xs (k + 1)).he - (An.nd xs (k + 2)).he) < 176 * ((An.nd xs (k + 2)).di - (An.nd xs (k + 1)).di))) := Lib.hid rfl
        have YY := Lib.hid (fun (h : An.bP xs k = true) => HY.out k (by omega) hlow.out h)
        have NN := Lib.hid (fun (h : An.bP xs k = false) => Lib.hid (fun j (hj : j < k + 1) => (by
          rcases Nat.lt_or_ge j k with h1 | h1
          · exact hlow.out j h1
          · have : j = k := by omega
            rw [this]; exact h : An.bP xs j = false)))
        have BX := Lib.hid (fun (x y : Obj) => (hb.out.alloc hb.out.size x).alloc (by have := hb.out.size; simp; omega) y)
        clear hlow m1 m2 m3 m4 m5
        generalize (An.nd xs (k + 1)).di = x1 at *
        generalize (An.nd xs (k + 1)).he = y1 at *
        generalize (An.nd xs (k + 2)).di = x2 at *
        generalize (An.nd xs (k + 2)).he = y2 at *
        by_cases ht : 1000 * (y1 - y2) < 176 * (x2 - x1)
        · have V := Lib.hid (YY.out (by rw [EB.out]; exact decide_eq_true ht))
          clear YY NN EB
          go_wp2_with fail
          go_ret2
          exact ⟨ret_ii V.out.1.symm V.out.2.symm, BX.out _ _⟩
        · have hN := NN.out (by rw [EB.out]; exact decide_eq_false ht)
          have htd : decide (1000 * (y1 - y2) < 176 * (x2 - x1)) = false := decide_eq_false ht
          clear YY NN EB ht
          go_wp2_with fail
          exact ⟨⟨k + 1, by omega, by go_num, hN, Lib.hid (BX.out _ _)⟩, by simp only [intOf]; omega⟩
      · have hltz : ¬ (k : Int) < ((xs.length - 2 : Nat) : Int) := by omega
        have V := Lib.hid (HN.out (fun j hj => hlow.out j (by omega)))
        clear hlow
        go_wp2_with fail
        go_ret2
        exact ⟨ret_ii V.out.1.symm V.out.2.symm, hb.out⟩
set_option maxHeartbeats 3200000 in
theorem implAlphaOf_any (w : World) (v : Value) (xs : List Pth) (a : Int) (b0 : Int) (ho : PpAt w v xs) (hl : xs.length ≤ 1048576) :
    Calls Try.prog 37 #[v, .int .i64 a, .int .i64 b0] w fun e w' => e = .returned (.tuple #[.int .i64 (Cd.vl (An.okB xs) (An.ab a b0) (An.lV xs a b0)), .int .i64 (Cd.cd (An.okB xs) (An.ab a b0) (An.lC xs a b0 3 6))]) ∧ Below w.heap.size w w' := by
  have hv := ho.sl
  have HOW := Lib.hid ho
  obtain ⟨aa, cap, rfl⟩ := hv.form
  clear ho
  have CP := Lib.hid (fun q W (hb : Below w.heap.size w W) => pathCode_any W _ xs q (hv.below hb) hl)
  have HV := Lib.hid hv
  have BR := Lib.hid (Below.refl w.heap.size w)
  have CA := Lib.hid (fun W => within_any a 1 2000 W)
  have CI := Lib.hid (fun W => within_any b0 0 1000 W)
  have EA : Hid (An.ab a b0 = (Ar.inB 1 a 2000 && Ar.inB 0 b0 1000)) := Lib.hid rfl
  rw [EA.out]
  clear EA hv
  cases ha : Ar.inB 1 a 2000 with
  | false =>
    rw [ha] at CA
    rw [Bool.false_and]
    have CP := Lib.hid (CP.out false)
    clear CI HV HOW
    cases h : An.okB xs with
    | false =>
      rw [h] at CP
      rw [Cd.cd_f] at CP
      rw [Cd.cd_f, Cd.vl_f]
      clear h ha
      go_enter Try.func37, Try.ntmps37
      go_wp2_with fail
      refine (CA.out _).mono ?_
      rintro e w9 ⟨rfl, rfl⟩
      go_wp2_with fail
      refine (CP.out _ BR.out).mono ?_
      rintro e w1 ⟨rfl, b1⟩
      have B1 := Lib.hid (b1)
      clear b1
      go_wp2_with fail
      go_ret2
      exact ⟨rfl, B1.out⟩
    | true =>
      rw [h] at CP
      rw [Cd.cd_tf] at CP
      rw [Cd.cd_tf, Cd.vl_tf]
      clear h ha
      go_enter Try.func37, Try.ntmps37
      go_wp2_with fail
      refine (CA.out _).mono ?_
      rintro e w9 ⟨rfl, rfl⟩
      go_wp2_with fail
      refine (CP.out _ BR.out).mono ?_
      rintro e w1 ⟨rfl, b1⟩
      have B1 := Lib.hid (b1)
      clear b1
      go_wp2_with fail
      go_ret2
      exact ⟨rfl, B1.out⟩
  | true =>
    rw [ha] at CA
    rw [Bool.true_and]
    cases h : An.okB xs with
    | false =>
      rw [h] at CP
      rw [Cd.cd_f, Cd.vl_f]
      simp only [Cd.cd_f] at CP
      clear h HV ha HOW
      generalize Ar.inB 0 b0 1000 = q at *
      go_enter Try.func37, Try.ntmps37
      go_wp2_with fail
      refine (CA.out _).mono ?_
      rintro e w9 ⟨rfl, rfl⟩
      go_wp2_with fail
      refine (CI.out _).mono ?_
      rintro e w9 ⟨rfl, rfl⟩
      go_wp2_with fail
      refine (CP.out _ _ BR.out).mono ?_
      rintro e w1 ⟨rfl, b1⟩
      have B1 := Lib.hid (b1)
      clear b1
      go_wp2_with fail
      go_ret2
      exact ⟨rfl, B1.out⟩
    | true =>
      have CBP := Lib.hid (fun W (hb : Below w.heap.size w W) => implBetaPoint_any W _ xs (HOW.out.below hb) hl)
      have CTA := Lib.hid (fun k W (hb : Below w.heap.size w W) => implTangentOf_any W _ xs k (HV.out.below hb) hl)
      rw [h] at CBP CTA
      simp only [Cd.cd_t, Cd.vl_t] at CBP
      have o := An.okB_ok h
      have n2 := o.n2
      have n24 := o.n24
      obtain ⟨b, cap1, hn, hcap, P0⟩ := HOW.out.pts (by omega)
      simp only [Value.slice.injEq] at hn
      obtain ⟨rfl, -, rfl⟩ := hn
      have P := Lib.hid (fun W (hb : Below w.heap.size w W) => PtAt.below P0 hb)
      rw [h] at CP
      cases hb : Ar.inB 0 b0 1000 with
      | false =>
        rw [hb] at CI
        rw [Cd.cd_tf, Cd.vl_tf]
        have CP := Lib.hid (CP.out false)
        rw [Cd.cd_tf] at CP
        clear h HV P o P0 ha hb HOW CBP CTA
        go_enter Try.func37, Try.ntmps37
        go_wp2_with fail
        refine (CA.out _).mono ?_
        rintro e w9 ⟨rfl, rfl⟩
        go_wp2_with fail
        refine (CI.out _).mono ?_
        rintro e w9 ⟨rfl, rfl⟩
        go_wp2_with fail
        refine (CP.out _ BR.out).mono ?_
        rintro e w1 ⟨rfl, b1⟩
        have B1 := Lib.hid (b1)
        clear b1
        go_wp2_with fail
        go_ret2
        exact ⟨rfl, B1.out⟩
      | true =>
        obtain ⟨a1, a2⟩ := An.inB_of ha
        obtain ⟨b1, b2⟩ := An.inB_of hb
        rw [hb] at CI
        rw [Cd.cd_t, Cd.vl_t]
        have CP := Lib.hid (CP.out true)
        rw [Cd.cd_t] at CP
        have EV : Hid (An.lV xs a b0 = if An.bF xs = true then (if An.tg (An.aV xs a b0) = true then An.aV xs a b0 else 0) else 0) := Lib.hid rfl
        have EC : Hid (An.lC xs a b0 3 6 = if An.bF xs = true then (if An.tg (An.aV xs a b0) = true then 0 else 6) else 3) := Lib.hid rfl
        have ER : Hid (An.bV xs = if An.bF xs = true then (An.bt0 xs : Int) + 1 else 0) := Lib.hid rfl
        have EQ : Hid (An.bC xs 3 = if An.bF xs = true then 0 else 3) := Lib.hid rfl
        rw [EV.out, EC.out]
        rw [ER.out, EQ.out] at CBP
        clear EV EC ER EQ
        cases hf : An.bF xs with
        | false =>
          rw [hf] at CBP
          simp only [Bool.false_eq_true, if_false] at CBP ⊢
          clear h HV P o P0 ha hb HOW CTA hf a1 a2 b1 b2
          go_enter Try.func37, Try.ntmps37
          go_wp2_with fail
          refine (CA.out _).mono ?_
          rintro e w9 ⟨rfl, rfl⟩
          go_wp2_with fail
          refine (CI.out _).mono ?_
          rintro e w9 ⟨rfl, rfl⟩
          go_wp2_with fail
          refine (CP.out _ BR.out).mono ?_
          rintro e w1 ⟨rfl, b1⟩
          have B1 := Lib.hid (b1)
          clear b1
          go_wp2_with fail
          refine (CBP.out _ B1.out).mono ?_
          rintro e w2 ⟨rfl, b2⟩
          have B2 := Lib.hid (bt B1.out b2)
          clear b2
          go_wp2_with fail
          go_ret2
          exact ⟨rfl, B2.out⟩
        | true =>
          obtain ⟨x1, x2, x3, x4, x5, x6⟩ := An.aV_bd o hf a1 a2 b1 b2
          have hba := An.bt_at hf
          have hkP : An.kP xs ((An.bt0 xs : Int) + 1) = true := Ar.inB_t (by omega) (by omega)
          have CTA := Lib.hid (CTA.out ((An.bt0 xs : Int) + 1))
          rw [hkP] at CTA
          simp only [Cd.cd_t, Cd.vl_t] at CTA
          have hnat : ((An.bt0 xs : Int) + 1).toNat = An.bt0 xs + 1 := by omega
          rw [hnat] at CTA
          have CD := Lib.hid (fun W => divP_any (a * An.tn xs (An.bt0 xs + 1)) 1000 W (by omega) (by omega) (by omega) (by omega))
          have CG := Lib.hid (fun W => isTangent_any (An.aV xs a b0) W)
          have EA : Hid (Ar.dr (a * An.tn xs (An.bt0 xs + 1)) 1000 - b0 = An.aV xs a b0) := Lib.hid rfl
          have hm : wrap64 (a * An.tn xs (An.bt0 xs + 1)) = a * An.tn xs (An.bt0 xs + 1) := IntWalk.wrap64_in _ ⟨by omega, by omega⟩
          have hw : IntKind.i64.wrap (Ar.dr (a * An.tn xs (An.bt0 xs + 1)) 1000 - b0) = An.aV xs a b0 := by rw [EA.out]; exact wrap_in (by omega) (by omega)
          rw [hf] at CBP
          simp only [if_true] at CBP ⊢
          clear h HV P o P0 ha hb HOW hf a1 a2 b1 b2 hba EA x5 x6 hkP hnat
          generalize Ar.dr (a * An.tn xs (An.bt0 xs + 1)) 1000 = q at *
          generalize An.tn xs (An.bt0 xs + 1) = tn at *
          generalize (An.bt0 xs : Int) + 1 = s at *
          cases ht : An.tg (An.aV xs a b0) with
          | false =>
            rw [ht] at CG
            simp only [Bool.false_eq_true, if_false]
            clear ht
            generalize An.aV xs a b0 = vv at *
            go_enter Try.func37, Try.ntmps37
            go_wp2_with fail
            refine (CA.out _).mono ?_
            rintro e w9 ⟨rfl, rfl⟩
            go_wp2_with fail
            refine (CI.out _).mono ?_
            rintro e w9 ⟨rfl, rfl⟩
            go_wp2_with fail
            refine (CP.out _ BR.out).mono ?_
            rintro e w1 ⟨rfl, b1⟩
            have B1 := Lib.hid (b1)
            clear b1
            go_wp2_with fail
            refine (CBP.out _ B1.out).mono ?_
            rintro e w2 ⟨rfl, b2⟩
            have B2 := Lib.hid (bt B1.out b2)
            clear b2
            go_wp2_with fail
            refine (CTA.out _ B2.out).mono ?_
            rintro e w3 ⟨rfl, b3⟩
            have B3 := Lib.hid (bt B2.out b3)
            clear b3
            go_wp2_with fail
            refine (CD.out _).mono ?_
            rintro e w9 ⟨rfl, rfl⟩
            go_wp2_with fail
            refine (CG.out _).mono ?_
            rintro e w9 ⟨rfl, rfl⟩
            go_wp2_with fail
            go_ret2
            exact ⟨rfl, B3.out⟩
          | true =>
            rw [ht] at CG
            simp only [if_true]
            clear ht
            generalize An.aV xs a b0 = vv at *
            go_enter Try.func37, Try.ntmps37
            go_wp2_with fail
            refine (CA.out _).mono ?_
            rintro e w9 ⟨rfl, rfl⟩
            go_wp2_with fail
            refine (CI.out _).mono ?_
            rintro e w9 ⟨rfl, rfl⟩
            go_wp2_with fail
            refine (CP.out _ BR.out).mono ?_
            rintro e w1 ⟨rfl, b1⟩
            have B1 := Lib.hid (b1)
            clear b1
            go_wp2_with fail
            refine (CBP.out _ B1.out).mono ?_
            rintro e w2 ⟨rfl, b2⟩
            have B2 := Lib.hid (bt B1.out b2)
            clear b2
            go_wp2_with fail
            refine (CTA.out _ B2.out).mono ?_
            rintro e w3 ⟨rfl, b3⟩
            have B3 := Lib.hid (bt B2.out b3)
            clear b3
            go_wp2_with fail
            refine (CD.out _).mono ?_
            rintro e w9 ⟨rfl, rfl⟩
            go_wp2_with fail
            refine (CG.out _).mono ?_
            rintro e w9 ⟨rfl, rfl⟩
            go_wp2_with fail
            go_ret2
            exact ⟨rfl, B3.out⟩
set_option maxHeartbeats 800000 in
theorem implRunoutOf_any (w : World) (v : Value) (xs : List Pth) (a b0 : Int) (ho : PpAt w v xs) (hl : xs.length ≤ 1048576) :
    Calls Try.prog 39 #[v, .int .i64 a, .int .i64 b0] w fun e w' => e = .returned (.tuple #[.int .i64 (Cd.vl (An.okB xs) (An.ab a b0) (An.rV xs a b0)), .int .i64 (Cd.cd (An.okB xs) (An.ab a b0) (An.rC xs a b0))]) ∧ Below w.heap.size w w' := by
  have C := Lib.hid (implAlphaOf_any w v xs a b0 ho hl)
  have CS := Lib.hid (fun t W (hb : Below w.heap.size w W) => implStopOf_any W v xs t (ho.below hb) hl)
  obtain ⟨B0, bb, cap, rfl, -⟩ := ho
  rcases An.alpha_ways xs a b0 with ⟨c, h0, h1, h2, h3, h4⟩ | ⟨ho, ht, h1, h2, h3, h4⟩
  · rw [h3, h4]
    rw [h1, h2] at C
    have hz : (c == 0) = false := beq_eq_false_iff_ne.2 h0
    have hz2 : (c != 0) = true := by simp [h0]
    clear h1 h2 h3 h4 CS h0
    go_enter Try.func39, Try.ntmps39
    go_wp2_with fail
    refine C.out.mono ?_
    rintro e w1 ⟨rfl, b1⟩
    have B1 := Lib.hid b1
    clear b1
    go_wp2_with fail
    go_ret2
    exact ⟨rfl, B1.out⟩
  · rw [h3, h4]
    rw [h1, h2] at C
    have CS := Lib.hid (CS.out (An.aV xs a b0))
    rw [ho, ht] at CS
    simp only [Cd.cd_t, Cd.vl_t] at CS
    clear h1 h2 h3 h4 ho ht
    generalize An.sV xs (An.aV xs a b0) = q at *
    generalize An.sC xs (An.aV xs a b0) 3 = cc at *
    generalize An.aV xs a b0 = t at *
    go_enter Try.func39, Try.ntmps39
    go_wp2_with fail
    refine C.out.mono ?_
    rintro e w1 ⟨rfl, b1⟩
    have B1 := Lib.hid b1
    clear b1
    go_wp2_with fail
    refine (CS.out _ B1.out).mono ?_
    rintro e w2 ⟨rfl, b2⟩
    have B2 := Lib.hid (bt B1.out b2)
    clear b2
    go_wp2_with fail
    go_ret2
    exact ⟨rfl, B2.out⟩
end Go.Proofs.Ytmieckchppfogaa
