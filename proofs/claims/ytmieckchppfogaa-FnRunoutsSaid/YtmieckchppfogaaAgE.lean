/-
  The fastest place, the tangent for a stop, the beta point and runouts, by the model (chapter 14). No condition of its own. (Written by wip/gen/genage.py.)
-/
import Derived.Test.YtmieckchppfogaaAgD
namespace Go.Proofs.Ytmieckchppfogaa
open Go.RowKit Go.Shelf
set_option linter.unusedVariables false
set_option maxRecDepth 100000

set_option maxHeartbeats 3200000 in
theorem specBetaPoint_any (w : World) (v : Value) (xs : List Pth)  (hv : PpSl w v xs) (hl : xs.length ≤ 1048576) :
    Calls Try.prog 34 #[v] w fun e w' => e = .returned (.tuple #[.int .i64 (Cd.vl (An.okB xs) true (An.bV xs)), .int .i64 (Cd.cd (An.okB xs) true (An.bC xs 3))]) ∧ Below w.heap.size w w' := by
  obtain ⟨a, cap, rfl⟩ := hv.form
  have CO := Lib.hid (l14Ok_any w _ xs hv hl)
  have HV := Lib.hid hv
  clear hv
  cases h : An.okB xs with
  | false =>
    rw [h] at CO
    rw [Cd.cd_f, Cd.vl_f]
    clear h HV
    go_enter Try.func34, Try.ntmps34
    go_wp2_with fail
    refine CO.out.mono ?_
    rintro e w1 ⟨rfl, b1⟩
    have B1 := Lib.hid b1
    clear b1
    go_wp2_with fail
    go_ret2
    exact ⟨rfl, B1.out⟩
  | true =>
    rw [h] at CO
    have o := An.okB_ok h
    have n2 := o.n2
    have n24 := o.n24
    obtain ⟨b, off, cap1, hn, P0⟩ := HV.out.pts (by omega)
    simp only [Value.slice.injEq] at hn
    obtain ⟨rfl, -, rfl⟩ := hn
    have P := Lib.hid (fun W (hb : Below w.heap.size w W) => PtAt.below P0 hb)
    clear h HV P0
    have CB := Lib.hid (fun W (hb : Below w.heap.size w W) => l14Beta_any W b off cap xs (P.out W hb) o)
    rw [Cd.cd_t, Cd.vl_t]
    clear P o
    have EV : Hid (An.bV xs = if An.bF xs = true then (An.bt0 xs : Int) + 1 else 0) := Lib.hid rfl
    have EC : Hid (An.bC xs 3 = if An.bF xs = true then 0 else 3) := Lib.hid rfl
    have ER : Hid (An.bR xs = if An.bF xs = true then (An.bt0 xs : Int) + 1 else -1) := Lib.hid rfl
    rw [EV.out, EC.out]
    rw [ER.out] at CB
    clear EV EC ER
    cases hf : An.bF xs with
    | false =>
      rw [hf] at CB
      simp only [Bool.false_eq_true, if_false] at CB ⊢
      clear hf
      go_enter Try.func34, Try.ntmps34
      go_wp2_with fail
      refine CO.out.mono ?_
      rintro e w1 ⟨rfl, b1⟩
      have B1 := Lib.hid b1
      clear b1
      go_wp2_with fail
      refine (CB.out _ B1.out).mono ?_
      rintro e w2 ⟨rfl, b2⟩
      have B2 := Lib.hid (bt B1.out b2)
      clear b2
      go_wp2_with fail
      go_ret2
      exact ⟨rfl, B2.out⟩
    | true =>
      rw [hf] at CB
      simp only [if_true] at CB ⊢
      have hs0 : ¬ ((An.bt0 xs : Int) + 1) < 0 := by omega
      clear hf
      generalize (An.bt0 xs : Int) + 1 = s at *
      go_enter Try.func34, Try.ntmps34
      go_wp2_with fail
      refine CO.out.mono ?_
      rintro e w1 ⟨rfl, b1⟩
      have B1 := Lib.hid b1
      clear b1
      go_wp2_with fail
      refine (CB.out _ B1.out).mono ?_
      rintro e w2 ⟨rfl, b2⟩
      have B2 := Lib.hid (bt B1.out b2)
      clear b2
      go_wp2_with fail
      go_ret2
      exact ⟨rfl, B2.out⟩
set_option maxHeartbeats 3200000 in
theorem specl14Alpha_any (w : World) (v : Value) (xs : List Pth) (a : Int) (b0 : Int) (hv : PpSl w v xs) (hl : xs.length ≤ 1048576) :
    Calls Try.prog 77 #[v, .int .i64 a, .int .i64 b0] w fun e w' => e = .returned (.tuple #[.int .i64 (Cd.vl (An.okB xs) (An.ab a b0) (An.lV xs a b0)), .int .i64 (Cd.cd (An.okB xs) (An.ab a b0) (An.lC xs a b0 3 6))]) ∧ Below w.heap.size w w' := by
  obtain ⟨aa, cap, rfl⟩ := hv.form
  have CO := Lib.hid (l14Ok_any w _ xs hv hl)
  have HV := Lib.hid hv
  clear hv
  cases h : An.okB xs with
  | false =>
    rw [h] at CO
    rw [Cd.cd_f, Cd.vl_f]
    clear h HV
    go_enter Try.func77, Try.ntmps77
    go_wp2_with fail
    refine CO.out.mono ?_
    rintro e w1 ⟨rfl, b1⟩
    have B1 := Lib.hid b1
    clear b1
    go_wp2_with fail
    go_ret2
    exact ⟨rfl, B1.out⟩
  | true =>
    rw [h] at CO
    have o := An.okB_ok h
    have n2 := o.n2
    have n24 := o.n24
    obtain ⟨b, off, cap1, hn, P0⟩ := HV.out.pts (by omega)
    simp only [Value.slice.injEq] at hn
    obtain ⟨rfl, -, rfl⟩ := hn
    have P := Lib.hid (fun W (hb : Below w.heap.size w W) => PtAt.below P0 hb)
    clear h HV P0
    have CA := Lib.hid (fun W => l00In_any a 1 2000 W)
    have CI := Lib.hid (fun W => l00In_any b0 0 1000 W)
    have EA : Hid (An.ab a b0 = (Ar.inB 1 a 2000 && Ar.inB 0 b0 1000)) := Lib.hid rfl
    rw [EA.out]
    clear EA
    cases ha : Ar.inB 1 a 2000 with
    | false =>
      rw [ha] at CA
      rw [Bool.false_and, Cd.cd_tf, Cd.vl_tf]
      clear ha P o
      go_enter Try.func77, Try.ntmps77
      go_wp2_with fail
      refine CO.out.mono ?_
      rintro e w1 ⟨rfl, b1⟩
      have B1 := Lib.hid b1
      clear b1
      go_wp2_with fail
      refine (CA.out _).mono ?_
      rintro e w2 ⟨rfl, rfl⟩
      go_wp2_with fail
      go_ret2
      exact ⟨rfl, B1.out⟩
    | true =>
      rw [ha] at CA
      obtain ⟨a1, a2⟩ := An.inB_of ha
      rw [Bool.true_and]
      cases hb : Ar.inB 0 b0 1000 with
      | false =>
        rw [hb] at CI
        rw [Cd.cd_tf, Cd.vl_tf]
        clear ha hb P o
        go_enter Try.func77, Try.ntmps77
        go_wp2_with fail
        refine CO.out.mono ?_
        rintro e w1 ⟨rfl, b1⟩
        have B1 := Lib.hid b1
        clear b1
        go_wp2_with fail
        refine (CA.out _).mono ?_
        rintro e w2 ⟨rfl, rfl⟩
        go_wp2_with fail
        refine (CI.out _).mono ?_
        rintro e w2 ⟨rfl, rfl⟩
        go_wp2_with fail
        go_ret2
        exact ⟨rfl, B1.out⟩
      | true =>
        rw [hb] at CI
        obtain ⟨b1, b2⟩ := An.inB_of hb
        rw [Cd.cd_t, Cd.vl_t]
        have CB := Lib.hid (fun W (hb : Below w.heap.size w W) => l14Beta_any W b off cap xs (P.out W hb) o)
        have EV : Hid (An.lV xs a b0 = if An.bF xs = true then (if An.tg (An.aV xs a b0) = true then An.aV xs a b0 else 0) else 0) := Lib.hid rfl
        have EC : Hid (An.lC xs a b0 3 6 = if An.bF xs = true then (if An.tg (An.aV xs a b0) = true then 0 else 6) else 3) := Lib.hid rfl
        have ER : Hid (An.bR xs = if An.bF xs = true then (An.bt0 xs : Int) + 1 else -1) := Lib.hid rfl
        rw [EV.out, EC.out]
        rw [ER.out] at CB
        clear EV EC ER ha hb
        cases hf : An.bF xs with
        | false =>
          rw [hf] at CB
          simp only [Bool.false_eq_true, if_false] at CB ⊢
          clear hf P o a1 a2 b1 b2
          go_enter Try.func77, Try.ntmps77
          go_wp2_with fail
          refine CO.out.mono ?_
          rintro e w1 ⟨rfl, b1⟩
          have B1 := Lib.hid b1
          clear b1
          go_wp2_with fail
          refine (CA.out _).mono ?_
          rintro e w2 ⟨rfl, rfl⟩
          go_wp2_with fail
          refine (CI.out _).mono ?_
          rintro e w2 ⟨rfl, rfl⟩
          go_wp2_with fail
          refine (CB.out _ B1.out).mono ?_
          rintro e w4 ⟨rfl, b4⟩
          have B4 := Lib.hid (bt B1.out b4)
          clear b4
          go_wp2_with fail
          go_ret2
          exact ⟨rfl, B4.out⟩
        | true =>
          obtain ⟨x1, x2, x3, x4, x5, x6⟩ := An.aV_bd o hf a1 a2 b1 b2
          have hba := An.bt_at hf
          have CT := Lib.hid (fun W (hb : Below w.heap.size w W) => l14Tangent_any W b off cap xs (P.out W hb) o (An.bt0 xs + 1) (by omega) (by omega))
          have CD := Lib.hid (fun W => l01Div_any (a * An.tn xs (An.bt0 xs + 1)) 1000 W (by omega) (by omega) (by omega) (by omega) (Or.inr (by omega)))
          have CG := Lib.hid (fun W => l14Is_any (An.aV xs a b0) W)
          have EA : Hid (Ar.dr (a * An.tn xs (An.bt0 xs + 1)) 1000 - b0 = An.aV xs a b0) := Lib.hid rfl
          have hm : wrap64 (a * An.tn xs (An.bt0 xs + 1)) = a * An.tn xs (An.bt0 xs + 1) := IntWalk.wrap64_in _ ⟨by omega, by omega⟩
          have hw : IntKind.i64.wrap (Ar.dr (a * An.tn xs (An.bt0 xs + 1)) 1000 - b0) = An.aV xs a b0 := by rw [EA.out]; exact wrap_in (by omega) (by omega)
          rw [hf] at CB
          simp only [if_true] at CB ⊢
          have hs0 : ¬ ((An.bt0 xs : Int) + 1) < 0 := by omega
          rw [Int.natCast_add, show ((1 : Nat) : Int) = 1 from rfl] at CT
          clear hf P o a1 a2 b1 b2 hba EA x5 x6
          generalize Ar.dr (a * An.tn xs (An.bt0 xs + 1)) 1000 = q at *
          generalize An.tn xs (An.bt0 xs + 1) = tn at *
          generalize (An.bt0 xs : Int) + 1 = s at *
          cases ht : An.tg (An.aV xs a b0) with
          | false =>
            rw [ht] at CG
            simp only [Bool.false_eq_true, if_false]
            clear ht
            generalize An.aV xs a b0 = v at *
            go_enter Try.func77, Try.ntmps77
            go_wp2_with fail
            refine CO.out.mono ?_
            rintro e w1 ⟨rfl, b1⟩
            have B1 := Lib.hid b1
            clear b1
            go_wp2_with fail
            refine (CA.out _).mono ?_
            rintro e w2 ⟨rfl, rfl⟩
            go_wp2_with fail
            refine (CI.out _).mono ?_
            rintro e w2 ⟨rfl, rfl⟩
            go_wp2_with fail
            refine (CB.out _ B1.out).mono ?_
            rintro e w4 ⟨rfl, b4⟩
            have B4 := Lib.hid (bt B1.out b4)
            clear b4
            go_wp2_with fail
            refine (CT.out _ B4.out).mono ?_
            rintro e w5 ⟨rfl, b5⟩
            have B5 := Lib.hid (bt B4.out b5)
            clear b5
            go_wp2_with fail
            refine (CD.out _).mono ?_
            rintro e w6 ⟨rfl, rfl⟩
            go_wp2_with fail
            refine (CG.out _).mono ?_
            rintro e w7 ⟨rfl, rfl⟩
            go_wp2_with fail
            go_ret2
            exact ⟨rfl, B5.out⟩
          | true =>
            rw [ht] at CG
            simp only [if_true]
            clear ht
            generalize An.aV xs a b0 = v at *
            go_enter Try.func77, Try.ntmps77
            go_wp2_with fail
            refine CO.out.mono ?_
            rintro e w1 ⟨rfl, b1⟩
            have B1 := Lib.hid b1
            clear b1
            go_wp2_with fail
            refine (CA.out _).mono ?_
            rintro e w2 ⟨rfl, rfl⟩
            go_wp2_with fail
            refine (CI.out _).mono ?_
            rintro e w2 ⟨rfl, rfl⟩
            go_wp2_with fail
            refine (CB.out _ B1.out).mono ?_
            rintro e w4 ⟨rfl, b4⟩
            have B4 := Lib.hid (bt B1.out b4)
            clear b4
            go_wp2_with fail
            refine (CT.out _ B4.out).mono ?_
            rintro e w5 ⟨rfl, b5⟩
            have B5 := Lib.hid (bt B4.out b5)
            clear b5
            go_wp2_with fail
            refine (CD.out _).mono ?_
            rintro e w6 ⟨rfl, rfl⟩
            go_wp2_with fail
            refine (CG.out _).mono ?_
            rintro e w7 ⟨rfl, rfl⟩
            go_wp2_with fail
            go_ret2
            exact ⟨rfl, B5.out⟩
set_option maxHeartbeats 800000 in
theorem specAlphaOf_any (w : World) (v : Value) (xs : List Pth) (a b0 : Int) (hv : PpSl w v xs) (hl : xs.length ≤ 1048576) :
    Calls Try.prog 36 #[v, .int .i64 a, .int .i64 b0] w fun e w' => e = .returned (.tuple #[.int .i64 (Cd.vl (An.okB xs) (An.ab a b0) (An.lV xs a b0)), .int .i64 (Cd.cd (An.okB xs) (An.ab a b0) (An.lC xs a b0 3 6))]) ∧ Below w.heap.size w w' := by
  have C := Lib.hid (specl14Alpha_any w v xs a b0 hv hl)
  clear hv hl
  generalize Cd.vl (An.okB xs) (An.ab a b0) (An.lV xs a b0) = q at *
  generalize Cd.cd (An.okB xs) (An.ab a b0) (An.lC xs a b0 3 6) = c at *
  go_enter Try.func36, Try.ntmps36
  go_wp2_with fail
  refine C.out.mono ?_
  rintro e w1 ⟨rfl, b1⟩
  have B1 := Lib.hid b1
  clear b1
  go_wp2_with fail
  go_ret2
  exact ⟨rfl, B1.out⟩
namespace An
/-- RunoutOf behind its tests -/
def rV (xs : List Pth) (a b : Int) : Int := if bF xs = true then (if tg (aV xs a b) = true then sV xs (aV xs a b) else 0) else 0
def rC (xs : List Pth) (a b : Int) : Int := if bF xs = true then (if tg (aV xs a b) = true then sC xs (aV xs a b) 3 else 6) else 3
/-- a question that is answered by alpha: either it is refused with this code, or alpha is a tangent -/
theorem alpha_ways (xs : List Pth) (a b : Int) : (∃ c : Int, c ≠ 0 ∧ Cd.cd (okB xs) (ab a b) (lC xs a b 3 6) = c ∧ Cd.vl (okB xs) (ab a b) (lV xs a b) = 0 ∧ Cd.cd (okB xs) (ab a b) (rC xs a b) = c ∧ Cd.vl (okB xs) (ab a b) (rV xs a b) = 0) ∨
    (okB xs = true ∧ tg (aV xs a b) = true ∧ Cd.cd (okB xs) (ab a b) (lC xs a b 3 6) = 0 ∧ Cd.vl (okB xs) (ab a b) (lV xs a b) = aV xs a b ∧ Cd.cd (okB xs) (ab a b) (rC xs a b) = sC xs (aV xs a b) 3 ∧ Cd.vl (okB xs) (ab a b) (rV xs a b) = sV xs (aV xs a b)) := by
  unfold lC lV rC rV
  cases okB xs with
  | false => left; exact ⟨1, by decide, rfl, rfl, rfl, rfl⟩
  | true =>
    cases ab a b with
    | false => left; exact ⟨2, by decide, rfl, rfl, rfl, rfl⟩
    | true =>
      cases bF xs with
      | false => left; exact ⟨3, by decide, rfl, rfl, rfl, rfl⟩
      | true =>
        cases tg (aV xs a b) with
        | false => left; exact ⟨6, by decide, rfl, rfl, rfl, rfl⟩
        | true => right; exact ⟨rfl, rfl, rfl, rfl, rfl, rfl⟩
end An
set_option maxHeartbeats 800000 in
theorem specRunoutOf_any (w : World) (v : Value) (xs : List Pth) (a b0 : Int) (hv : PpSl w v xs) (hl : xs.length ≤ 1048576) :
    Calls Try.prog 38 #[v, .int .i64 a, .int .i64 b0] w fun e w' => e = .returned (.tuple #[.int .i64 (Cd.vl (An.okB xs) (An.ab a b0) (An.rV xs a b0)), .int .i64 (Cd.cd (An.okB xs) (An.ab a b0) (An.rC xs a b0))]) ∧ Below w.heap.size w w' := by
  have C := Lib.hid (specl14Alpha_any w v xs a b0 hv hl)
  have CS := Lib.hid (fun t W (hb : Below w.heap.size w W) => specStopOf_any W v xs t (hv.below hb) hl)
  obtain ⟨a0, cap, rfl⟩ := hv.form
  clear hv
  rcases An.alpha_ways xs a b0 with ⟨c, h0, h1, h2, h3, h4⟩ | ⟨ho, ht, h1, h2, h3, h4⟩
  · rw [h3, h4]
    rw [h1, h2] at C
    have hz : (c == 0) = false := beq_eq_false_iff_ne.2 h0
    have hz2 : (c != 0) = true := by simp [h0]
    clear h1 h2 h3 h4 CS h0
    go_enter Try.func38, Try.ntmps38
    go_wp2_with fail
    refine C.out.mono ?_
    rintro e w1 ⟨rfl, b1⟩
    have B1 := Lib.hid b1
    clear b1
    go_wp2_with fail
    go_ret2
    exact ⟨rfl, B1.out⟩
  · rw [h3, h4]
    rw [h1, h2] at C
    have CS := Lib.hid (CS.out (An.aV xs a b0))
    rw [ho, ht] at CS
    simp only [Cd.cd_t, Cd.vl_t] at CS
    clear h1 h2 h3 h4 ho ht
    generalize An.sV xs (An.aV xs a b0) = q at *
    generalize An.sC xs (An.aV xs a b0) 3 = cc at *
    generalize An.aV xs a b0 = t at *
    go_enter Try.func38, Try.ntmps38
    go_wp2_with fail
    refine C.out.mono ?_
    rintro e w1 ⟨rfl, b1⟩
    have B1 := Lib.hid b1
    clear b1
    go_wp2_with fail
    refine (CS.out _ B1.out).mono ?_
    rintro e w2 ⟨rfl, b2⟩
    have B2 := Lib.hid (bt B1.out b2)
    clear b2
    go_wp2_with fail
    go_ret2
    exact ⟨rfl, B2.out⟩
end Go.Proofs.Ytmieckchppfogaa
