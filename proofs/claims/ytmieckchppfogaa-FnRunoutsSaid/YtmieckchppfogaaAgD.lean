/-
  The stop, speeds, the beta point, the tangent of a runout, by the model (chapter 14). No condition of its own. (Written by wip/gen/genagd.py.)
-/
import Derived.Test.YtmieckchppfogaaAgC
import Derived.Test.YtmieckchppfogaaRoot
namespace Go.Proofs.Ytmieckchppfogaa
open Go.RowKit Go.Shelf
set_option linter.unusedVariables false
set_option maxRecDepth 100000

namespace An
theorem sR_s {xs : List Pth} {t : Int} (h : st xs t < (la xs).toNat) : sR xs t = (st xs t : Int) + 1 ∧ sV xs t = (st xs t : Int) + 1 ∧ (∀ c, sC xs t c = 0) ∧ (∀ d, sB xs t d = decide ((st xs t : Int) + 1 ≤ d)) := by
  unfold sR sV sC sB; rw [if_pos h, if_pos h]
  exact ⟨rfl, rfl, fun c => if_pos h, fun d => by rw [decide_eq_true h, Bool.true_and]⟩
theorem sR_n {xs : List Pth} {t : Int} (h : ¬ st xs t < (la xs).toNat) : sR xs t = -1 ∧ sV xs t = 0 ∧ (∀ c, sC xs t c = c) ∧ (∀ d, sB xs t d = false) := by
  unfold sR sV sC sB; rw [if_neg h, if_neg h]
  exact ⟨rfl, rfl, fun c => if_neg h, fun d => by rw [decide_eq_false h, Bool.false_and]⟩
/-- how fast a mass is under its line -/
def spd (s : Int) : Int := rt (Ar.dr (1962 * s) 10)
theorem spd_bd {s : Int} (h0 : 0 ≤ s) (h1 : s ≤ 9000000) : 0 ≤ Ar.dr (1962 * s) 10 ∧ Ar.dr (1962 * s) 10 ≤ 17658000001 := by
  have := Ar.drp_bd (a := 1962 * s) (b := 10) (by omega) (by omega)
  have hd : Ar.dr (1962 * s) 10 = Ar.drp (1962 * s) 10 := by unfold Ar.dr; rw [if_neg (by omega)]
  omega
def vS (xs : List Pth) (t d : Int) : Int := if sB xs t d = true then 0 else spd (hi xs t d)
end An
set_option maxHeartbeats 3200000 in
theorem specStopOf_any (w : World) (v : Value) (xs : List Pth) (t : Int) (hv : PpSl w v xs) (hl : xs.length ≤ 1048576) :
    Calls Try.prog 26 #[v, .int .i64 t] w fun e w' => e = .returned (.tuple #[.int .i64 (Cd.vl (An.okB xs) (An.tg t) (An.sV xs t)), .int .i64 (Cd.cd (An.okB xs) (An.tg t) (An.sC xs t 3))]) ∧ Below w.heap.size w w' := by
  obtain ⟨a, cap, rfl⟩ := hv.form
  have CO := Lib.hid (l14Ok_any w _ xs hv hl)
  have HV := Lib.hid hv
  clear hv
  cases h : An.okB xs with
  | false =>
    rw [h] at CO
    rw [Cd.cd_f, Cd.vl_f]
    clear h HV
    go_enter Try.func26, Try.ntmps26
    go_wp2_with fail
    refine CO.out.mono ?_
    rintro e w1 ⟨rfl, b1⟩
    have B1 := Lib.hid b1
    clear b1
    go_wp2_with fail
    go_ret2
    exact ⟨rfl, B1.out⟩
  | true =>
    rw [h] at CO
    have o := An.okB_ok h
    have n2 := o.n2
    have n24 := o.n24
    obtain ⟨b, off, cap1, hn, P0⟩ := HV.out.pts (by omega)
    simp only [Value.slice.injEq] at hn
    obtain ⟨rfl, -, rfl⟩ := hn
    have P := Lib.hid (fun W (hb : Below w.heap.size w W) => PtAt.below P0 hb)
    clear h HV P0
    have CI := Lib.hid (fun W => l14Is_any t W)
    cases ht : An.tg t with
    | false =>
      rw [ht] at CI
      rw [Cd.cd_tf, Cd.vl_tf]
      clear ht P o
      go_enter Try.func26, Try.ntmps26
      go_wp2_with fail
      refine CO.out.mono ?_
      rintro e w1 ⟨rfl, b1⟩
      have B1 := Lib.hid b1
      clear b1
      go_wp2_with fail
      refine (CI.out _).mono ?_
      rintro e w2 ⟨rfl, rfl⟩
      go_wp2_with fail
      go_ret2
      exact ⟨rfl, B1.out⟩
    | true =>
      rw [ht] at CI
      obtain ⟨t1, t2⟩ := An.inB_of ht
      rw [Cd.cd_t, Cd.vl_t]
      have CS := Lib.hid (fun W (hb : Below w.heap.size w W) => l14Stop_any W b off cap xs (P.out W hb) o t t1 t2)
      clear ht P o t1 t2
      by_cases hs : An.st xs t < (An.la xs).toNat
      · obtain ⟨r1, r2, r3, -⟩ := An.sR_s hs
        rw [r1] at CS
        rw [r2, r3]
        have hs0 : ¬ ((An.st xs t : Int) + 1) < 0 := by omega
        clear hs r1 r2 r3
        generalize (An.st xs t : Int) + 1 = s at *
        go_enter Try.func26, Try.ntmps26
        go_wp2_with fail
        refine CO.out.mono ?_
        rintro e w1 ⟨rfl, b1⟩
        have B1 := Lib.hid b1
        clear b1
        go_wp2_with fail
        refine (CI.out _).mono ?_
        rintro e w2 ⟨rfl, rfl⟩
        go_wp2_with fail
        refine (CS.out _ B1.out).mono ?_
        rintro e w3 ⟨rfl, b3⟩
        have B3 := Lib.hid (bt B1.out b3)
        clear b3
        go_wp2_with fail
        go_ret2
        exact ⟨rfl, B3.out⟩
      · obtain ⟨r1, r2, r3, -⟩ := An.sR_n hs
        rw [r1] at CS
        rw [r2, r3]
        clear hs r1 r2 r3
        go_enter Try.func26, Try.ntmps26
        go_wp2_with fail
        refine CO.out.mono ?_
        rintro e w1 ⟨rfl, b1⟩
        have B1 := Lib.hid b1
        clear b1
        go_wp2_with fail
        refine (CI.out _).mono ?_
        rintro e w2 ⟨rfl, rfl⟩
        go_wp2_with fail
        refine (CS.out _ B1.out).mono ?_
        rintro e w3 ⟨rfl, b3⟩
        have B3 := Lib.hid (bt B1.out b3)
        clear b3
        go_wp2_with fail
        go_ret2
        exact ⟨rfl, B3.out⟩
set_option maxHeartbeats 800000 in
theorem l14Speed_any (s : Int) (w : World) (h0 : 0 ≤ s) (h1 : s ≤ 9000000) :
    Calls Try.prog 70 #[.int .i64 s] w fun e w' => e = .returned (.int .i64 (An.spd s)) ∧ w = w' := by
  obtain ⟨d0, d1⟩ := An.spd_bd h0 h1
  have CM := Lib.hid (fun W => mx_any 0 s s W (by omega))
  have CD := Lib.hid (fun W => l01Div_any (1962 * s) 10 W (by omega) (by omega) (by omega) (by omega) (Or.inr (by omega)))
  have CR := Lib.hid (fun W => l01Root_pos (Ar.dr (1962 * s) 10) W d0 (by omega))
  have E : Hid (rt (Ar.dr (1962 * s) 10) = An.spd s) := Lib.hid rfl
  generalize Ar.dr (1962 * s) 10 = q at *
  go_enter Try.func70, Try.ntmps70
  go_wp2_with fail
  refine (CM.out _).mono ?_
  rintro e w1 ⟨rfl, rfl⟩
  go_wp2_with fail
  refine (CD.out _).mono ?_
  rintro e w1 ⟨rfl, rfl⟩
  go_wp2_with fail
  refine (CR.out _).mono ?_
  rintro e w1 ⟨rfl, rfl⟩
  go_wp2_with fail
  go_ret
  exact ⟨ret_int E.out, rfl⟩
set_option maxHeartbeats 3200000 in
theorem specSpeedAt_any (w : World) (v : Value) (xs : List Pth) (t : Int) (d : Int) (hv : PpSl w v xs) (hl : xs.length ≤ 1048576) :
    Calls Try.prog 28 #[v, .int .i64 t, .int .i64 d] w fun e w' => e = .returned (.tuple #[.int .i64 (Cd.vl (An.okB xs) (An.tg t && An.al xs d) (An.vS xs t d)), .int .i64 (Cd.cd (An.okB xs) (An.tg t && An.al xs d) 0)]) ∧ Below w.heap.size w w' := by
  obtain ⟨a, cap, rfl⟩ := hv.form
  have CO := Lib.hid (l14Ok_any w _ xs hv hl)
  have HV := Lib.hid hv
  clear hv
  cases h : An.okB xs with
  | false =>
    rw [h] at CO
    rw [Cd.cd_f, Cd.vl_f]
    clear h HV
    go_enter Try.func28, Try.ntmps28
    go_wp2_with fail
    refine CO.out.mono ?_
    rintro e w1 ⟨rfl, b1⟩
    have B1 := Lib.hid b1
    clear b1
    go_wp2_with fail
    go_ret2
    exact ⟨rfl, B1.out⟩
  | true =>
    rw [h] at CO
    have o := An.okB_ok h
    have n2 := o.n2
    have n24 := o.n24
    obtain ⟨b, off, cap1, hn, P0⟩ := HV.out.pts (by omega)
    simp only [Value.slice.injEq] at hn
    obtain ⟨rfl, -, rfl⟩ := hn
    have P := Lib.hid (fun W (hb : Below w.heap.size w W) => PtAt.below P0 hb)
    clear h HV P0
    have CI := Lib.hid (fun W => l14Is_any t W)
    have CD := Lib.hid (fun W (hb : Below w.heap.size w W) => l14Distance_any W b off cap xs d (P.out W hb) n2 hl)
    cases ht : An.tg t with
    | false =>
      rw [ht] at CI
      rw [Bool.false_and, Cd.cd_tf, Cd.vl_tf]
      clear ht P o CD
      go_enter Try.func28, Try.ntmps28
      go_wp2_with fail
      refine CO.out.mono ?_
      rintro e w1 ⟨rfl, b1⟩
      have B1 := Lib.hid b1
      clear b1
      go_wp2_with fail
      refine (CI.out _).mono ?_
      rintro e w2 ⟨rfl, rfl⟩
      go_wp2_with fail
      go_ret2
      exact ⟨rfl, B1.out⟩
    | true =>
      rw [ht] at CI
      obtain ⟨t1, t2⟩ := An.inB_of ht
      rw [Bool.true_and]
      cases hk : An.al xs d with
      | false =>
        rw [hk] at CD
        rw [Cd.cd_tf, Cd.vl_tf]
        clear hk ht P o t1 t2
        go_enter Try.func28, Try.ntmps28
        go_wp2_with fail
        refine CO.out.mono ?_
        rintro e w1 ⟨rfl, b1⟩
        have B1 := Lib.hid b1
        clear b1
        go_wp2_with fail
        refine (CI.out _).mono ?_
        rintro e w2 ⟨rfl, rfl⟩
        go_wp2_with fail
        refine (CD.out _ B1.out).mono ?_
        rintro e w3 ⟨rfl, b3⟩
        have B3 := Lib.hid (bt B1.out b3)
        clear b3
        go_wp2_with fail
        go_ret2
        exact ⟨rfl, B3.out⟩
      | true =>
        obtain ⟨k1, k2⟩ := An.inB_of hk
        have hla := o.last
        rw [hk] at CD
        rw [Cd.cd_t, Cd.vl_t]
        have CS := Lib.hid (fun W (hb : Below w.heap.size w W) => l14Stop_any W b off cap xs (P.out W hb) o t t1 t2)
        have CL := Lib.hid (fun W (hb : Below w.heap.size w W) => l14Line_any W b off cap xs (P.out W hb) o t d (by omega) t2 k1 (by omega))
        have CG := Lib.hid (fun W (hb : Below w.heap.size w W) => l14Ground_any W b off cap xs (P.out W hb) o d k1 k2)
        have hnn := Lib.hid (fun h => An.hi_nn o (t := t) k1 k2 h)
        have hle := An.hi_le o (t := t) (d := d) (by omega) k1 k2
        have hbd := An.hi_bd o (t := t) (d := d) (by omega) t2 k1 k2
        have EH : Hid (An.en xs t d - An.gr xs d = An.hi xs t d) := Lib.hid rfl
        have EV : Hid (An.vS xs t d = if An.sB xs t d = true then 0 else An.spd (An.hi xs t d)) := Lib.hid rfl
        rw [EV.out]
        have gbd := An.gr_bd o k1 k2
        have ebd := An.en_bd o (t := t) (d := d) (by omega) t2 k1 (by omega)
        have h90 := o.h9 0 (by omega)
        have w1h : IntKind.i64.wrap (An.en xs t d - An.gr xs d) = An.hi xs t d := by rw [EH.out]; exact wrap_in (by omega) (by omega)
        clear hk ht P o t1 t2 k1 k2 hla EV gbd ebd h90
        by_cases hs : An.st xs t < (An.la xs).toNat
        · obtain ⟨r1, -, -, r4⟩ := An.sR_s hs
          rw [r1] at CS
          have hs0 : (0 : Int) ≤ (An.st xs t : Int) + 1 := by omega
          have R4 := Lib.hid (r4 d)
          clear hs r1 r4
          generalize (An.st xs t : Int) + 1 = s at *
          by_cases hsd : s ≤ d
          · have hb : Hid (An.sB xs t d = true) := Lib.hid (by rw [R4.out]; exact decide_eq_true hsd)
            rw [if_pos hb.out]
            have hg0 : decide (0 ≤ s) = true := decide_eq_true hs0
            have hg1 : decide (s ≤ d) = true := decide_eq_true hsd
            clear CL CG hnn hle EH R4 hbd hb w1h
            go_enter Try.func28, Try.ntmps28
            go_wp2_with fail
            refine CO.out.mono ?_
            rintro e w1 ⟨rfl, b1⟩
            have B1 := Lib.hid b1
            clear b1
            go_wp2_with fail
            refine (CI.out _).mono ?_
            rintro e w2 ⟨rfl, rfl⟩
            go_wp2_with fail
            refine (CD.out _ B1.out).mono ?_
            rintro e w3 ⟨rfl, b3⟩
            have B3 := Lib.hid (bt B1.out b3)
            clear b3
            go_wp2_with fail
            refine (CS.out _ B3.out).mono ?_
            rintro e w4 ⟨rfl, b4⟩
            have B4 := Lib.hid (bt B3.out b4)
            clear b4
            go_wp2_with fail
            go_ret2
            exact ⟨rfl, B4.out⟩
          · have hb : Hid (An.sB xs t d = false) := Lib.hid (by rw [R4.out]; exact decide_eq_false hsd)
            rw [if_neg (by rw [hb.out]; decide)]
            have CV := Lib.hid (fun W => l14Speed_any (An.hi xs t d) W (hnn.out hb.out) hle)
            have hg0 : decide (0 ≤ s) = true := decide_eq_true hs0
            have hg1 : decide (s ≤ d) = false := decide_eq_false hsd
            clear hnn hle EH R4 hbd hb
            generalize An.hi xs t d = y at *
            generalize An.en xs t d = ye at *
            generalize An.gr xs d = yg at *
            go_enter Try.func28, Try.ntmps28
            go_wp2_with fail
            refine CO.out.mono ?_
            rintro e w1 ⟨rfl, b1⟩
            have B1 := Lib.hid b1
            clear b1
            go_wp2_with fail
            refine (CI.out _).mono ?_
            rintro e w2 ⟨rfl, rfl⟩
            go_wp2_with fail
            refine (CD.out _ B1.out).mono ?_
            rintro e w3 ⟨rfl, b3⟩
            have B3 := Lib.hid (bt B1.out b3)
            clear b3
            go_wp2_with fail
            refine (CS.out _ B3.out).mono ?_
            rintro e w4 ⟨rfl, b4⟩
            have B4 := Lib.hid (bt B3.out b4)
            clear b4
            go_wp2_with fail
            refine (CL.out _ B4.out).mono ?_
            rintro e w5 ⟨rfl, rfl⟩
            go_wp2_with fail
            refine (CG.out _ B4.out).mono ?_
            rintro e w6 ⟨rfl, b6⟩
            have B6 := Lib.hid (bt B4.out b6)
            clear b6
            go_wp2_with fail
            refine (CV.out _).mono ?_
            rintro e w7 ⟨rfl, rfl⟩
            go_wp2_with fail
            go_ret2
            exact ⟨rfl, B6.out⟩
        · obtain ⟨r1, -, -, r4⟩ := An.sR_n hs
          rw [r1] at CS
          have hb : Hid (An.sB xs t d = false) := Lib.hid (r4 d)
          clear hs r1 r4
          rw [if_neg (by rw [hb.out]; decide)]
          have CV := Lib.hid (fun W => l14Speed_any (An.hi xs t d) W (hnn.out hb.out) hle)
          clear hnn hle EH hbd hb
          generalize An.hi xs t d = y at *
          generalize An.en xs t d = ye at *
          generalize An.gr xs d = yg at *
          go_enter Try.func28, Try.ntmps28
          go_wp2_with fail
          refine CO.out.mono ?_
          rintro e w1 ⟨rfl, b1⟩
          have B1 := Lib.hid b1
          clear b1
          go_wp2_with fail
          refine (CI.out _).mono ?_
          rintro e w2 ⟨rfl, rfl⟩
          go_wp2_with fail
          refine (CD.out _ B1.out).mono ?_
          rintro e w3 ⟨rfl, b3⟩
          have B3 := Lib.hid (bt B1.out b3)
          clear b3
          go_wp2_with fail
          refine (CS.out _ B3.out).mono ?_
          rintro e w4 ⟨rfl, b4⟩
          have B4 := Lib.hid (bt B3.out b4)
          clear b4
          go_wp2_with fail
          refine (CL.out _ B4.out).mono ?_
          rintro e w5 ⟨rfl, rfl⟩
          go_wp2_with fail
          refine (CG.out _ B4.out).mono ?_
          rintro e w6 ⟨rfl, b6⟩
          have B6 := Lib.hid (bt B4.out b6)
          clear b6
          go_wp2_with fail
          refine (CV.out _).mono ?_
          rintro e w7 ⟨rfl, rfl⟩
          go_wp2_with fail
          go_ret2
          exact ⟨rfl, B6.out⟩
namespace An
def bR (xs : List Pth) : Int := if bF xs = true then (bt0 xs : Int) + 1 else -1
theorem bR_at {xs : List Pth} {k : Nat} (hk : k + 2 < xs.length) (h1 : ∀ j, j < k → bP xs j = false) (h2 : bP xs k = true) : bR xs = (k : Int) + 1 := by
  have : bt0 xs = k := fi_eq (by omega) h1 (fun _ => h2)
  unfold bR bF; rw [this, decide_eq_true (by omega)]; rfl
theorem bR_no {xs : List Pth} (h1 : ∀ j, j + 2 < xs.length → bP xs j = false) : bR xs = -1 := by
  have : bt0 xs = xs.length - 2 := fi_all (fun i hi => h1 i (by omega))
  unfold bR bF; rw [this, decide_eq_false (by omega)]; rfl
end An
set_option maxHeartbeats 3200000 in
theorem l14Beta_any (w : World) (b off cap : Nat) (xs : List Pth) (P : PtAt w b off xs) (o : An.Ok xs) :
    Calls Try.prog 76 #[.slice (some ⟨b, off, none⟩) xs.length cap] w fun e w' => e = .returned (.int .i64 (An.bR xs)) ∧ Below w.heap.size w w' := by
  have n24 := o.n24
  have n2 := o.n2
  have HP := Lib.hid (fun W (hb : Below w.heap.size w W) => PtAt.below P hb)
  have HO := Lib.hid o
  clear P o
  go_enter Try.func76, Try.ntmps76
  go_wp2
  go_loopw [3] (fun i wr => ∃ k : Nat, i = .int .i64 ((k + 1 : Nat) : Int) ∧ k + 2 ≤ xs.length ∧ Hid (∀ j, j < k → An.bP xs j = false) ∧ Hid (Below w.heap.size w wr)) (fun i _ => xs.length - (intOf i).toNat)
  case atStart => exact ⟨0, rfl, n2, Lib.hid (fun j h => absurd h (Nat.not_lt_zero _)), Lib.hid (Below.refl _ _)⟩
  case round =>
    obtain ⟨k, rfl, hk, hlow, hb⟩ := hrel
    by_cases hlt : k + 2 < xs.length
    · obtain ⟨c0, c1⟩ := HP.out _ hb.out (k + 1) (by omega)
      obtain ⟨d0, d1⟩ := HP.out _ hb.out (k + 2) hlt
      have hz : ((k : Int) + 1) < (xs.length : Int) := by omega
      have hz2 : ((k : Int) + 1 + 1) < (xs.length : Int) := by omega
      have f1 := HO.out.dl (k + 1) (by omega)
      have f2 := HO.out.dh (k + 1) (by omega)
      have f3 := HO.out.hl (k + 1) (by omega)
      have f4 := HO.out.h9 (k + 1) (by omega)
      have g1 := HO.out.dl (k + 2) (by omega)
      have g2 := HO.out.dh (k + 2) (by omega)
      have g3 := HO.out.hl (k + 2) (by omega)
      have g4 := HO.out.h9 (k + 2) (by omega)
      have EB : Hid (An.bP xs k = decide (1000 * ((An.nd xs (k + 1)).he - (An.nd xs (k + 2)).he) < 176 * ((An.nd xs (k + 2)).di - (An.nd xs (k + 1)).di))) := Lib.hid rfl
      have HY := Lib.hid (fun (h : An.bP xs k = true) => An.bR_at hlt hlow.out h)
      have HN := Lib.hid (fun (h : An.bP xs k = false) => Lib.hid (fun j (hj : j < k + 1) => (by
        rcases Nat.lt_or_ge j k with h1 | h1
        · exact hlow.out j h1
        · have : j = k := by omega
          rw [this]; exact h : An.bP xs j = false)))
      clear hlow
      generalize (An.nd xs (k + 1)).di = x1 at *
      generalize (An.nd xs (k + 1)).he = y1 at *
      generalize (An.nd xs (k + 2)).di = x2 at *
      generalize (An.nd xs (k + 2)).he = y2 at *
      by_cases ht : 1000 * (y1 - y2) < 176 * (x2 - x1)
      · have hR := Lib.hid (HY.out (by rw [EB.out]; exact decide_eq_true ht))
        clear HY HN EB
        go_wp2_with fail
        go_quiet (fail)
        have BQ := Lib.hid (below_drewN hb.out nq)
        go_wp2_with fail
        go_ret
        exact ⟨ret_int (by rw [hR.out]; omega), BQ.out⟩
      · have hN := HN.out (by rw [EB.out]; exact decide_eq_false ht)
        clear HY HN EB
        go_wp2_with fail
        go_quiet (fail)
        have BQ := Lib.hid (below_drewN hb.out nq)
        go_wp2_with fail
        exact ⟨⟨k + 1, by go_num, by omega, hN, BQ⟩, by simp only [intOf]; omega⟩
    · have hR : Hid (An.bR xs = -1) := Lib.hid (An.bR_no (fun j hj => hlow.out j (by omega)))
      have hz2 : ¬ ((k : Int) + 1 + 1) < (xs.length : Int) := by omega
      clear hlow
      go_wp2_with fail
      go_ret
      exact ⟨ret_int hR.out.symm, hb.out⟩
end Go.Proofs.Ytmieckchppfogaa
