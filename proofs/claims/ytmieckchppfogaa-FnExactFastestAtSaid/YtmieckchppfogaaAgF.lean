/-
  The fastest place, the tangent for a stop, by the model (chapter 14). No condition of its own. (Written by wip/gen/genagf.py.)
-/
import Derived.Test.YtmieckchppfogaaAgD
import Derived.OwnWalk
namespace Go.Proofs.Ytmieckchppfogaa
open Go.RowKit Go.Shelf
set_option linter.unusedVariables false
set_option maxRecDepth 100000

set_option maxHeartbeats 3200000 in
theorem specFastestAt_any (w : World) (v : Value) (xs : List Pth) (t : Int) (hv : PpSl w v xs) (hl : xs.length ≤ 1048576) :
    Calls Try.prog 30 #[v, .int .i64 t] w fun e w' => e = .returned (.tuple #[.int .i64 (Cd.vl (An.okB xs) (An.tg t) (An.be xs t (An.st xs t) : Int)), .int .i64 (Cd.vl (An.okB xs) (An.tg t) (An.spd (An.mo xs t (An.st xs t)))), .int .i64 (Cd.cd (An.okB xs) (An.tg t) 0)]) ∧ Below w.heap.size w w' := by
  obtain ⟨a, cap, rfl⟩ := hv.form
  have CO := Lib.hid (l14Ok_any w _ xs hv hl)
  have HV := Lib.hid hv
  clear hv
  cases h : An.okB xs with
  | false =>
    rw [h] at CO
    rw [Cd.cd_f, Cd.vl_f, Cd.vl_f]
    clear h HV
    go_enter Try.func30, Try.ntmps30
    go_wp2_with fail
    refine CO.out.mono ?_
    rintro e w1 ⟨rfl, b1⟩
    have B1 := Lib.hid b1
    clear b1
    go_wp2_with fail
    go_ret3
    exact ⟨rfl, B1.out⟩
  | true =>
    rw [h] at CO
    have o := An.okB_ok h
    have n2 := o.n2
    have n24 := o.n24
    obtain ⟨b, off, cap1, hn, P0⟩ := HV.out.pts (by omega)
    simp only [Value.slice.injEq] at hn
    obtain ⟨rfl, -, rfl⟩ := hn
    have P := Lib.hid (fun W (hb : Below w.heap.size w W) => PtAt.below P0 hb)
    clear h HV P0
    have CI := Lib.hid (fun W => l14Is_any t W)
    cases ht : An.tg t with
    | false =>
      rw [ht] at CI
      rw [Cd.cd_tf, Cd.vl_tf, Cd.vl_tf]
      clear ht P o
      go_enter Try.func30, Try.ntmps30
      go_wp2_with fail
      refine CO.out.mono ?_
      rintro e w1 ⟨rfl, b1⟩
      have B1 := Lib.hid b1
      clear b1
      go_wp2_with fail
      refine (CI.out _).mono ?_
      rintro e w2 ⟨rfl, rfl⟩
      go_wp2_with fail
      go_ret3
      exact ⟨rfl, B1.out⟩
    | true =>
      rw [ht] at CI
      obtain ⟨t1, t2⟩ := An.inB_of ht
      rw [Cd.cd_t, Cd.vl_t, Cd.vl_t]
      have hla0 := o.last
      have HP := P
      have HO := Lib.hid o
      have CB := Lib.hid (fun W (hb : Below w.heap.size w W) k (hk : k + 1 < xs.length) (d : Int) (h1 : 1 ≤ d) (h2 : d ≤ 20000) => l14Between_any W b off cap xs (P.out W hb) o k hk d (by omega) (by omega))
      have CL := Lib.hid (fun W (hb : Below w.heap.size w W) (d : Int) (h3 : 1 ≤ d) (h4 : d ≤ 20000) => l14Line_any W b off cap xs (P.out W hb) o t d (by omega) t2 (by omega) h4)
      have HH := Lib.hid (fun (d : Int) (h1 : 0 ≤ d) (h2 : d ≤ An.la xs) => An.hi_le o (t := t) (by omega) h1 h2)
      have HB := Lib.hid (fun (d : Int) (h1 : 0 ≤ d) (h2 : d ≤ An.la xs) => An.hi_bd o (t := t) (by omega) t2 h1 h2)
      have CV := Lib.hid (fun W => l14Speed_any (An.mo xs t (An.st xs t)) W (An.mo_nn _ _ _) (by
        rcases An.be_spec xs t (An.st xs t) with h | ⟨b1, b2, b3, b4, b5⟩
        · omega
        · rw [← b4]; have := An.st_le xs t; exact An.hi_le o (by omega) (by omega) (by omega)))
      have hla := Lib.hid hla0
      have m1 : IntKind.i64.wrap ((xs.length : Int) - 1) = (xs.length : Int) - 1 := wrap_in (by omega) (by omega)
      have m2 : (0 : Int) ≤ (xs.length : Int) - 1 := by omega
      have m3 : ((xs.length : Int) - 1).toNat = xs.length - 1 := by omega
      have TAIL := Lib.hid (fun W => (CV.out W))
      clear ht P o t1 t2 hla0 CV
      go_enter Try.func30, Try.ntmps30
      go_wp2_with fail
      refine CO.out.mono ?_
      rintro e w1 ⟨rfl, b1⟩
      have B1 := Lib.hid b1
      clear b1
      go_wp2_with fail
      refine (CI.out _).mono ?_
      rintro e w2 ⟨rfl, rfl⟩
      go_wp2_with fail
      go_loopw [7, 8, 9, 10] (fun be mo i d wr => ∃ k n : Nat, be = .int .i64 (An.be xs t n : Int) ∧ mo = .int .i64 (An.mo xs t n) ∧ i = .int .i64 ((k + 1 : Nat) : Int) ∧ d = .int .i64 ((n + 1 : Nat) : Int) ∧ k + 1 < xs.length ∧ n ≤ 20000 ∧ Hid (n ≤ An.st xs t) ∧ Hid (∀ j, j < k → (An.nd xs (j + 1)).di < ((n + 1 : Nat) : Int)) ∧ Hid (Below w.heap.size w wr)) (fun _ _ _ d _ => 20001 - (intOf d).toNat)
      case atStart => exact ⟨0, 0, rfl, rfl, rfl, rfl, by omega, by omega, Lib.hid (Nat.zero_le _), Lib.hid (fun j h => absurd h (Nat.not_lt_zero _)), B1⟩
      case round =>
        obtain ⟨k, n, rfl, rfl, rfl, rfl, hk, hn, hnl, hlow, hb⟩ := hrel
        have c0 : wr.cell? ⟨b, off + (xs.length - 1) * 2, none⟩ = some (.int .i64 (An.la xs)) := (HP.out wr hb.out (xs.length - 1) (by omega)).1
        have hsl := Lib.hid (An.st_le xs t)
        by_cases hd : ((n + 1 : Nat) : Int) ≤ An.la xs
        · have hn2 : Hid (n < (An.la xs).toNat ∧ n + 1 ≤ 20000 ∧ ((n + 1 : Nat) : Int) ≤ An.la xs) := Lib.hid (by have := hla.out; omega)
          have HH1 := Lib.hid (HB.out ((n + 1 : Nat) : Int) (by omega) hd)
          obtain ⟨L, hL⟩ : ∃ L, L = An.la xs := ⟨_, rfl⟩
          have HLL := Lib.hid hL
          rw [← hL] at c0 hd
          clear hL
          go_wp2_with fail
          clear hd c0
          go_loopw [9] (fun i wi => wi = wr ∧ ∃ k : Nat, i = .int .i64 ((k + 1 : Nat) : Int) ∧ k + 1 < xs.length ∧ Hid (∀ j, j < k → (An.nd xs (j + 1)).di < ((n + 1 : Nat) : Int))) (fun i _ => xs.length - (intOf i).toNat)
          case atStart => exact ⟨rfl, k, rfl, hk, hlow⟩
          case round =>
            obtain ⟨rfl, k, rfl, hk, hlow⟩ := hrel
            obtain ⟨c0, -⟩ := HP.out _ hb.out (k + 1) hk
            have hz : ((k : Int) + 1) < (xs.length : Int) := by omega
            have HGE := Lib.hid (fun (h : ¬ (An.nd xs (k + 1)).di < ((n + 1 : Nat) : Int)) => An.gi_eq (d := ((n + 1 : Nat) : Int)) hk hlow.out (by omega))
            have HLW := Lib.hid (fun (h : (An.nd xs (k + 1)).di < ((n + 1 : Nat) : Int)) => Lib.hid (fun j (hj : j < k + 1) => (by
              rcases Nat.lt_or_ge j k with h1 | h1
              · exact hlow.out j h1
              · have : j = k := by omega
                rw [this]; exact h : (An.nd xs (j + 1)).di < ((n + 1 : Nat) : Int))))
            have HIN := Lib.hid (fun (h : (An.nd xs (k + 1)).di < ((n + 1 : Nat) : Int)) => (by
              rcases Nat.lt_or_ge (k + 2) xs.length with h1 | h1
              · exact h1
              · have := hn2.out.2.2; unfold An.la at this
                rw [show xs.length - 1 = k + 1 by omega] at this; omega : k + 2 < xs.length))
            by_cases ht : (An.nd xs (k + 1)).di < ((n + 1 : Nat) : Int)
            · have hk2 := HIN.out ht
              have hl2 := HLW.out ht
              clear HIN HLW HGE hlow
              generalize (An.nd xs (k + 1)).di = x1 at *
              go_wp2_with fail
              exact ⟨⟨by first | rfl | trivial, k + 1, by go_num, hk2, hl2⟩, by simp only [intOf]; omega⟩
            · have hg := HGE.out ht
              have C1 := Lib.hid (CB.out _ hb.out k hk ((n + 1 : Nat) : Int) (by omega) (by have := hn2.out; omega))
              have C2 := Lib.hid (CL.out _ hb.out ((n + 1 : Nat) : Int) (by omega) (by have := hn2.out; omega))
              have EG : Hid (Ar.line (An.nd xs k).di (1000 * (An.nd xs k).he) (An.nd xs (k + 1)).di (1000 * (An.nd xs (k + 1)).he) ((n + 1 : Nat) : Int) = An.gr xs ((n + 1 : Nat) : Int)) := Lib.hid (by unfold An.gr; rw [hg])
              rw [EG.out] at C1
              have HI : Hid (An.hi xs t ((n : Int) + 1) = An.hi xs t ((n + 1 : Nat) : Int)) := Lib.hid rfl
              have w1h : IntKind.i64.wrap (An.en xs t ((n + 1 : Nat) : Int) - An.gr xs ((n + 1 : Nat) : Int)) = An.hi xs t ((n + 1 : Nat) : Int) := by
                have := HH1.out
                show IntKind.i64.wrap (An.hi xs t ((n + 1 : Nat) : Int)) = _
                exact wrap_in (by omega) (by omega)
              have HST0 := Lib.hid (fun (h : An.hi xs t ((n + 1 : Nat) : Int) ≤ 0) => (by
                have a := hnl.out
                rcases Nat.lt_or_ge n (An.st xs t) with h1 | h1
                · have := An.st_no (xs := xs) (t := t) (d := ((n + 1 : Nat) : Int)) (by omega) (by omega); omega
                · omega : n = An.st xs t))
              have HST1 := Lib.hid (fun (h : ¬ An.hi xs t ((n + 1 : Nat) : Int) ≤ 0) => Lib.hid (by
                have a := hnl.out
                rcases Nat.lt_or_ge n (An.st xs t) with h1 | h1
                · omega
                · have e : n = An.st xs t := by omega
                  have y := An.st_yes (xs := xs) (t := t) (by rw [← e]; exact hn2.out.1)
                  rw [← e] at y
                  exact absurd y h : n + 1 ≤ An.st xs t))
              have EM : Hid (An.mo xs t (n + 1) = if An.mo xs t n < An.hi xs t ((n + 1 : Nat) : Int) then An.hi xs t ((n + 1 : Nat) : Int) else An.mo xs t n) := Lib.hid (An.mo_s xs t n)
              have EE : Hid (An.be xs t (n + 1) = if An.mo xs t n < An.hi xs t ((n + 1 : Nat) : Int) then n + 1 else An.be xs t n) := Lib.hid (An.be_s xs t n)
              have HLK := hlow
              clear HIN HLW HGE hlow EG hg HI HH1
              generalize An.hi xs t ((n + 1 : Nat) : Int) = y at *
              generalize An.gr xs ((n + 1 : Nat) : Int) = yg at *
              generalize An.en xs t ((n + 1 : Nat) : Int) = ye at *
              generalize (An.nd xs (k + 1)).di = x1 at *
              by_cases hge : y ≤ 0
              · have hst := HST0.out hge
                have EBE : Hid (An.be xs t n = An.be xs t (An.st xs t)) := Lib.hid (by rw [← hst])
                have EMO : Hid (An.mo xs t n = An.mo xs t (An.st xs t)) := Lib.hid (by rw [← hst])
                rw [← EMO.out] at TAIL
                clear HST0 HST1 EM EE hst
                go_wp2_with fail
                refine C2.out.mono ?_
                rintro e w3 ⟨rfl, rfl⟩
                go_wp2_with fail
                refine C1.out.mono ?_
                rintro e w4 ⟨rfl, b3⟩
                have B3 := Lib.hid (bt hb.out b3)
                clear b3 c0
                go_wp2_with fail
                refine (TAIL.out _).mono ?_
                rintro e w5 ⟨rfl, rfl⟩
                go_wp2_with fail
                go_ret3
                exact ⟨by rw [EBE.out, EMO.out]; rfl, B3.out⟩
              · have hst := HST1.out hge
                clear HST0 HST1
                by_cases hm : An.mo xs t n < y
                · have E1 : Hid (An.mo xs t (n + 1) = y) := Lib.hid (by rw [EM.out, if_pos hm])
                  have E2 : Hid (An.be xs t (n + 1) = n + 1) := Lib.hid (by rw [EE.out, if_pos hm])
                  clear EM EE
                  generalize An.mo xs t n = mm at *
                  generalize An.be xs t n = bb at *
                  go_wp2_with fail
                  refine C2.out.mono ?_
                  rintro e w3 ⟨rfl, rfl⟩
                  go_wp2_with fail
                  refine C1.out.mono ?_
                  rintro e w4 ⟨rfl, b3⟩
                  have B3 := Lib.hid (bt hb.out b3)
                  clear b3 c0
                  go_wp2_with fail
                  exact ⟨⟨k, n + 1, by rw [E2.out]; go_num, by rw [E1.out], rfl, by go_num, hk, hn2.out.2.1, hst, Lib.hid (fun j hj => by have := HLK.out j hj; omega), B3⟩, by have := hn2.out.2; simp only [intOf]; omega⟩
                · have E1 : Hid (An.mo xs t (n + 1) = An.mo xs t n) := Lib.hid (by rw [EM.out, if_neg hm])
                  have E2 : Hid (An.be xs t (n + 1) = An.be xs t n) := Lib.hid (by rw [EE.out, if_neg hm])
                  clear EM EE
                  generalize An.mo xs t n = mm at *
                  generalize An.be xs t n = bb at *
                  go_wp2_with fail
                  refine C2.out.mono ?_
                  rintro e w3 ⟨rfl, rfl⟩
                  go_wp2_with fail
                  refine C1.out.mono ?_
                  rintro e w4 ⟨rfl, b3⟩
                  have B3 := Lib.hid (bt hb.out b3)
                  clear b3 c0
                  go_wp2_with fail
                  exact ⟨⟨k, n + 1, by rw [E2.out], by rw [E1.out], rfl, by go_num, hk, hn2.out.2.1, hst, Lib.hid (fun j hj => by have := HLK.out j hj; omega), B3⟩, by have := hn2.out.2; simp only [intOf]; omega⟩
        · have hst : n = An.st xs t := by have := hnl.out; have := hsl.out; omega
          have EBE : Hid (An.be xs t n = An.be xs t (An.st xs t)) := Lib.hid (by rw [← hst])
          have EMO : Hid (An.mo xs t n = An.mo xs t (An.st xs t)) := Lib.hid (by rw [← hst])
          rw [← EMO.out] at TAIL
          clear hst
          generalize An.la xs = L at *
          go_wp2_with fail
          refine (TAIL.out _).mono ?_
          rintro e w5 ⟨rfl, rfl⟩
          go_wp2_with fail
          go_ret3
          exact ⟨by rw [EBE.out, EMO.out]; rfl, hb.out⟩
set_option maxHeartbeats 3200000 in
theorem specTangentFor_any (w : World) (v : Value) (xs : List Pth) (d : Int) (hv : PpSl w v xs) (hl : xs.length ≤ 1048576) :
    Calls Try.prog 32 #[v, .int .i64 d] w fun e w' => e = .returned (.tuple #[.int .i64 (Cd.vl (An.okB xs) (An.al xs d) (An.tV xs d)), .int .i64 (Cd.cd (An.okB xs) (An.al xs d) (An.tC xs d 3))]) ∧ Below w.heap.size w w' := by
  obtain ⟨a, cap, rfl⟩ := hv.form
  have CO := Lib.hid (l14Ok_any w _ xs hv hl)
  have HV := Lib.hid hv
  clear hv
  cases h : An.okB xs with
  | false =>
    rw [h] at CO
    rw [Cd.cd_f, Cd.vl_f]
    clear h HV
    go_enter Try.func32, Try.ntmps32
    go_wp2_with fail
    refine CO.out.mono ?_
    rintro e w1 ⟨rfl, b1⟩
    have B1 := Lib.hid b1
    clear b1
    go_wp2_with fail
    go_ret2
    exact ⟨rfl, B1.out⟩
  | true =>
    rw [h] at CO
    have o := An.okB_ok h
    have n2 := o.n2
    have n24 := o.n24
    obtain ⟨b, off, cap1, hn, P0⟩ := HV.out.pts (by omega)
    simp only [Value.slice.injEq] at hn
    obtain ⟨rfl, -, rfl⟩ := hn
    have P := Lib.hid (fun W (hb : Below w.heap.size w W) => PtAt.below P0 hb)
    clear h HV P0
    have CD := Lib.hid (fun W (hb : Below w.heap.size w W) => l14Distance_any W b off cap xs d (P.out W hb) n2 hl)
    cases hk : An.al xs d with
    | false =>
      rw [hk] at CD
      rw [Cd.cd_tf, Cd.vl_tf]
      clear hk P o
      go_enter Try.func32, Try.ntmps32
      go_wp2_with fail
      refine CO.out.mono ?_
      rintro e w1 ⟨rfl, b1⟩
      have B1 := Lib.hid b1
      clear b1
      go_wp2_with fail
      refine (CD.out _ B1.out).mono ?_
      rintro e w2 ⟨rfl, b2⟩
      have B2 := Lib.hid (bt B1.out b2)
      clear b2
      go_wp2_with fail
      go_ret2
      exact ⟨rfl, B2.out⟩
    | true =>
      have CS := Lib.hid (fun W (hb : Below w.heap.size w W) (t : Int) (h1 : 1 ≤ t) (h2 : t ≤ 3000) => l14Stop_any W b off cap xs (P.out W hb) o t h1 h2)
      rw [hk] at CD
      rw [Cd.cd_t, Cd.vl_t]
      have HE := Lib.hid (fun k (hk : k ≤ 3000) (h1 : ∀ i : Nat, i < k → An.sB xs ((i : Int) + 1) d = false) (h2 : k < 3000 → An.sB xs ((k : Int) + 1) d = true) => An.tf_eq hk h1 h2)
      have EV : Hid (An.tV xs d = if An.tf xs d < 3000 then (An.tf xs d : Int) + 1 else 0) := Lib.hid rfl
      have EC : Hid (An.tC xs d 3 = if An.tf xs d < 3000 then 0 else 3) := Lib.hid rfl
      clear hk P o
      go_enter Try.func32, Try.ntmps32
      go_wp2_with fail
      refine CO.out.mono ?_
      rintro e w1 ⟨rfl, b1⟩
      have B1 := Lib.hid b1
      clear b1
      go_wp2_with fail
      refine (CD.out _ B1.out).mono ?_
      rintro e w2 ⟨rfl, b2⟩
      have B2 := Lib.hid (bt B1.out b2)
      clear b2
      go_wp2_with fail
      go_loopw [6, 7] (fun l h wr => ∃ i j : Nat, l = .int .i64 (i : Int) ∧ h = .int .i64 (j : Int) ∧ i < j ∧ j ≤ 3001 ∧ Hid (∀ a : Int, 1 ≤ a → a ≤ i → An.sB xs a d = false) ∧ Hid (∀ a : Int, (j : Int) ≤ a → a ≤ 3000 → An.sB xs a d = true) ∧ Hid (Below w.heap.size w wr)) (fun l h _ => (intOf h - intOf l).toNat)
      case atStart => exact ⟨0, 3001, rfl, rfl, by omega, by omega, Lib.hid (fun a h1 h2 => by omega), Lib.hid (fun a h1 h2 => by omega), B2⟩
      case round =>
        obtain ⟨i, j, rfl, rfl, hij, hj, hlo, hhi, hb⟩ := hrel
        by_cases hlt : (1 : Int) < (j : Int) - (i : Int)
        · have hmid : i < (i + j) / 2 ∧ (i + j) / 2 < j := by omega
          have E : Hid (((i : Int) + (j : Int)) / 2 = (((i + j) / 2 : Nat) : Int)) := Lib.hid (by omega)
          go_wp2_with fail
          rw [E.out]
          clear E
          generalize (i + j) / 2 = m at *
          obtain ⟨m1, m2⟩ := hmid
          have C1 := Lib.hid (CS.out _ hb.out (m : Int) (by omega) (by omega))
          have HN := Lib.hid (fun (h : An.sB xs (m : Int) d = false) => Lib.hid (fun (a : Int) (h1 : 1 ≤ a) (h2 : a ≤ m) => (by
            rcases Bool.eq_false_or_eq_true (An.sB xs a d) with hs | hs
            · have := An.sB_steep h2 hs; rw [h] at this; cases this
            · exact hs : An.sB xs a d = false)))
          have HY := Lib.hid (fun (h : An.sB xs (m : Int) d = true) => Lib.hid (fun (a : Int) (h1 : (m : Int) ≤ a) (h2 : a ≤ 3000) => An.sB_steep h1 h))
          by_cases hs : An.st xs m < (An.la xs).toNat
          · obtain ⟨r1, -, -, r4⟩ := An.sR_s hs
            rw [r1] at C1
            have R4 := Lib.hid (r4 d)
            have hs0 : decide ((0 : Int) ≤ (An.st xs m : Int) + 1) = true := decide_eq_true (by omega)
            clear hs r1 r4
            generalize (An.st xs m : Int) + 1 = s at *
            refine C1.out.mono ?_
            rintro e w3 ⟨rfl, b3⟩
            have B3 := Lib.hid (bt hb.out b3)
            clear b3
            by_cases hsd : s ≤ d
            · have hsd2 : decide (s ≤ d) = true := decide_eq_true hsd
              have Y := HY.out (by rw [R4.out]; exact hsd2)
              clear HY HN R4
              go_wp2_with fail
              exact ⟨⟨i, m, rfl, rfl, m1, by omega, hlo, Y, B3⟩, by simp only [intOf]; omega⟩
            · have hsd2 : decide (s ≤ d) = false := decide_eq_false hsd
              have Y := HN.out (by rw [R4.out]; exact hsd2)
              clear HY HN R4
              go_wp2_with fail
              exact ⟨⟨m, j, rfl, rfl, m2, hj, Y, hhi, B3⟩, by simp only [intOf]; omega⟩
          · obtain ⟨r1, -, -, r4⟩ := An.sR_n hs
            rw [r1] at C1
            have Y := HN.out (r4 d)
            clear hs r1 r4 HY HN
            refine C1.out.mono ?_
            rintro e w3 ⟨rfl, b3⟩
            have B3 := Lib.hid (bt hb.out b3)
            clear b3
            go_wp2_with fail
            exact ⟨⟨m, j, rfl, rfl, m2, hj, Y, hhi, B3⟩, by simp only [intOf]; omega⟩
        · have he : Hid (j = i + 1) := Lib.hid (by omega)
          have TF : Hid (An.tf xs d = i) := Lib.hid (HE.out i (by omega) (fun a ha => hlo.out _ (by omega) (by omega)) (fun h => hhi.out _ (by have := he.out; omega) (by omega)))
          rw [TF.out] at EV EC
          have hj0 : (j : Int) ≤ 3001 := by omega
          have hi0 : (i : Int) ≤ 3000 := by omega
          have hsub : (j : Int) - (i : Int) = 1 := by have := he.out; omega
          have hlt2 : decide ((1 : Int) < 1) = false := rfl
          clear hlt
          by_cases h3 : i < 3000
          · have hz : ¬ (3000 : Int) < (j : Int) := by have := he.out; omega
            have EV2 : Hid (An.tV xs d = (j : Int)) := Lib.hid (by rw [EV.out, if_pos h3]; have := he.out; omega)
            have EC2 : Hid (An.tC xs d 3 = 0) := Lib.hid (by rw [EC.out, if_pos h3])
            clear EV EC TF hlo hhi h3 HE
            go_wp2_with fail
            go_ret2
            exact ⟨ret_ii EV2.out.symm EC2.out.symm, hb.out⟩
          · have hz : (3000 : Int) < (j : Int) := by have := he.out; omega
            have EV2 : Hid (An.tV xs d = 0) := Lib.hid (by rw [EV.out, if_neg h3])
            have EC2 : Hid (An.tC xs d 3 = 3) := Lib.hid (by rw [EC.out, if_neg h3])
            clear EV EC TF hlo hhi h3 HE
            go_wp2_with fail
            go_ret2
            exact ⟨ret_ii EV2.out.symm EC2.out.symm, hb.out⟩
end Go.Proofs.Ytmieckchppfogaa
