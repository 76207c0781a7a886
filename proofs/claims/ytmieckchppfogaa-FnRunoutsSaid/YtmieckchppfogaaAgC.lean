/-
  Tangents, the ground, the line, the stop, by the model (chapter 14). No condition of its own. (Written by wip/gen/genagc.py.)
-/
import Derived.Test.YtmieckchppfogaaAgB
namespace Go.Proofs.Ytmieckchppfogaa
open Go.RowKit Go.Shelf
set_option linter.unusedVariables false
set_option maxRecDepth 100000

set_option maxHeartbeats 3200000 in
theorem specTangentOf_any (w : World) (v : Value) (xs : List Pth) (k : Int) (hv : PpSl w v xs) (hl : xs.length ≤ 1048576) :
    Calls Try.prog 20 #[v, .int .i64 k] w fun e w' => e = .returned (.tuple #[.int .i64 (Cd.vl (An.okB xs) (An.kP xs k) (An.tn xs k.toNat)), .int .i64 (Cd.cd (An.okB xs) (An.kP xs k) 0)]) ∧ Below w.heap.size w w' := by
  obtain ⟨a, cap, rfl⟩ := hv.form
  have CO := Lib.hid (l14Ok_any w _ xs hv hl)
  have HV := Lib.hid hv
  clear hv
  cases h : An.okB xs with
  | false =>
    rw [h] at CO
    rw [Cd.cd_f, Cd.vl_f]
    clear h HV
    go_enter Try.func20, Try.ntmps20
    go_wp2_with fail
    refine CO.out.mono ?_
    rintro e w1 ⟨rfl, b1⟩
    have B1 := Lib.hid b1
    clear b1
    go_wp2_with fail
    go_ret2
    exact ⟨rfl, B1.out⟩
  | true =>
    rw [h] at CO
    have o := An.okB_ok h
    have n2 := o.n2
    have n24 := o.n24
    obtain ⟨b, off, cap1, hn, P0⟩ := HV.out.pts (by omega)
    simp only [Value.slice.injEq] at hn
    obtain ⟨rfl, -, rfl⟩ := hn
    have P := Lib.hid (fun W (hb : Below w.heap.size w W) => PtAt.below P0 hb)
    clear h HV P0
    have CI := Lib.hid (fun W => l00In_any k 1 ((xs.length : Int) - 1) W)
    have m1 : IntKind.i64.wrap ((xs.length : Int) - 1) = (xs.length : Int) - 1 := wrap_in (by omega) (by omega)
    have E : Hid (Ar.inB 1 k ((xs.length : Int) - 1) = An.kP xs k) := Lib.hid rfl
    cases hk : An.kP xs k with
    | false =>
      rw [E.out, hk] at CI
      rw [Cd.cd_tf, Cd.vl_tf]
      clear hk E P o
      go_enter Try.func20, Try.ntmps20
      go_wp2_with fail
      refine CO.out.mono ?_
      rintro e w1 ⟨rfl, b1⟩
      have B1 := Lib.hid b1
      clear b1
      go_wp2_with fail
      refine (CI.out _).mono ?_
      rintro e w2 ⟨rfl, rfl⟩
      go_wp2_with fail
      go_ret2
      exact ⟨rfl, B1.out⟩
    | true =>
      obtain ⟨k1, k2⟩ := An.inB_of (E.out.trans hk)
      obtain ⟨m, rfl⟩ : ∃ m : Nat, k = (m : Int) := ⟨k.toNat, by omega⟩
      rw [Int.toNat_natCast]
      have CT := Lib.hid (fun W (hb : Below w.heap.size w W) => l14Tangent_any W b off cap xs (P.out W hb) o m (by omega) (by omega))
      rw [E.out, hk] at CI
      rw [Cd.cd_t, Cd.vl_t]
      clear hk E P o k1 k2
      go_enter Try.func20, Try.ntmps20
      go_wp2_with fail
      refine CO.out.mono ?_
      rintro e w1 ⟨rfl, b1⟩
      have B1 := Lib.hid b1
      clear b1
      go_wp2_with fail
      refine (CI.out _).mono ?_
      rintro e w2 ⟨rfl, rfl⟩
      go_wp2_with fail
      refine (CT.out _ B1.out).mono ?_
      rintro e w3 ⟨rfl, b3⟩
      have B3 := Lib.hid (bt B1.out b3)
      clear b3
      go_wp2_with fail
      go_ret2
      exact ⟨rfl, B3.out⟩
set_option maxHeartbeats 3200000 in
theorem specGroundAt_any (w : World) (v : Value) (xs : List Pth) (d : Int) (hv : PpSl w v xs) (hl : xs.length ≤ 1048576) :
    Calls Try.prog 22 #[v, .int .i64 d] w fun e w' => e = .returned (.tuple #[.int .i64 (Cd.vl (An.okB xs) (An.al xs d) (An.gr xs d)), .int .i64 (Cd.cd (An.okB xs) (An.al xs d) 0)]) ∧ Below w.heap.size w w' := by
  obtain ⟨a, cap, rfl⟩ := hv.form
  have CO := Lib.hid (l14Ok_any w _ xs hv hl)
  have HV := Lib.hid hv
  clear hv
  cases h : An.okB xs with
  | false =>
    rw [h] at CO
    rw [Cd.cd_f, Cd.vl_f]
    clear h HV
    go_enter Try.func22, Try.ntmps22
    go_wp2_with fail
    refine CO.out.mono ?_
    rintro e w1 ⟨rfl, b1⟩
    have B1 := Lib.hid b1
    clear b1
    go_wp2_with fail
    go_ret2
    exact ⟨rfl, B1.out⟩
  | true =>
    rw [h] at CO
    have o := An.okB_ok h
    have n2 := o.n2
    have n24 := o.n24
    obtain ⟨b, off, cap1, hn, P0⟩ := HV.out.pts (by omega)
    simp only [Value.slice.injEq] at hn
    obtain ⟨rfl, -, rfl⟩ := hn
    have P := Lib.hid (fun W (hb : Below w.heap.size w W) => PtAt.below P0 hb)
    clear h HV P0
    have CD := Lib.hid (fun W (hb : Below w.heap.size w W) => l14Distance_any W b off cap xs d (P.out W hb) n2 hl)
    cases hk : An.al xs d with
    | false =>
      rw [hk] at CD
      rw [Cd.cd_tf, Cd.vl_tf]
      clear hk P o
      go_enter Try.func22, Try.ntmps22
      go_wp2_with fail
      refine CO.out.mono ?_
      rintro e w1 ⟨rfl, b1⟩
      have B1 := Lib.hid b1
      clear b1
      go_wp2_with fail
      refine (CD.out _ B1.out).mono ?_
      rintro e w2 ⟨rfl, b2⟩
      have B2 := Lib.hid (bt B1.out b2)
      clear b2
      go_wp2_with fail
      go_ret2
      exact ⟨rfl, B2.out⟩
    | true =>
      obtain ⟨k1, k2⟩ := An.inB_of hk
      have CT := Lib.hid (fun W (hb : Below w.heap.size w W) => l14Ground_any W b off cap xs (P.out W hb) o d k1 k2)
      rw [hk] at CD
      rw [Cd.cd_t, Cd.vl_t]
      clear hk P o k1 k2
      go_enter Try.func22, Try.ntmps22
      go_wp2_with fail
      refine CO.out.mono ?_
      rintro e w1 ⟨rfl, b1⟩
      have B1 := Lib.hid b1
      clear b1
      go_wp2_with fail
      refine (CD.out _ B1.out).mono ?_
      rintro e w2 ⟨rfl, b2⟩
      have B2 := Lib.hid (bt B1.out b2)
      clear b2
      go_wp2_with fail
      refine (CT.out _ B2.out).mono ?_
      rintro e w3 ⟨rfl, b3⟩
      have B3 := Lib.hid (bt B2.out b3)
      clear b3
      go_wp2_with fail
      go_ret2
      exact ⟨rfl, B3.out⟩
set_option maxHeartbeats 3200000 in
theorem specLineAt_any (w : World) (v : Value) (xs : List Pth) (t : Int) (d : Int) (hv : PpSl w v xs) (hl : xs.length ≤ 1048576) :
    Calls Try.prog 24 #[v, .int .i64 t, .int .i64 d] w fun e w' => e = .returned (.tuple #[.int .i64 (Cd.vl (An.okB xs) (An.tg t && An.al xs d) (An.en xs t d)), .int .i64 (Cd.cd (An.okB xs) (An.tg t && An.al xs d) 0)]) ∧ Below w.heap.size w w' := by
  obtain ⟨a, cap, rfl⟩ := hv.form
  have CO := Lib.hid (l14Ok_any w _ xs hv hl)
  have HV := Lib.hid hv
  clear hv
  cases h : An.okB xs with
  | false =>
    rw [h] at CO
    rw [Cd.cd_f, Cd.vl_f]
    clear h HV
    go_enter Try.func24, Try.ntmps24
    go_wp2_with fail
    refine CO.out.mono ?_
    rintro e w1 ⟨rfl, b1⟩
    have B1 := Lib.hid b1
    clear b1
    go_wp2_with fail
    go_ret2
    exact ⟨rfl, B1.out⟩
  | true =>
    rw [h] at CO
    have o := An.okB_ok h
    have n2 := o.n2
    have n24 := o.n24
    obtain ⟨b, off, cap1, hn, P0⟩ := HV.out.pts (by omega)
    simp only [Value.slice.injEq] at hn
    obtain ⟨rfl, -, rfl⟩ := hn
    have P := Lib.hid (fun W (hb : Below w.heap.size w W) => PtAt.below P0 hb)
    clear h HV P0
    have CI := Lib.hid (fun W => l14Is_any t W)
    have CD := Lib.hid (fun W (hb : Below w.heap.size w W) => l14Distance_any W b off cap xs d (P.out W hb) n2 hl)
    cases ht : An.tg t with
    | false =>
      rw [ht] at CI
      rw [Bool.false_and, Cd.cd_tf, Cd.vl_tf]
      clear ht P o CD
      go_enter Try.func24, Try.ntmps24
      go_wp2_with fail
      refine CO.out.mono ?_
      rintro e w1 ⟨rfl, b1⟩
      have B1 := Lib.hid b1
      clear b1
      go_wp2_with fail
      refine (CI.out _).mono ?_
      rintro e w2 ⟨rfl, rfl⟩
      go_wp2_with fail
      go_ret2
      exact ⟨rfl, B1.out⟩
    | true =>
      rw [ht] at CI
      obtain ⟨t1, t2⟩ := An.inB_of ht
      rw [Bool.true_and]
      cases hk : An.al xs d with
      | false =>
        rw [hk] at CD
        rw [Cd.cd_tf, Cd.vl_tf]
        clear hk ht P o t1 t2
        go_enter Try.func24, Try.ntmps24
        go_wp2_with fail
        refine CO.out.mono ?_
        rintro e w1 ⟨rfl, b1⟩
        have B1 := Lib.hid b1
        clear b1
        go_wp2_with fail
        refine (CI.out _).mono ?_
        rintro e w2 ⟨rfl, rfl⟩
        go_wp2_with fail
        refine (CD.out _ B1.out).mono ?_
        rintro e w3 ⟨rfl, b3⟩
        have B3 := Lib.hid (bt B1.out b3)
        clear b3
        go_wp2_with fail
        go_ret2
        exact ⟨rfl, B3.out⟩
      | true =>
        obtain ⟨k1, k2⟩ := An.inB_of hk
        have hla := o.last
        rw [hk] at CD
        rw [Cd.cd_t, Cd.vl_t]
        have CT := Lib.hid (fun W (hb : Below w.heap.size w W) => l14Line_any W b off cap xs (P.out W hb) o t d (by omega) t2 k1 (by omega))
        clear hk ht P o t1 t2 k1 k2 hla
        go_enter Try.func24, Try.ntmps24
        go_wp2_with fail
        refine CO.out.mono ?_
        rintro e w1 ⟨rfl, b1⟩
        have B1 := Lib.hid b1
        clear b1
        go_wp2_with fail
        refine (CI.out _).mono ?_
        rintro e w2 ⟨rfl, rfl⟩
        go_wp2_with fail
        refine (CD.out _ B1.out).mono ?_
        rintro e w3 ⟨rfl, b3⟩
        have B3 := Lib.hid (bt B1.out b3)
        clear b3
        go_wp2_with fail
        refine (CT.out _ B3.out).mono ?_
        rintro e w4 ⟨rfl, rfl⟩
        go_wp2_with fail
        go_ret2
        exact ⟨rfl, B3.out⟩
namespace An
/-- the model's stop: -1 where there is none -/
def sR (xs : List Pth) (t : Int) : Int := if st xs t < (la xs).toNat then (st xs t : Int) + 1 else -1
theorem sR_at {xs : List Pth} {t : Int} {n : Nat} (h : n < (la xs).toNat) (h1 : ∀ j : Nat, j < n → 0 < hi xs t ((j : Int) + 1)) (h2 : hi xs t ((n : Int) + 1) ≤ 0) : sR xs t = (n : Int) + 1 := by
  have : st xs t = n := fi_eq (by omega) (fun i hi => decide_eq_false (by have := h1 i hi; omega)) (fun _ => decide_eq_true h2)
  unfold sR; rw [this, if_pos h]
theorem sR_no {xs : List Pth} {t : Int} (h1 : ∀ j : Nat, j < (la xs).toNat → 0 < hi xs t ((j : Int) + 1)) : sR xs t = -1 := by
  have : st xs t = (la xs).toNat := fi_all (fun i hi => decide_eq_false (by have := h1 i hi; omega))
  unfold sR; rw [this, if_neg (by omega)]
end An
set_option maxHeartbeats 3200000 in
theorem l14Stop_any (w : World) (b off cap : Nat) (xs : List Pth) (P : PtAt w b off xs) (o : An.Ok xs) (t : Int) (h1 : 1 ≤ t) (h2 : t ≤ 3000) :
    Calls Try.prog 67 #[.slice (some ⟨b, off, none⟩) xs.length cap, .int .i64 t] w fun e w' => e = .returned (.int .i64 (An.sR xs t)) ∧ Below w.heap.size w w' := by
  have hla0 := o.last
  have n24 := o.n24
  have n2 := o.n2
  have HP := Lib.hid (fun W (hb : Below w.heap.size w W) => PtAt.below P hb)
  have HO := Lib.hid o
  have CB := Lib.hid (fun W (hb : Below w.heap.size w W) k (hk : k + 1 < xs.length) (d : Int) (h1 : 1 ≤ d) (h2 : d ≤ 20000) => l14Between_any W b off cap xs (P.below hb) o k hk d (by omega) (by omega))
  have CL := Lib.hid (fun W (hb : Below w.heap.size w W) (d : Int) (h3 : 1 ≤ d) (h4 : d ≤ 20000) => l14Line_any W b off cap xs (P.below hb) o t d (by omega) h2 (by omega) h4)
  have hla := Lib.hid hla0
  have m1 : IntKind.i64.wrap ((xs.length : Int) - 1) = (xs.length : Int) - 1 := wrap_in (by omega) (by omega)
  have m2 : (0 : Int) ≤ (xs.length : Int) - 1 := by omega
  have m3 : ((xs.length : Int) - 1).toNat = xs.length - 1 := by omega
  have HT := Lib.hid (And.intro h1 h2)
  clear P o h1 h2 hla0
  go_enter Try.func67, Try.ntmps67
  go_wp2
  go_loopw [5, 6] (fun i d wr => ∃ k n : Nat, i = .int .i64 ((k + 1 : Nat) : Int) ∧ d = .int .i64 ((n + 1 : Nat) : Int) ∧ k + 1 < xs.length ∧ n ≤ 20000 ∧ Hid (n ≤ (An.la xs).toNat) ∧ Hid (∀ j, j < k → (An.nd xs (j + 1)).di < ((n + 1 : Nat) : Int)) ∧ Hid (∀ j : Nat, j < n → 0 < An.hi xs t ((j : Int) + 1)) ∧ Hid (Below w.heap.size w wr)) (fun _ d _ => 20001 - (intOf d).toNat)
  case atStart => exact ⟨0, 0, rfl, rfl, by omega, by omega, Lib.hid (Nat.zero_le _), Lib.hid (fun j h => absurd h (Nat.not_lt_zero _)), Lib.hid (fun j h => absurd h (Nat.not_lt_zero _)), Lib.hid (Below.refl _ _)⟩
  case round =>
    obtain ⟨k, n, rfl, rfl, hk, hn, hnl, hlow, hpos, hb⟩ := hrel
    have c0 : wr.cell? ⟨b, off + (xs.length - 1) * 2, none⟩ = some (.int .i64 (An.la xs)) := (HP.out wr hb.out (xs.length - 1) (by omega)).1
    by_cases hd : ((n + 1 : Nat) : Int) ≤ An.la xs
    · have hn2 : Hid (n < (An.la xs).toNat ∧ n + 1 ≤ 20000) := Lib.hid (by have := hla.out; omega)
      have HD := Lib.hid hd
      generalize hL : An.la xs = L at c0 hd
      have HLL := Lib.hid hL
      clear hL
      go_wp2_with fail
      clear hd c0
      go_loopw [5] (fun i wi => wi = wr ∧ ∃ k : Nat, i = .int .i64 ((k + 1 : Nat) : Int) ∧ k + 1 < xs.length ∧ Hid (∀ j, j < k → (An.nd xs (j + 1)).di < ((n + 1 : Nat) : Int))) (fun i _ => xs.length - (intOf i).toNat)
      case atStart => exact ⟨rfl, k, rfl, hk, hlow⟩
      case round =>
        obtain ⟨rfl, k, rfl, hk, hlow⟩ := hrel
        obtain ⟨c0, -⟩ := HP.out _ hb.out (k + 1) hk
        have hz : ((k : Int) + 1) < (xs.length : Int) := by omega
        have HGE := Lib.hid (fun (h : ¬ (An.nd xs (k + 1)).di < ((n + 1 : Nat) : Int)) => An.gi_eq (d := ((n + 1 : Nat) : Int)) hk hlow.out (by omega))
        have HLW := Lib.hid (fun (h : (An.nd xs (k + 1)).di < ((n + 1 : Nat) : Int)) => Lib.hid (fun j (hj : j < k + 1) => (by
          rcases Nat.lt_or_ge j k with h1 | h1
          · exact hlow.out j h1
          · have : j = k := by omega
            rw [this]; exact h : (An.nd xs (j + 1)).di < ((n + 1 : Nat) : Int))))
        have HIN := Lib.hid (fun (h : (An.nd xs (k + 1)).di < ((n + 1 : Nat) : Int)) => (by
          rcases Nat.lt_or_ge (k + 2) xs.length with h1 | h1
          · exact h1
          · have := HD.out; unfold An.la at this
            rw [show xs.length - 1 = k + 1 by omega] at this; omega : k + 2 < xs.length))
        by_cases ht : (An.nd xs (k + 1)).di < ((n + 1 : Nat) : Int)
        · have hk2 := HIN.out ht
          have hl2 := HLW.out ht
          clear HIN HLW HGE hlow
          generalize (An.nd xs (k + 1)).di = x1 at *
          go_wp2_with fail
          exact ⟨⟨by first | rfl | trivial, k + 1, by go_num, hk2, hl2⟩, by simp only [intOf]; omega⟩
        · have hg := HGE.out ht
          have C1 := Lib.hid (CB.out _ hb.out k hk ((n + 1 : Nat) : Int) (by omega) (by have := hn2.out; omega))
          have C2 := Lib.hid (fun W (hb : Below w.heap.size w W) => CL.out W hb ((n + 1 : Nat) : Int) (by omega) (by have := hn2.out; omega))
          have EG : Hid (Ar.line (An.nd xs k).di (1000 * (An.nd xs k).he) (An.nd xs (k + 1)).di (1000 * (An.nd xs (k + 1)).he) ((n + 1 : Nat) : Int) = An.gr xs ((n + 1 : Nat) : Int)) := Lib.hid (by unfold An.gr; rw [hg])
          rw [EG.out] at C1
          have HI : Hid (An.hi xs t ((n : Int) + 1) = An.en xs t ((n + 1 : Nat) : Int) - An.gr xs ((n + 1 : Nat) : Int)) := Lib.hid rfl
          have HLK := hlow
          clear HIN HLW HGE hlow EG hg
          generalize An.gr xs ((n + 1 : Nat) : Int) = g at *
          generalize An.en xs t ((n + 1 : Nat) : Int) = y at *
          generalize (An.nd xs (k + 1)).di = x1 at *
          by_cases hge : y ≤ g
          · have hR : Hid (An.sR xs t = ((n + 1 : Nat) : Int)) := Lib.hid (An.sR_at hn2.out.1 hpos.out (by rw [HI.out]; omega))
            clear HI hpos
            go_wp2_with fail
            refine C1.out.mono ?_
            rintro e w1 ⟨rfl, b1⟩
            have B1 := Lib.hid (bt hb.out b1)
            clear b1 c0
            go_wp2_with fail
            refine (C2.out _ B1.out).mono ?_
            rintro e w2 ⟨rfl, rfl⟩
            go_wp2_with fail
            go_ret
            exact ⟨ret_int hR.out.symm, B1.out⟩
          · have hp2 : Hid (∀ j : Nat, j < n + 1 → 0 < An.hi xs t ((j : Int) + 1)) := Lib.hid (fun j hj => by
              rcases Nat.lt_or_ge j n with h1 | h1
              · exact hpos.out j h1
              · have : j = n := by omega
                rw [this, HI.out]; omega)
            clear HI hpos
            go_wp2_with fail
            refine C1.out.mono ?_
            rintro e w1 ⟨rfl, b1⟩
            have B1 := Lib.hid (bt hb.out b1)
            clear b1 c0
            go_wp2_with fail
            refine (C2.out _ B1.out).mono ?_
            rintro e w2 ⟨rfl, rfl⟩
            go_wp2_with fail
            exact ⟨⟨k, n + 1, rfl, by go_num, hk, hn2.out.2, Lib.hid (by have := hn2.out.1; have := HLL.out; omega), Lib.hid (fun j hj => by have := HLK.out j hj; omega), hp2, B1⟩, by have := hn2.out.2; simp only [intOf]; omega⟩
    · have hR : Hid (An.sR xs t = -1) := Lib.hid (An.sR_no (fun j hj => hpos.out j (by omega)))
      generalize An.la xs = L at *
      go_wp2_with fail
      go_ret
      exact ⟨ret_int hR.out.symm, hb.out⟩
end Go.Proofs.Ytmieckchppfogaa
