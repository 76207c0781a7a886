/-
  Tangents, the ground and the line, by the program (chapter 14). No condition of its own. (Written by wip/gen/genagi.py.)
-/
import Derived.Test.YtmieckchppfogaaGreatDoorAgH
import Derived.Deep.QuietTactic
import Derived.BigQuiet
namespace Go.Proofs.YtmieckchppfogaaGreatDoor
open Go.RowKit Go.Shelf
set_option linter.unusedVariables false
set_option maxRecDepth 100000

namespace An
theorem kP_f {xs : List Pth} {k : Int} (h : ¬ 0 < k) : kP xs k = false := Ar.inB_f (by omega)
theorem kP_t {xs : List Pth} {k : Int} (h : 0 < k) : kP xs k = Ar.inB 0 k ((xs.length : Int) - 1) := by
  unfold kP
  by_cases h2 : k ≤ (xs.length : Int) - 1
  · rw [Ar.inB_t (by omega) h2, Ar.inB_t (by omega) h2]
  · rw [Ar.inB_f (by omega), Ar.inB_f (by omega)]
end An
set_option maxHeartbeats 3200000 in
theorem implTangentOf_any (w : World) (v : Value) (xs : List Pth) (k : Int) (hv : PpSl w v xs) (hl : xs.length ≤ 1048576) :
    Calls Tryz.prog 13 #[v, .int .i64 k] w fun e w' => e = .returned (.tuple #[.int .i64 (Cd.vl (An.okB xs) (An.kP xs k) (An.tn xs k.toNat)), .int .i64 (Cd.cd (An.okB xs) (An.kP xs k) 0)]) ∧ Below w.heap.size w w' := by
  obtain ⟨a, cap, rfl⟩ := hv.form
  have CP := Lib.hid (fun q W (hb : Below w.heap.size w W) => pathCode_any W _ xs q (hv.below hb) hl)
  have HV := Lib.hid hv
  have BR := Lib.hid (Below.refl w.heap.size w)
  have CX := Lib.hid (fun W => isIndexP_any k a xs.length cap W hl)
  clear hv
  by_cases hk0 : 0 < k
  · have hg : decide ((0 : Int) < k) = true := decide_eq_true hk0
    have EK := Lib.hid (An.kP_t (xs := xs) hk0)
    rw [← EK.out] at CX
    cases h : An.okB xs with
    | false =>
      rw [h] at CP
      rw [Cd.cd_f, Cd.vl_f]
      simp only [Cd.cd_f] at CP
      clear h HV EK
      generalize An.kP xs k = q at *
      go_enter Tryz.func13, Tryz.ntmps13
      go_wp2_with fail
      refine (CX.out _).mono ?_
      rintro e w9 ⟨rfl, rfl⟩
      go_wp2_with fail
      refine (CP.out _ _ BR.out).mono ?_
      rintro e w1 ⟨rfl, b1⟩
      have B1 := Lib.hid (b1)
      clear b1
      go_wp2_with fail
      go_ret2
      exact ⟨rfl, B1.out⟩
    | true =>
      have o := An.okB_ok h
      have n2 := o.n2
      have n24 := o.n24
      obtain ⟨b, off, cap1, hn, P0⟩ := HV.out.pts (by omega)
      simp only [Value.slice.injEq] at hn
      obtain ⟨rfl, -, rfl⟩ := hn
      have P := Lib.hid (fun W (hb : Below w.heap.size w W) => PtAt.below P0 hb)
      rw [h] at CP
      cases hk : An.kP xs k with
      | false =>
        rw [hk] at CX
        rw [Cd.cd_tf, Cd.vl_tf]
        have CP := Lib.hid (CP.out false)
        rw [Cd.cd_tf] at CP
        clear hk h HV EK P o P0
        go_enter Tryz.func13, Tryz.ntmps13
        go_wp2_with fail
        refine (CX.out _).mono ?_
        rintro e w9 ⟨rfl, rfl⟩
        go_wp2_with fail
        refine (CP.out _ BR.out).mono ?_
        rintro e w1 ⟨rfl, b1⟩
        have B1 := Lib.hid (b1)
        clear b1
        go_wp2_with fail
        go_ret2
        exact ⟨rfl, B1.out⟩
      | true =>
        obtain ⟨k1, k2⟩ := An.inB_of hk
        rw [hk] at CX
        rw [Cd.cd_t, Cd.vl_t]
        have CP := Lib.hid (CP.out true)
        rw [Cd.cd_t] at CP
        obtain ⟨m, rfl⟩ : ∃ m : Nat, k = (m : Int) := ⟨k.toNat, by omega⟩
        rw [Int.toNat_natCast]
        have f1 := o.dl m (by omega)
        have f2 := o.dh m (by omega)
        have f3 := o.hl m (by omega)
        have f4 := o.hh m (by omega)
        have f5 := o.h9 0 (by omega)
        have f6 := (An.tn_bd o (k := m) (by omega) (by omega)).2.2
        have CD := Lib.hid (fun W => divP_any (1000 * ((An.nd xs 0).he - (An.nd xs m).he)) (An.nd xs m).di W (by omega) (by omega) f6 (by omega))
        have E : Hid (Ar.dr (1000 * ((An.nd xs 0).he - (An.nd xs m).he)) (An.nd xs m).di = An.tn xs m) := Lib.hid rfl
        have C0 := Lib.hid (fun W (hb : Below w.heap.size w W) => (P.out W hb m (by omega)))
        have CZ := Lib.hid (fun W (hb : Below w.heap.size w W) => (P.out W hb).zero (by omega))
        have hz : (0 : Int) < (xs.length : Int) := by omega
        have hkz : (m : Int) < (xs.length : Int) := by omega
        clear hk h HV EK P o P0 k1 k2
        generalize (An.nd xs 0).he = y0 at *
        generalize (An.nd xs m).he = yk at *
        generalize (An.nd xs m).di = dk at *
        go_enter Tryz.func13, Tryz.ntmps13
        go_wp2_with fail
        refine (CX.out _).mono ?_
        rintro e w9 ⟨rfl, rfl⟩
        go_wp2_with fail
        refine (CP.out _ BR.out).mono ?_
        rintro e w1 ⟨rfl, b1⟩
        have B1 := Lib.hid b1
        obtain ⟨c0, c1⟩ := C0.out _ b1
        obtain ⟨z0, z1⟩ := CZ.out _ b1
        clear b1
        go_wp2_with fail
        go_quiet (fail)
        have BQ := Lib.hid (below_drewN B1.out nq)
        go_wp2_with fail
        refine (CD.out _).mono ?_
        rintro e w9 ⟨rfl, rfl⟩
        go_wp2_with fail
        go_ret2
        exact ⟨ret_ii E.out rfl, BQ.out⟩
  · have hg : decide ((0 : Int) < k) = false := decide_eq_false hk0
    have EK := Lib.hid (An.kP_f (xs := xs) hk0)
    rw [EK.out]
    have CP := Lib.hid (CP.out false)
    clear EK HV
    cases h : An.okB xs with
    | false =>
      rw [h] at CP
      rw [Cd.cd_f] at CP
      rw [Cd.cd_f, Cd.vl_f]
      clear h
      go_enter Tryz.func13, Tryz.ntmps13
      go_wp2_with fail
      refine (CP.out _ BR.out).mono ?_
      rintro e w1 ⟨rfl, b1⟩
      have B1 := Lib.hid (b1)
      clear b1
      go_wp2_with fail
      go_ret2
      exact ⟨rfl, B1.out⟩
    | true =>
      rw [h] at CP
      rw [Cd.cd_tf] at CP
      rw [Cd.cd_tf, Cd.vl_tf]
      clear h
      go_enter Tryz.func13, Tryz.ntmps13
      go_wp2_with fail
      refine (CP.out _ BR.out).mono ?_
      rintro e w1 ⟨rfl, b1⟩
      have B1 := Lib.hid (b1)
      clear b1
      go_wp2_with fail
      go_ret2
      exact ⟨rfl, B1.out⟩
set_option maxHeartbeats 3200000 in
theorem implGroundAt_any (w : World) (v : Value) (xs : List Pth) (d : Int) (hv : PpSl w v xs) (hl : xs.length ≤ 1048576) :
    Calls Tryz.prog 8 #[v, .int .i64 d] w fun e w' => e = .returned (.tuple #[.int .i64 (Cd.vl (An.okB xs) (An.al xs d) (An.gr xs d)), .int .i64 (Cd.cd (An.okB xs) (An.al xs d) 0)]) ∧ Below w.heap.size w w' := by
  obtain ⟨a, cap, rfl⟩ := hv.form
  have CP := Lib.hid (fun q W (hb : Below w.heap.size w W) => pathCode_any W _ xs q (hv.below hb) hl)
  have HV := Lib.hid hv
  have BR := Lib.hid (Below.refl w.heap.size w)
  have CX := Lib.hid (fun W (hb : Below w.heap.size w W) => isAlong_any W _ xs d (hv.below hb) hl)
  clear hv
  cases h : An.okB xs with
  | false =>
    rw [h] at CP
    rw [Cd.cd_f, Cd.vl_f]
    simp only [Cd.cd_f] at CP
    clear h HV
    generalize An.alP xs d = q at *
    go_enter Tryz.func8, Tryz.ntmps8
    go_wp2_with fail
    refine (CX.out _ BR.out).mono ?_
    rintro e w9 ⟨rfl, rfl⟩
    go_wp2_with fail
    refine (CP.out _ _ BR.out).mono ?_
    rintro e w1 ⟨rfl, b1⟩
    have B1 := Lib.hid (b1)
    clear b1
    go_wp2_with fail
    go_ret2
    exact ⟨rfl, B1.out⟩
  | true =>
    have o := An.okB_ok h
    have n2 := o.n2
    have n24 := o.n24
    obtain ⟨b, off, cap1, hn, P0⟩ := HV.out.pts (by omega)
    simp only [Value.slice.injEq] at hn
    obtain ⟨rfl, -, rfl⟩ := hn
    have P := Lib.hid (fun W (hb : Below w.heap.size w W) => PtAt.below P0 hb)
    rw [h] at CP
    rw [An.alP_ok d h] at CX
    cases hk : An.al xs d with
    | false =>
      rw [hk] at CX
      rw [Cd.cd_tf, Cd.vl_tf]
      have CP := Lib.hid (CP.out false)
      rw [Cd.cd_tf] at CP
      clear hk h HV P o P0
      go_enter Tryz.func8, Tryz.ntmps8
      go_wp2_with fail
      refine (CX.out _ BR.out).mono ?_
      rintro e w9 ⟨rfl, rfl⟩
      go_wp2_with fail
      refine (CP.out _ BR.out).mono ?_
      rintro e w1 ⟨rfl, b1⟩
      have B1 := Lib.hid (b1)
      clear b1
      go_wp2_with fail
      go_ret2
      exact ⟨rfl, B1.out⟩
    | true =>
      obtain ⟨k1, k2⟩ := An.inB_of hk
      rw [hk] at CX
      rw [Cd.cd_t, Cd.vl_t]
      have CP := Lib.hid (CP.out true)
      rw [Cd.cd_t] at CP
      have CG := Lib.hid (fun W (hb : Below w.heap.size w W) => groundHeight_any W b off cap xs (P.out W hb) o d k1 k2)
      clear hk h HV P o P0 k1 k2
      go_enter Tryz.func8, Tryz.ntmps8
      go_wp2_with fail
      refine (CX.out _ BR.out).mono ?_
      rintro e w9 ⟨rfl, rfl⟩
      go_wp2_with fail
      refine (CP.out _ BR.out).mono ?_
      rintro e w1 ⟨rfl, b1⟩
      have B1 := Lib.hid (b1)
      clear b1
      go_wp2_with fail
      refine (CG.out _ B1.out).mono ?_
      rintro e w2 ⟨rfl, b2⟩
      have B2 := Lib.hid (bt B1.out b2)
      clear b2
      go_wp2_with fail
      go_ret2
      exact ⟨rfl, B2.out⟩
set_option maxHeartbeats 3200000 in
theorem implLineAt_any (w : World) (v : Value) (xs : List Pth) (t : Int) (d : Int) (hv : PpSl w v xs) (hl : xs.length ≤ 1048576) :
    Calls Tryz.prog 9 #[v, .int .i64 t, .int .i64 d] w fun e w' => e = .returned (.tuple #[.int .i64 (Cd.vl (An.okB xs) (An.tg t && An.al xs d) (An.en xs t d)), .int .i64 (Cd.cd (An.okB xs) (An.tg t && An.al xs d) 0)]) ∧ Below w.heap.size w w' := by
  obtain ⟨a, cap, rfl⟩ := hv.form
  have CP := Lib.hid (fun q W (hb : Below w.heap.size w W) => pathCode_any W _ xs q (hv.below hb) hl)
  have HV := Lib.hid hv
  have BR := Lib.hid (Below.refl w.heap.size w)
  have CX := Lib.hid (fun W (hb : Below w.heap.size w W) => isAlong_any W _ xs d (hv.below hb) hl)
  have CT := Lib.hid (fun W => isTangent_any t W)
  clear hv
  cases ht : An.tg t with
  | false =>
    rw [ht] at CT
    rw [Bool.false_and]
    have CP := Lib.hid (CP.out false)
    clear CX HV
    cases h : An.okB xs with
    | false =>
      rw [h] at CP
      rw [Cd.cd_f] at CP
      rw [Cd.cd_f, Cd.vl_f]
      clear h ht
      go_enter Tryz.func9, Tryz.ntmps9
      go_wp2_with fail
      refine (CT.out _).mono ?_
      rintro e w9 ⟨rfl, rfl⟩
      go_wp2_with fail
      refine (CP.out _ BR.out).mono ?_
      rintro e w1 ⟨rfl, b1⟩
      have B1 := Lib.hid (b1)
      clear b1
      go_wp2_with fail
      go_ret2
      exact ⟨rfl, B1.out⟩
    | true =>
      rw [h] at CP
      rw [Cd.cd_tf] at CP
      rw [Cd.cd_tf, Cd.vl_tf]
      clear h ht
      go_enter Tryz.func9, Tryz.ntmps9
      go_wp2_with fail
      refine (CT.out _).mono ?_
      rintro e w9 ⟨rfl, rfl⟩
      go_wp2_with fail
      refine (CP.out _ BR.out).mono ?_
      rintro e w1 ⟨rfl, b1⟩
      have B1 := Lib.hid (b1)
      clear b1
      go_wp2_with fail
      go_ret2
      exact ⟨rfl, B1.out⟩
  | true =>
    rw [ht] at CT
    rw [Bool.true_and]
    cases h : An.okB xs with
    | false =>
      rw [h] at CP
      rw [Cd.cd_f, Cd.vl_f]
      simp only [Cd.cd_f] at CP
      clear h HV ht
      generalize An.alP xs d = q at *
      go_enter Tryz.func9, Tryz.ntmps9
      go_wp2_with fail
      refine (CT.out _).mono ?_
      rintro e w9 ⟨rfl, rfl⟩
      go_wp2_with fail
      refine (CX.out _ BR.out).mono ?_
      rintro e w9 ⟨rfl, rfl⟩
      go_wp2_with fail
      refine (CP.out _ _ BR.out).mono ?_
      rintro e w1 ⟨rfl, b1⟩
      have B1 := Lib.hid (b1)
      clear b1
      go_wp2_with fail
      go_ret2
      exact ⟨rfl, B1.out⟩
    | true =>
      have o := An.okB_ok h
      have n2 := o.n2
      have n24 := o.n24
      obtain ⟨b, off, cap1, hn, P0⟩ := HV.out.pts (by omega)
      simp only [Value.slice.injEq] at hn
      obtain ⟨rfl, -, rfl⟩ := hn
      have P := Lib.hid (fun W (hb : Below w.heap.size w W) => PtAt.below P0 hb)
      rw [h] at CP
      rw [An.alP_ok d h] at CX
      cases hk : An.al xs d with
      | false =>
        rw [hk] at CX
        rw [Cd.cd_tf, Cd.vl_tf]
        have CP := Lib.hid (CP.out false)
        rw [Cd.cd_tf] at CP
        clear hk h HV P o P0 ht
        go_enter Tryz.func9, Tryz.ntmps9
        go_wp2_with fail
        refine (CT.out _).mono ?_
        rintro e w9 ⟨rfl, rfl⟩
        go_wp2_with fail
        refine (CX.out _ BR.out).mono ?_
        rintro e w9 ⟨rfl, rfl⟩
        go_wp2_with fail
        refine (CP.out _ BR.out).mono ?_
        rintro e w1 ⟨rfl, b1⟩
        have B1 := Lib.hid (b1)
        clear b1
        go_wp2_with fail
        go_ret2
        exact ⟨rfl, B1.out⟩
      | true =>
        obtain ⟨k1, k2⟩ := An.inB_of hk
        obtain ⟨t1, t2⟩ := An.inB_of ht
        have hla := o.last
        rw [hk] at CX
        rw [Cd.cd_t, Cd.vl_t]
        have CP := Lib.hid (CP.out true)
        rw [Cd.cd_t] at CP
        have f3 := o.hl 0 (by omega)
        have f5 := o.h9 0 (by omega)
        have CE := Lib.hid (fun W (hb : Below w.heap.size w W) => energyLineOf_any W b off cap xs (P.out W hb) o t)
        have CL := Lib.hid (fun W => lineHeight_any (1000 * (An.nd xs 0).he) t d W (by omega) (by omega) (by omega) t2 k1 (by omega))
        have E : Hid (1000 * (An.nd xs 0).he - t * d = An.en xs t d) := Lib.hid rfl
        clear hk h HV P o P0 k1 k2 t1 t2 hla ht
        rw [E.out] at CL
        generalize An.en xs t d = q at *
        generalize 1000 * (An.nd xs 0).he = y0 at *
        go_enter Tryz.func9, Tryz.ntmps9
        go_wp2_with fail
        refine (CT.out _).mono ?_
        rintro e w9 ⟨rfl, rfl⟩
        go_wp2_with fail
        refine (CX.out _ BR.out).mono ?_
        rintro e w9 ⟨rfl, rfl⟩
        go_wp2_with fail
        refine (CP.out _ BR.out).mono ?_
        rintro e w1 ⟨rfl, b1⟩
        have B1 := Lib.hid (b1)
        clear b1
        go_wp2_with fail
        refine (CE.out _ B1.out).mono ?_
        rintro e w2 ⟨rfl, b2⟩
        have B2 := Lib.hid (bt B1.out b2)
        clear b2
        go_wp2_with fail
        refine (CL.out _).mono ?_
        rintro e w3 ⟨rfl, b3⟩
        have B3 := Lib.hid (bt B2.out b3)
        clear b3
        go_wp2_with fail
        go_ret2
        exact ⟨rfl, B3.out⟩
end Go.Proofs.YtmieckchppfogaaGreatDoor
