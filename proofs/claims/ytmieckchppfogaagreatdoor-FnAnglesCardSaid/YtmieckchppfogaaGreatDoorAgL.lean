/-
  Stops, speeds and the tangent for a stop, by the program (chapter 14). No condition of its own. (Written by wip/gen/genagl.py.)
-/
import Derived.Test.YtmieckchppfogaaGreatDoorAgK
import Derived.Deep.QuietTactic
import Derived.BigQuiet
namespace Go.Proofs.YtmieckchppfogaaGreatDoor
open Go.RowKit Go.Shelf
set_option linter.unusedVariables false
set_option maxRecDepth 100000

theorem slide_mk (w : World) (b off cap : Nat) (xs : List Pth) (P : PtAt w b off xs) (o : An.Ok xs) (t : Int) (t1 : 1 ≤ t) (t2 : t ≤ 3000) (a : Option Addr) (n cap5 : Nat) (h : Sl w (.slice a n cap5) (An.es xs (xs.length - 1))) :
    Slide w 59 57 (.agg #[.int .i64 (1000 * (An.nd xs 0).he), .int .i64 t]) (.slice (some ⟨b, off, none⟩) xs.length cap) a n cap5 xs t :=
  ⟨o, by omega, h, fun W hW d h0 h1 => above_any W b off cap xs _ (P.below hW) o t d (by omega) t2 h0 h1⟩
set_option maxHeartbeats 3200000 in
theorem implStopOf_any (w : World) (v : Value) (xs : List Pth) (t : Int) (ho : PpAt w v xs) (hl : xs.length ≤ 1048576) :
    Calls Tryz.prog 6 #[v, .int .i64 t] w fun e w' => e = .returned (.tuple #[.int .i64 (Cd.vl (An.okB xs) (An.tg t) (An.sV xs t)), .int .i64 (Cd.cd (An.okB xs) (An.tg t) (An.sC xs t 3))]) ∧ Below w.heap.size w w' := by
  have hv := ho.sl
  have HOW := Lib.hid ho
  obtain ⟨a, cap, rfl⟩ := hv.form
  clear ho
  have CP := Lib.hid (fun q W (hb : Below w.heap.size w W) => pathCode_any W _ xs q (hv.below hb) hl)
  have HV := Lib.hid hv
  have BR := Lib.hid (Below.refl w.heap.size w)
  have CT := Lib.hid (fun W => isTangent_any t W)
  clear hv
  cases h : An.okB xs with
  | false =>
    rw [h] at CP
    rw [Cd.cd_f, Cd.vl_f]
    simp only [Cd.cd_f] at CP
    clear h HV HOW
    generalize An.tg t = q at *
    go_enter Tryz.func6, Tryz.ntmps6
    go_wp2_with fail
    refine (CT.out _).mono ?_
    rintro e w9 ⟨rfl, rfl⟩
    go_wp2_with fail
    refine (CP.out _ _ BR.out).mono ?_
    rintro e w1 ⟨rfl, b1⟩
    have B1 := Lib.hid (b1)
    clear b1
    go_wp2_with fail
    go_ret2
    exact ⟨rfl, B1.out⟩
  | true =>
    have o := An.okB_ok h
    have n2 := o.n2
    have n24 := o.n24
    obtain ⟨b, cap1, hn, hcap, P0⟩ := HOW.out.pts (by omega)
    simp only [Value.slice.injEq] at hn
    obtain ⟨rfl, -, rfl⟩ := hn
    have P := Lib.hid (fun W (hb : Below w.heap.size w W) => PtAt.below P0 hb)
    rw [h] at CP
    cases ht : An.tg t with
    | false =>
      rw [ht] at CT
      rw [Cd.cd_tf, Cd.vl_tf]
      have CP := Lib.hid (CP.out false)
      rw [Cd.cd_tf] at CP
      clear h HV P o P0 ht HOW
      go_enter Tryz.func6, Tryz.ntmps6
      go_wp2_with fail
      refine (CT.out _).mono ?_
      rintro e w9 ⟨rfl, rfl⟩
      go_wp2_with fail
      refine (CP.out _ BR.out).mono ?_
      rintro e w1 ⟨rfl, b1⟩
      have B1 := Lib.hid (b1)
      clear b1
      go_wp2_with fail
      go_ret2
      exact ⟨rfl, B1.out⟩
    | true =>
      obtain ⟨t1, t2⟩ := An.inB_of ht
      rw [ht] at CT
      have CP := Lib.hid (CP.out true)
      rw [Cd.cd_t] at CP
      rw [Cd.cd_t, Cd.vl_t]
      have CS := Lib.hid (fun W (hb : Below w.heap.size w W) => slideOf_any W b cap xs (P.out W hb) hcap o t)
      have MK := Lib.hid (fun W (hb : Below w.heap.size w W) a5 n5 cap5 (h : Sl W (.slice a5 n5 cap5) (An.es xs (xs.length - 1))) => slide_mk W b 0 cap xs (P.out W hb) o t t1 t2 a5 n5 cap5 h)
      clear h HV P o P0 ht HOW t1 t2
      cases hs : decide (An.st xs t < (An.la xs).toNat) with
      | true =>
        obtain ⟨-, r2, r3, -⟩ := An.sR_s (of_decide_eq_true hs)
        rw [r3]
        clear r2 r3
        go_enter Tryz.func6, Tryz.ntmps6
        go_wp2_with fail
        refine (CT.out _).mono ?_
        rintro e w9 ⟨rfl, rfl⟩
        go_wp2_with fail
        refine (CP.out _ BR.out).mono ?_
        rintro e w1 ⟨rfl, b1⟩
        have B1 := Lib.hid (b1)
        clear b1
        go_wp2_with fail
        refine (CS.out _ B1.out).mono ?_
        rintro e w2 ⟨u, rfl, o2, b2⟩
        obtain ⟨a5, cap5, hu⟩ := o2.sl.form
        subst hu
        have B2 := Lib.hid (bt B1.out b2)
        have SD := Lib.hid (MK.out _ B2.out a5 _ cap5 o2.sl)
        clear b2 o2
        generalize (An.es xs (xs.length - 1)).length = n5 at *
        go_wp2_with fail
        refine ((hs ▸ stop_any _ _ _ _ _ _ _ _ xs t SD.out)).mono ?_
        rintro e w3 ⟨rfl, b3⟩
        have B3 := Lib.hid (bt B2.out b3)
        clear b3
        go_wp2_with fail
        go_ret2
        exact ⟨rfl, B3.out⟩
      | false =>
        obtain ⟨-, r2, r3, -⟩ := An.sR_n (of_decide_eq_false hs)
        rw [r3, r2]
        clear r2 r3
        go_enter Tryz.func6, Tryz.ntmps6
        go_wp2_with fail
        refine (CT.out _).mono ?_
        rintro e w9 ⟨rfl, rfl⟩
        go_wp2_with fail
        refine (CP.out _ BR.out).mono ?_
        rintro e w1 ⟨rfl, b1⟩
        have B1 := Lib.hid (b1)
        clear b1
        go_wp2_with fail
        refine (CS.out _ B1.out).mono ?_
        rintro e w2 ⟨u, rfl, o2, b2⟩
        obtain ⟨a5, cap5, hu⟩ := o2.sl.form
        subst hu
        have B2 := Lib.hid (bt B1.out b2)
        have SD := Lib.hid (MK.out _ B2.out a5 _ cap5 o2.sl)
        clear b2 o2
        generalize (An.es xs (xs.length - 1)).length = n5 at *
        go_wp2_with fail
        refine ((hs ▸ stop_any _ _ _ _ _ _ _ _ xs t SD.out)).mono ?_
        rintro e w3 ⟨rfl, b3⟩
        have B3 := Lib.hid (bt B2.out b3)
        clear b3
        go_wp2_with fail
        go_ret2
        exact ⟨rfl, B3.out⟩
set_option maxHeartbeats 3200000 in
theorem implSpeedAt_any (w : World) (v : Value) (xs : List Pth) (t : Int) (d : Int) (ho : PpAt w v xs) (hl : xs.length ≤ 1048576) :
    Calls Tryz.prog 10 #[v, .int .i64 t, .int .i64 d] w fun e w' => e = .returned (.tuple #[.int .i64 (Cd.vl (An.okB xs) (An.tg t && An.al xs d) (An.vS xs t d)), .int .i64 (Cd.cd (An.okB xs) (An.tg t && An.al xs d) 0)]) ∧ Below w.heap.size w w' := by
  have hv := ho.sl
  have HOW := Lib.hid ho
  obtain ⟨a, cap, rfl⟩ := hv.form
  clear ho
  have CP := Lib.hid (fun q W (hb : Below w.heap.size w W) => pathCode_any W _ xs q (hv.below hb) hl)
  have HV := Lib.hid hv
  have BR := Lib.hid (Below.refl w.heap.size w)
  have CX := Lib.hid (fun W (hb : Below w.heap.size w W) => isAlong_any W _ xs d (hv.below hb) hl)
  have CT := Lib.hid (fun W => isTangent_any t W)
  clear hv
  cases ht : An.tg t with
  | false =>
    rw [ht] at CT
    rw [Bool.false_and]
    have CP := Lib.hid (CP.out false)
    clear CX HV
    cases h : An.okB xs with
    | false =>
      rw [h] at CP
      rw [Cd.cd_f] at CP
      rw [Cd.cd_f, Cd.vl_f]
      clear h ht
      go_enter Tryz.func10, Tryz.ntmps10
      go_wp2_with fail
      refine (CT.out _).mono ?_
      rintro e w9 ⟨rfl, rfl⟩
      go_wp2_with fail
      refine (CP.out _ BR.out).mono ?_
      rintro e w1 ⟨rfl, b1⟩
      have B1 := Lib.hid (b1)
      clear b1
      go_wp2_with fail
      go_ret2
      exact ⟨rfl, B1.out⟩
    | true =>
      rw [h] at CP
      rw [Cd.cd_tf] at CP
      rw [Cd.cd_tf, Cd.vl_tf]
      clear h ht
      go_enter Tryz.func10, Tryz.ntmps10
      go_wp2_with fail
      refine (CT.out _).mono ?_
      rintro e w9 ⟨rfl, rfl⟩
      go_wp2_with fail
      refine (CP.out _ BR.out).mono ?_
      rintro e w1 ⟨rfl, b1⟩
      have B1 := Lib.hid (b1)
      clear b1
      go_wp2_with fail
      go_ret2
      exact ⟨rfl, B1.out⟩
  | true =>
    rw [ht] at CT
    rw [Bool.true_and]
    cases h : An.okB xs with
    | false =>
      rw [h] at CP
      rw [Cd.cd_f, Cd.vl_f]
      simp only [Cd.cd_f] at CP
      clear h HV ht
      generalize An.alP xs d = q at *
      go_enter Tryz.func10, Tryz.ntmps10
      go_wp2_with fail
      refine (CT.out _).mono ?_
      rintro e w9 ⟨rfl, rfl⟩
      go_wp2_with fail
      refine (CX.out _ BR.out).mono ?_
      rintro e w9 ⟨rfl, rfl⟩
      go_wp2_with fail
      refine (CP.out _ _ BR.out).mono ?_
      rintro e w1 ⟨rfl, b1⟩
      have B1 := Lib.hid (b1)
      clear b1
      go_wp2_with fail
      go_ret2
      exact ⟨rfl, B1.out⟩
    | true =>
      have o := An.okB_ok h
      have n2 := o.n2
      have n24 := o.n24
      obtain ⟨b, cap1, hn, hcap, P0⟩ := HOW.out.pts (by omega)
      simp only [Value.slice.injEq] at hn
      obtain ⟨rfl, -, rfl⟩ := hn
      have P := Lib.hid (fun W (hb : Below w.heap.size w W) => PtAt.below P0 hb)
      rw [h] at CP
      rw [An.alP_ok d h] at CX
      cases hk : An.al xs d with
      | false =>
        rw [hk] at CX
        rw [Cd.cd_tf, Cd.vl_tf]
        have CP := Lib.hid (CP.out false)
        rw [Cd.cd_tf] at CP
        clear hk h HV P o P0 ht
        go_enter Tryz.func10, Tryz.ntmps10
        go_wp2_with fail
        refine (CT.out _).mono ?_
        rintro e w9 ⟨rfl, rfl⟩
        go_wp2_with fail
        refine (CX.out _ BR.out).mono ?_
        rintro e w9 ⟨rfl, rfl⟩
        go_wp2_with fail
        refine (CP.out _ BR.out).mono ?_
        rintro e w1 ⟨rfl, b1⟩
        have B1 := Lib.hid (b1)
        clear b1
        go_wp2_with fail
        go_ret2
        exact ⟨rfl, B1.out⟩
      | true =>
        obtain ⟨k1, k2⟩ := An.inB_of hk
        obtain ⟨t1, t2⟩ := An.inB_of ht
        have hla := o.last
        rw [hk] at CX
        rw [Cd.cd_t, Cd.vl_t]
        have CP := Lib.hid (CP.out true)
        rw [Cd.cd_t] at CP
        have CS := Lib.hid (fun W (hb : Below w.heap.size w W) => slideOf_any W b cap xs (P.out W hb) hcap o t)
        have MK := Lib.hid (fun W (hb : Below w.heap.size w W) a5 n5 cap5 (h : Sl W (.slice a5 n5 cap5) (An.es xs (xs.length - 1))) => slide_mk W b 0 cap xs (P.out W hb) o t t1 t2 a5 n5 cap5 h)
        have k1d := k1
        have k2d := k2
        have EV : Hid (An.vS xs t d = if An.sB xs t d = true then 0 else An.spd (An.hi xs t d)) := Lib.hid rfl
        rw [EV.out]
        have HN := Lib.hid (fun h => An.hi_nn o (t := t) k1d k2d h)
        clear h HV P o P0 ht HOW t1 t2 hk hla EV k1 k2 hcap
        by_cases hs : An.st xs t < (An.la xs).toNat
        · obtain ⟨-, r2, -, r4⟩ := An.sR_s hs
          have R4 := Lib.hid (r4 d)
          have R2 := Lib.hid r2
          have hst : decide (An.st xs t < (An.la xs).toNat) = true := decide_eq_true hs
          clear hs r2 r4
          by_cases hsd : (An.st xs t : Int) + 1 ≤ d
          · have hb : Hid (An.sB xs t d = true) := Lib.hid (by rw [R4.out]; exact decide_eq_true hsd)
            rw [if_pos hb.out]
            have hsd1 : An.sV xs t ≤ d := by rw [R2.out]; exact hsd
            clear R4 hb hsd HN
            go_enter Tryz.func10, Tryz.ntmps10
            go_wp2_with fail
            refine (CT.out _).mono ?_
            rintro e w9 ⟨rfl, rfl⟩
            go_wp2_with fail
            refine (CX.out _ BR.out).mono ?_
            rintro e w9 ⟨rfl, rfl⟩
            go_wp2_with fail
            refine (CP.out _ BR.out).mono ?_
            rintro e w1 ⟨rfl, b1⟩
            have B1 := Lib.hid (b1)
            clear b1
            go_wp2_with fail
            refine (CS.out _ B1.out).mono ?_
            rintro e w2 ⟨u, rfl, o2, b2⟩
            obtain ⟨a5, cap5, hu⟩ := o2.sl.form
            subst hu
            have B2 := Lib.hid (bt B1.out b2)
            have SD := Lib.hid (MK.out _ B2.out a5 _ cap5 o2.sl)
            clear b2 o2
            generalize (An.es xs (xs.length - 1)).length = n5 at *
            have SW := Whole.new w2 52 #[.iface 59 (.agg #[.int .i64 (1000 * (An.nd xs 0).he), .int .i64 t]), .iface 57 (.slice (some ⟨b, 0, none⟩) xs.length cap), .slice a5 n5 cap5]
            have B4 := Lib.hid (bt B2.out ((Below.refl w2.heap.size w2).alloc (Nat.le_refl _) (.cells #[.iface 59 (.agg #[.int .i64 (1000 * (An.nd xs 0).he), .int .i64 t]), .iface 57 (.slice (some ⟨b, 0, none⟩) xs.length cap), .slice a5 n5 cap5] 52)))
            have SD4 := Lib.hid (SD.out.below ((Below.refl w2.heap.size w2).alloc (Nat.le_refl _) (.cells #[.iface 59 (.agg #[.int .i64 (1000 * (An.nd xs 0).he), .int .i64 t]), .iface 57 (.slice (some ⟨b, 0, none⟩) xs.length cap), .slice a5 n5 cap5] 52)))
            have KW := Lib.hid (fun W (hb : Below (w2.alloc (.cells #[.iface 59 (.agg #[.int .i64 (1000 * (An.nd xs 0).he), .int .i64 t]), .iface 57 (.slice (some ⟨b, 0, none⟩) xs.length cap), .slice a5 n5 cap5] 52)).heap.size (w2.alloc (.cells #[.iface 59 (.agg #[.int .i64 (1000 * (An.nd xs 0).he), .int .i64 t]), .iface 57 (.slice (some ⟨b, 0, none⟩) xs.length cap), .slice a5 n5 cap5] 52)) W) => (⟨(SW.all hb).at_ 0, (SW.all hb).at_ 1, (SW.all hb).at_ 2⟩ : W.cell? ⟨w2.heap.size, 0, none⟩ = some (.iface 59 (.agg #[.int .i64 (1000 * (An.nd xs 0).he), .int .i64 t])) ∧ W.cell? ⟨w2.heap.size, 1, none⟩ = some (.iface 57 (.slice (some ⟨b, 0, none⟩) xs.length cap)) ∧ W.cell? ⟨w2.heap.size, 2, none⟩ = some (.slice a5 n5 cap5)))
            obtain ⟨k0, k1, k2⟩ := KW.out _ (Below.refl _ _)
            clear SW
            go_wp2_with fail
            have CST := stop_any _ _ _ _ _ _ _ _ xs t SD4.out
            rw [hst] at CST
            refine CST.mono ?_
            rintro e w5 ⟨rfl, b5⟩
            have B5 := Lib.hid (bt B4.out b5)
            have SD5 := Lib.hid (SD4.out.below b5)
            obtain ⟨j0, j1, j2⟩ := KW.out _ b5
            clear b5 CST
            go_wp2_with fail
            go_ret2
            exact ⟨rfl, B5.out⟩
          · have hb : Hid (An.sB xs t d = false) := Lib.hid (by rw [R4.out]; exact decide_eq_false hsd)
            rw [if_neg (by rw [hb.out]; decide)]
            have hsd1 : ¬ An.sV xs t ≤ d := by rw [R2.out]; exact hsd
            clear R4 hsd
            go_enter Tryz.func10, Tryz.ntmps10
            go_wp2_with fail
            refine (CT.out _).mono ?_
            rintro e w9 ⟨rfl, rfl⟩
            go_wp2_with fail
            refine (CX.out _ BR.out).mono ?_
            rintro e w9 ⟨rfl, rfl⟩
            go_wp2_with fail
            refine (CP.out _ BR.out).mono ?_
            rintro e w1 ⟨rfl, b1⟩
            have B1 := Lib.hid (b1)
            clear b1
            go_wp2_with fail
            refine (CS.out _ B1.out).mono ?_
            rintro e w2 ⟨u, rfl, o2, b2⟩
            obtain ⟨a5, cap5, hu⟩ := o2.sl.form
            subst hu
            have B2 := Lib.hid (bt B1.out b2)
            have SD := Lib.hid (MK.out _ B2.out a5 _ cap5 o2.sl)
            clear b2 o2
            generalize (An.es xs (xs.length - 1)).length = n5 at *
            have SW := Whole.new w2 52 #[.iface 59 (.agg #[.int .i64 (1000 * (An.nd xs 0).he), .int .i64 t]), .iface 57 (.slice (some ⟨b, 0, none⟩) xs.length cap), .slice a5 n5 cap5]
            have B4 := Lib.hid (bt B2.out ((Below.refl w2.heap.size w2).alloc (Nat.le_refl _) (.cells #[.iface 59 (.agg #[.int .i64 (1000 * (An.nd xs 0).he), .int .i64 t]), .iface 57 (.slice (some ⟨b, 0, none⟩) xs.length cap), .slice a5 n5 cap5] 52)))
            have SD4 := Lib.hid (SD.out.below ((Below.refl w2.heap.size w2).alloc (Nat.le_refl _) (.cells #[.iface 59 (.agg #[.int .i64 (1000 * (An.nd xs 0).he), .int .i64 t]), .iface 57 (.slice (some ⟨b, 0, none⟩) xs.length cap), .slice a5 n5 cap5] 52)))
            have KW := Lib.hid (fun W (hb : Below (w2.alloc (.cells #[.iface 59 (.agg #[.int .i64 (1000 * (An.nd xs 0).he), .int .i64 t]), .iface 57 (.slice (some ⟨b, 0, none⟩) xs.length cap), .slice a5 n5 cap5] 52)).heap.size (w2.alloc (.cells #[.iface 59 (.agg #[.int .i64 (1000 * (An.nd xs 0).he), .int .i64 t]), .iface 57 (.slice (some ⟨b, 0, none⟩) xs.length cap), .slice a5 n5 cap5] 52)) W) => (⟨(SW.all hb).at_ 0, (SW.all hb).at_ 1, (SW.all hb).at_ 2⟩ : W.cell? ⟨w2.heap.size, 0, none⟩ = some (.iface 59 (.agg #[.int .i64 (1000 * (An.nd xs 0).he), .int .i64 t])) ∧ W.cell? ⟨w2.heap.size, 1, none⟩ = some (.iface 57 (.slice (some ⟨b, 0, none⟩) xs.length cap)) ∧ W.cell? ⟨w2.heap.size, 2, none⟩ = some (.slice a5 n5 cap5)))
            obtain ⟨k0, k1, k2⟩ := KW.out _ (Below.refl _ _)
            clear SW
            go_wp2_with fail
            have CST := stop_any _ _ _ _ _ _ _ _ xs t SD4.out
            rw [hst] at CST
            refine CST.mono ?_
            rintro e w5 ⟨rfl, b5⟩
            have B5 := Lib.hid (bt B4.out b5)
            have SD5 := Lib.hid (SD4.out.below b5)
            obtain ⟨j0, j1, j2⟩ := KW.out _ b5
            clear b5 CST
            go_wp2_with fail
            refine (speedAt_any _ _ _ _ _ _ _ _ xs t SD5.out d k1d k2d (HN.out hb.out)).mono ?_
            rintro e w6 ⟨rfl, b6⟩
            have B6 := Lib.hid (bt B5.out b6)
            clear b6
            go_wp2_with fail
            go_ret2
            exact ⟨rfl, B6.out⟩
        · obtain ⟨-, -, -, r4⟩ := An.sR_n hs
          have hb := Lib.hid (r4 d)
          have hst : decide (An.st xs t < (An.la xs).toNat) = false := decide_eq_false hs
          clear hs r4
          rw [if_neg (by rw [hb.out]; decide)]
          go_enter Tryz.func10, Tryz.ntmps10
          go_wp2_with fail
          refine (CT.out _).mono ?_
          rintro e w9 ⟨rfl, rfl⟩
          go_wp2_with fail
          refine (CX.out _ BR.out).mono ?_
          rintro e w9 ⟨rfl, rfl⟩
          go_wp2_with fail
          refine (CP.out _ BR.out).mono ?_
          rintro e w1 ⟨rfl, b1⟩
          have B1 := Lib.hid (b1)
          clear b1
          go_wp2_with fail
          refine (CS.out _ B1.out).mono ?_
          rintro e w2 ⟨u, rfl, o2, b2⟩
          obtain ⟨a5, cap5, hu⟩ := o2.sl.form
          subst hu
          have B2 := Lib.hid (bt B1.out b2)
          have SD := Lib.hid (MK.out _ B2.out a5 _ cap5 o2.sl)
          clear b2 o2
          generalize (An.es xs (xs.length - 1)).length = n5 at *
          have SW := Whole.new w2 52 #[.iface 59 (.agg #[.int .i64 (1000 * (An.nd xs 0).he), .int .i64 t]), .iface 57 (.slice (some ⟨b, 0, none⟩) xs.length cap), .slice a5 n5 cap5]
          have B4 := Lib.hid (bt B2.out ((Below.refl w2.heap.size w2).alloc (Nat.le_refl _) (.cells #[.iface 59 (.agg #[.int .i64 (1000 * (An.nd xs 0).he), .int .i64 t]), .iface 57 (.slice (some ⟨b, 0, none⟩) xs.length cap), .slice a5 n5 cap5] 52)))
          have SD4 := Lib.hid (SD.out.below ((Below.refl w2.heap.size w2).alloc (Nat.le_refl _) (.cells #[.iface 59 (.agg #[.int .i64 (1000 * (An.nd xs 0).he), .int .i64 t]), .iface 57 (.slice (some ⟨b, 0, none⟩) xs.length cap), .slice a5 n5 cap5] 52)))
          have KW := Lib.hid (fun W (hb : Below (w2.alloc (.cells #[.iface 59 (.agg #[.int .i64 (1000 * (An.nd xs 0).he), .int .i64 t]), .iface 57 (.slice (some ⟨b, 0, none⟩) xs.length cap), .slice a5 n5 cap5] 52)).heap.size (w2.alloc (.cells #[.iface 59 (.agg #[.int .i64 (1000 * (An.nd xs 0).he), .int .i64 t]), .iface 57 (.slice (some ⟨b, 0, none⟩) xs.length cap), .slice a5 n5 cap5] 52)) W) => (⟨(SW.all hb).at_ 0, (SW.all hb).at_ 1, (SW.all hb).at_ 2⟩ : W.cell? ⟨w2.heap.size, 0, none⟩ = some (.iface 59 (.agg #[.int .i64 (1000 * (An.nd xs 0).he), .int .i64 t])) ∧ W.cell? ⟨w2.heap.size, 1, none⟩ = some (.iface 57 (.slice (some ⟨b, 0, none⟩) xs.length cap)) ∧ W.cell? ⟨w2.heap.size, 2, none⟩ = some (.slice a5 n5 cap5)))
          obtain ⟨k0, k1, k2⟩ := KW.out _ (Below.refl _ _)
          clear SW
          go_wp2_with fail
          have CST := stop_any _ _ _ _ _ _ _ _ xs t SD4.out
          rw [hst] at CST
          refine CST.mono ?_
          rintro e w5 ⟨rfl, b5⟩
          have B5 := Lib.hid (bt B4.out b5)
          have SD5 := Lib.hid (SD4.out.below b5)
          obtain ⟨j0, j1, j2⟩ := KW.out _ b5
          clear b5 CST
          go_wp2_with fail
          refine (speedAt_any _ _ _ _ _ _ _ _ xs t SD5.out d k1d k2d (HN.out hb.out)).mono ?_
          rintro e w6 ⟨rfl, b6⟩
          have B6 := Lib.hid (bt B5.out b6)
          clear b6
          go_wp2_with fail
          go_ret2
          exact ⟨rfl, B6.out⟩
end Go.Proofs.YtmieckchppfogaaGreatDoor
