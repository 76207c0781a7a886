/-
  The tangent for a stop, by the program (chapter 14). No condition of its own. (Written by wip/gen/genago.py.)
-/
import Derived.Test.YtmieckchppfogaaAgL
import Derived.Deep.QuietTactic
import Derived.BigQuiet
namespace Go.Proofs.Ytmieckchppfogaa
open Go.RowKit Go.Shelf
set_option linter.unusedVariables false
set_option maxRecDepth 100000

set_option maxHeartbeats 1600000 in
theorem stopsBy_any (w : World) (b cap g1 g2 : Nat) (xs : List Pth) (P : PtAt w b 0 xs) (hcap : xs.length ≤ cap) (o : An.Ok xs) (d : Int) (i : Nat) (hi : i < 3000) (k1 : w.cell? ⟨g1, 0, none⟩ = some (.slice (some ⟨b, 0, none⟩) xs.length cap)) (k2 : w.cell? ⟨g2, 0, none⟩ = some (.int .i64 d)) :
    Calls Try.prog 75 (#[.int .i64 (i : Int)] ++ #[.pointer (some ⟨g1, 0, none⟩), .pointer (some ⟨g2, 0, none⟩)]) w fun e w' => e = .returned (.bool (An.sB xs ((i : Int) + 1) d)) ∧ Below w.heap.size w w' := by
  have CS := Lib.hid (slideOf_any w b cap xs P hcap o ((i : Int) + 1))
  have MK := Lib.hid (fun W (hb : Below w.heap.size w W) a5 n5 cap5 (h : Sl W (.slice a5 n5 cap5) (An.es xs (xs.length - 1))) => slide_mk W b 0 cap xs (P.below hb) o ((i : Int) + 1) (by omega) (by omega) a5 n5 cap5 h)
  have l2 := World.block_lt_of_cell? w _ k2
  have K2 := Lib.hid (fun W (hb : Below w.heap.size w W) => ((hb.cell (p := ⟨g2, 0, none⟩) l2).trans k2 : W.cell? ⟨g2, 0, none⟩ = some (.int .i64 d)))
  have hti : (0 : Int) ≤ (i : Int) + 1 := by omega
  clear P o l2
  by_cases hs : An.st xs ((i : Int) + 1) < (An.la xs).toNat
  · obtain ⟨-, r2, -, r4⟩ := An.sR_s hs
    have R4 := Lib.hid (r4 d)
    have hst : decide (An.st xs ((i : Int) + 1) < (An.la xs).toNat) = true := decide_eq_true hs
    have R2 := Lib.hid r2
    clear hs r2 r4
    by_cases hsd : (An.st xs ((i : Int) + 1) : Int) + 1 ≤ d
    · have hb : Hid (An.sB xs ((i : Int) + 1) d = true) := Lib.hid (by rw [R4.out]; exact decide_eq_true hsd)
      have hsd1 : An.sV xs ((i : Int) + 1) ≤ d := by rw [R2.out]; exact hsd
      clear R4 hsd R2
      go_enter Try.func75, Try.ntmps75
      go_wp2_with fail
      refine CS.out.mono ?_
      rintro e w2 ⟨u, rfl, o2, b2⟩
      obtain ⟨a5, cap5, hu⟩ := o2.sl.form
      subst hu
      have B2 := Lib.hid b2
      have SD := Lib.hid (MK.out _ B2.out a5 _ cap5 o2.sl)
      clear b2 o2
      generalize (An.es xs (xs.length - 1)).length = n5 at *
      go_wp2_with fail
      have CST := stop_any _ _ _ _ _ _ _ _ xs _ SD.out
      rw [hst] at CST
      refine CST.mono ?_
      rintro e w3 ⟨rfl, b3⟩
      have B3 := Lib.hid (bt B2.out b3)
      clear b3 CST
      have kd := K2.out _ B3.out
      go_wp2_with fail
      go_ret
      exact ⟨ret_bool hb.out.symm, B3.out⟩
    · have hb : Hid (An.sB xs ((i : Int) + 1) d = false) := Lib.hid (by rw [R4.out]; exact decide_eq_false hsd)
      have hsd1 : ¬ An.sV xs ((i : Int) + 1) ≤ d := by rw [R2.out]; exact hsd
      clear R4 hsd R2
      go_enter Try.func75, Try.ntmps75
      go_wp2_with fail
      refine CS.out.mono ?_
      rintro e w2 ⟨u, rfl, o2, b2⟩
      obtain ⟨a5, cap5, hu⟩ := o2.sl.form
      subst hu
      have B2 := Lib.hid b2
      have SD := Lib.hid (MK.out _ B2.out a5 _ cap5 o2.sl)
      clear b2 o2
      generalize (An.es xs (xs.length - 1)).length = n5 at *
      go_wp2_with fail
      have CST := stop_any _ _ _ _ _ _ _ _ xs _ SD.out
      rw [hst] at CST
      refine CST.mono ?_
      rintro e w3 ⟨rfl, b3⟩
      have B3 := Lib.hid (bt B2.out b3)
      clear b3 CST
      have kd := K2.out _ B3.out
      go_wp2_with fail
      go_ret
      exact ⟨ret_bool ((decide_eq_false (by omega)).trans hb.out.symm), B3.out⟩
  · obtain ⟨-, -, -, r4⟩ := An.sR_n hs
    have hb := Lib.hid (r4 d)
    have hst : decide (An.st xs ((i : Int) + 1) < (An.la xs).toNat) = false := decide_eq_false hs
    clear hs r4
    go_enter Try.func75, Try.ntmps75
    go_wp2_with fail
    refine CS.out.mono ?_
    rintro e w2 ⟨u, rfl, o2, b2⟩
    obtain ⟨a5, cap5, hu⟩ := o2.sl.form
    subst hu
    have B2 := Lib.hid b2
    have SD := Lib.hid (MK.out _ B2.out a5 _ cap5 o2.sl)
    clear b2 o2
    generalize (An.es xs (xs.length - 1)).length = n5 at *
    go_wp2_with fail
    have CST := stop_any _ _ _ _ _ _ _ _ xs _ SD.out
    rw [hst] at CST
    refine CST.mono ?_
    rintro e w3 ⟨rfl, b3⟩
    have B3 := Lib.hid (bt B2.out b3)
    clear b3 CST
    have kd := K2.out _ B3.out
    go_wp2_with fail
    go_ret
    exact ⟨ret_bool hb.out.symm, B3.out⟩
set_option maxHeartbeats 3200000 in
theorem implTangentFor_any (w : World) (v : Value) (xs : List Pth) (d : Int) (ho : PpAt w v xs) (hl : xs.length ≤ 1048576) :
    Calls Try.prog 33 #[v, .int .i64 d] w fun e w' => e = .returned (.tuple #[.int .i64 (Cd.vl (An.okB xs) (An.al xs d) (An.tV xs d)), .int .i64 (Cd.cd (An.okB xs) (An.al xs d) (An.tC xs d 3))]) ∧ Below w.heap.size w w' := by
  have hv := ho.sl
  have HOW := Lib.hid ho
  obtain ⟨a, cap, rfl⟩ := hv.form
  clear ho
  have CP := Lib.hid (fun q W (hb : Below w.heap.size w W) => pathCode_any W _ xs q (hv.below hb) hl)
  have HV := Lib.hid hv
  have BR := Lib.hid (Below.refl w.heap.size w)
  have CX := Lib.hid (fun W (hb : Below w.heap.size w W) => isAlong_any W _ xs d (hv.below hb) hl)
  clear hv
  have HB : Hid (Below w.heap.size w ((w.alloc (.cells #[.slice a xs.length cap] 25)).alloc (.cells #[.int .i64 d] 2))) := Lib.hid (((Below.refl w.heap.size w).alloc (Nat.le_refl _) _).alloc (by simp) _)
  have KK : Hid (∀ W, Below ((w.alloc (.cells #[.slice a xs.length cap] 25)).alloc (.cells #[.int .i64 d] 2)).heap.size ((w.alloc (.cells #[.slice a xs.length cap] 25)).alloc (.cells #[.int .i64 d] 2)) W → W.cell? ⟨w.heap.size, 0, none⟩ = some (.slice a xs.length cap) ∧ W.cell? ⟨w.heap.size + 1, 0, none⟩ = some (.int .i64 d)) := Lib.hid (fun W hb => by
    have K1 : Whole ((w.alloc (.cells #[.slice a xs.length cap] 25)).alloc (.cells #[.int .i64 d] 2)) w.heap.size 25 #[.slice a xs.length cap] := Whole.alloc (Whole.new _ _ _) _
    have K2 : Whole ((w.alloc (.cells #[.slice a xs.length cap] 25)).alloc (.cells #[.int .i64 d] 2)) (w.heap.size + 1) 2 #[.int .i64 d] := by
      have := Whole.new (w.alloc (.cells #[.slice a xs.length cap] 25)) 2 #[.int .i64 d]
      simpa using this
    exact ⟨(K1.all hb).at_ 0, (K2.all hb).at_ 0⟩)
  obtain ⟨k1, k2⟩ := KK.out _ (Below.refl _ _)
  cases h : An.okB xs with
  | false =>
    rw [h] at CP
    rw [Cd.cd_f, Cd.vl_f]
    simp only [Cd.cd_f] at CP
    clear h HV HOW
    generalize An.alP xs d = q at *
    go_enter Try.func33, Try.ntmps33
    go_wp2_with fail
    go_region_held3 (fun w' => w'.cell? ⟨w.heap.size, 0, none⟩ = some (.slice a xs.length cap) ∧ w'.cell? ⟨w.heap.size + 1, 0, none⟩ = some (.int .i64 d)) (go_keep)
      (first
        | (go_at_call 60; refine (CX.out _ (bt HB.out (below_drewW _ 1))).mono ?_; rintro e w9 ⟨rfl, rfl⟩)
        | (go_at_call 55; refine (CP.out _ _ (bt HB.out (below_drewW _ 1))).mono ?_; rintro e wB ⟨rfl, bB⟩; have bB0 := bt (below_drewW _ 1) bB; obtain ⟨b0, b1⟩ := KK.out wB bB0))
    all_goals (
      have B1 := Lib.hid (bt HB.out bB0)
      have BB := Lib.hid bB0
      clear bB bB0
      go_wp2_with fail
      go_ret2
      exact ⟨rfl, B1.out⟩)
  | true =>
    have o := An.okB_ok h
    have n2 := o.n2
    have n24 := o.n24
    obtain ⟨b, cap1, hn, hcap, P0⟩ := HOW.out.pts (by omega)
    simp only [Value.slice.injEq] at hn
    obtain ⟨rfl, -, rfl⟩ := hn
    have P := Lib.hid (fun W (hb : Below w.heap.size w W) => PtAt.below P0 hb)
    rw [h] at CP
    rw [An.alP_ok d h] at CX
    cases hk : An.al xs d with
    | false =>
      rw [hk] at CX
      rw [Cd.cd_tf, Cd.vl_tf]
      have CP := Lib.hid (CP.out false)
      rw [Cd.cd_tf] at CP
      clear h HV P o P0 hk HOW hcap
      go_enter Try.func33, Try.ntmps33
      go_wp2_with fail
      go_region_held3 (fun w' => w'.cell? ⟨w.heap.size, 0, none⟩ = some (.slice (some ⟨b, 0, none⟩) xs.length cap) ∧ w'.cell? ⟨w.heap.size + 1, 0, none⟩ = some (.int .i64 d)) (go_keep)
        (first
          | (go_at_call 60; refine (CX.out _ (bt HB.out (below_drewW _ 1))).mono ?_; rintro e w9 ⟨rfl, rfl⟩)
          | (go_at_call 55; refine (CP.out _ (bt HB.out (below_drewW _ 1))).mono ?_; rintro e wB ⟨rfl, bB⟩; have bB0 := bt (below_drewW _ 1) bB; obtain ⟨b0, b1⟩ := KK.out wB bB0))
      all_goals (
        have B1 := Lib.hid (bt HB.out bB0)
        have BB := Lib.hid bB0
        clear bB bB0
        go_wp2_with fail
        go_ret2
        exact ⟨rfl, B1.out⟩)
    | true =>
      rw [hk] at CX
      rw [Cd.cd_t, Cd.vl_t]
      have CP := Lib.hid (CP.out true)
      rw [Cd.cd_t] at CP
      have SE := Lib.hid (fun W (hb : Below ((w.alloc (.cells #[.slice (some ⟨b, 0, none⟩) xs.length cap] 25)).alloc (.cells #[.int .i64 d] 2)).heap.size ((w.alloc (.cells #[.slice (some ⟨b, 0, none⟩) xs.length cap] 25)).alloc (.cells #[.int .i64 d] 2)) W) => searchV_any 75 #[.pointer (some ⟨w.heap.size, 0, none⟩), .pointer (some ⟨w.heap.size + 1, 0, none⟩)] (enters_of Try.func75 (by kernel_rfl) rfl) 3000 (fun i => An.sB xs ((i : Int) + 1) d) W (by decide)
        (fun V i hV hi => stopsBy_any V b cap w.heap.size (w.heap.size + 1) xs (P.out V (bt HB.out (bt hb hV))) hcap o d i hi (KK.out V (bt hb hV)).1 (KK.out V (bt hb hV)).2)
        (fun a c hac _ ha => An.sB_steep (by omega) ha))
      have HE := Lib.hid (fun k (hk : k ≤ 3000) (h1 : ∀ i : Nat, i < k → An.sB xs ((i : Int) + 1) d = false) (h2 : k < 3000 → An.sB xs ((k : Int) + 1) d = true) => An.tf_eq hk h1 h2)
      have EV : Hid (An.tV xs d = if An.tf xs d < 3000 then (An.tf xs d : Int) + 1 else 0) := Lib.hid rfl
      have EC : Hid (An.tC xs d 3 = if An.tf xs d < 3000 then 0 else 3) := Lib.hid rfl
      rw [show ((3000 : Nat) : Int) = 3000 from rfl] at SE
      clear h HV P o P0 hk HOW hcap
      go_enter Try.func33, Try.ntmps33
      go_wp2_with fail
      go_region_held3 (fun w' => w'.cell? ⟨w.heap.size, 0, none⟩ = some (.slice (some ⟨b, 0, none⟩) xs.length cap) ∧ w'.cell? ⟨w.heap.size + 1, 0, none⟩ = some (.int .i64 d)) (go_keep)
        (first
          | (go_at_call 60; refine (CX.out _ (bt HB.out (below_drewW _ 1))).mono ?_; rintro e w9 ⟨rfl, rfl⟩)
          | (go_at_call 55; refine (CP.out _ (bt HB.out (below_drewW _ 1))).mono ?_; rintro e wB ⟨rfl, bB⟩; have bB0 := bt (below_drewW _ 1) bB; obtain ⟨b0, b1⟩ := KK.out wB bB0))
      all_goals (
        have B1 := Lib.hid (bt HB.out bB0)
        have BB := Lib.hid bB0
        clear bB bB0
        go_wp2_with fail
        refine (SE.out _ BB.out).mono ?_
        rintro e w3 ⟨k, hk, rfl, h1, h2, b3⟩
        have B3 := Lib.hid (bt B1.out b3)
        have TF := Lib.hid (HE.out k hk h1 (fun h => h2 k (Nat.le_refl _) h))
        have hkz : (k : Int) ≤ 3000 := by omega
        rw [TF.out] at EV EC
        clear SE HE h1 h2 b3 TF BB
        obtain ⟨s, hs⟩ : ∃ s : Int, 1 + (k : Int) = s := ⟨_, rfl⟩
        have hs1 : s ≤ 3001 := by omega
        have hs2 : 1 ≤ s := by omega
        by_cases h3 : k < 3000
        · have hz : decide ((3000 : Int) < s) = false := decide_eq_false (by omega)
          have EV2 : Hid (An.tV xs d = s) := Lib.hid (by rw [EV.out, if_pos h3]; omega)
          have EC2 : Hid (An.tC xs d 3 = 0) := Lib.hid (by rw [EC.out, if_pos h3])
          clear EV EC h3 hk
          go_wp2_with fail
          go_ret2
          exact ⟨ret_ii EV2.out.symm EC2.out.symm, B3.out⟩
        · have hz : (3000 : Int) < s := by omega
          have EV2 : Hid (An.tV xs d = 0) := Lib.hid (by rw [EV.out, if_neg h3])
          have EC2 : Hid (An.tC xs d 3 = 3) := Lib.hid (by rw [EC.out, if_neg h3])
          clear EV EC h3 hk
          go_wp2_with fail
          go_ret2
          exact ⟨ret_ii EV2.out.symm EC2.out.symm, B3.out⟩)
end Go.Proofs.Ytmieckchppfogaa
