/-
  The mean class of the tests of some hours, by the model and by the program. The condition of the program's side: impl.testRules holds what the program's text lays.
-/
import Derived.Test.YteileaeeiejonaaDoorTkD
import Derived.Test.YteileaeeiejonaaDoorTkC
import Derived.Test.YteileaeeiejonaaDoorIntG
namespace Go.Proofs.YteileaeeiejonaaDoor
open Go.RowKit Go.Shelf
set_option linter.unusedVariables false
set_option maxRecDepth 100000

namespace Tq
/-- are there tests of these hours? -/
def some? (xs : List Tst) (h r : Int) : Bool := decide (0 < (rct h r xs).length)
def mean (xs : List Tst) (h r : Int) : Int := Ar.dr (100 * csum xs (rct h r xs)) (rct h r xs).length
def mcV (xs : List Tst) (h r : Int) : Int := if okS xs = true ∧ lims2 h r = true ∧ some? xs h r = true then mean xs h r else 0
def mcC (xs : List Tst) (h r : Int) : Int := if okS xs = true then (if lims2 h r = true then (if some? xs h r = true then 0 else 3) else 2) else 1
theorem mc_bad {xs : List Tst} {h r : Int} (hq : okS xs = false) : mcV xs h r = 0 ∧ mcC xs h r = 1 := by unfold mcV mcC; rw [hq]; simp
theorem mc_lim {xs : List Tst} {h r : Int} (hq : okS xs = true) (hs : lims2 h r = false) : mcV xs h r = 0 ∧ mcC xs h r = 2 := by unfold mcV mcC; rw [hq, hs]; simp
theorem mc_nil {xs : List Tst} {h r : Int} (hq : okS xs = true) (hs : lims2 h r = true) (h0 : (rct h r xs).length = 0) : mcV xs h r = 0 ∧ mcC xs h r = 3 := by unfold mcV mcC some?; rw [hq, hs, h0]; simp
theorem mc_yes {xs : List Tst} {h r : Int} (hq : okS xs = true) (hs : lims2 h r = true) (h0 : 0 < (rct h r xs).length) : mcV xs h r = mean xs h r ∧ mcC xs h r = 0 := by unfold mcV mcC some?; rw [hq, hs, decide_eq_true h0]; simp
theorem rct_at {xs : List Tst} {h r : Int} {k : Nat} (hk : k < (rct h r xs).length) : ∃ i : Nat, (rct h r xs)[k] = (i : Int) ∧ i < xs.length := by
  obtain ⟨i, h1, h2⟩ := ixs_mem (List.getElem_mem hk)
  exact ⟨i, by rw [h1]; simp, h2⟩
theorem dR_eq {a b : Int} (ha : -1000000000000 ≤ a ∧ a ≤ 1000000000000) (hb : 0 < b ∧ b ≤ 1000000000000) : Ar.dR a b = Ar.dr a b := by unfold Ar.dR; rw [if_neg (by omega)]
end Tq
set_option maxHeartbeats 3200000 in
theorem specMeanClass_any (w : World) (v : Value) (xs : List Tst) (h r : Int) (hv : TeSl w v xs) (hl : xs.length ≤ 1048576) :
    Calls Tryd.prog 25 #[v, .int .i64 h, .int .i64 r] w fun e w' => e = .returned (.tuple #[.int .i64 (Tq.mcV xs h r), .int .i64 (Tq.mcC xs h r)]) ∧ Below w.heap.size w w' := by
  have C := Lib.hid (l08Ok_any w v xs hv hl)
  have CH := fun W => Lib.hid (hourS_any h W)
  have CN := fun W => Lib.hid (l08Near_any r W)
  obtain ⟨a, cap, rfl⟩ := hv.form
  have HV := Lib.hid hv
  clear hv
  cases hq : Tq.okS xs with
  | false =>
    obtain ⟨e1, e2⟩ := Tq.mc_bad (h := h) (r := r) hq
    rw [e1, e2]
    rw [hq] at C
    clear hq e1 e2
    go_enter Tryd.func25, Tryd.ntmps25
    go_wp2_with fail
    refine C.out.mono ?_
    rintro e w1 ⟨rfl, b1⟩
    have B1 := Lib.hid b1
    clear b1
    go_wp2_with fail
    go_ret2
    exact ⟨rfl, B1.out⟩
  | true =>
    rw [hq] at C
    cases hs : Tq.lims2 h r with
    | false =>
      obtain ⟨e1, e2⟩ := Tq.mc_lim hq hs
      rw [e1, e2]
      unfold Tq.lims2 at hs
      clear e1 e2 hq
      cases hp : Ar.inB 0 h 100000 with
      | false =>
        rw [hp] at CH
        clear hs hp
        go_enter Tryd.func25, Tryd.ntmps25
        go_wp2_with fail
        refine C.out.mono ?_
        rintro e w1 ⟨rfl, b1⟩
        have B1 := Lib.hid b1
        clear b1
        go_wp2_with fail
        refine (CH _).out.mono ?_
        rintro e w2 ⟨rfl, rfl⟩
        go_wp2_with fail
        go_ret2
        exact ⟨rfl, B1.out⟩
      | true =>
        rw [hp, Bool.true_and] at hs
        rw [hp] at CH
        rw [hs] at CN
        clear hs hp
        go_enter Tryd.func25, Tryd.ntmps25
        go_wp2_with fail
        refine C.out.mono ?_
        rintro e w1 ⟨rfl, b1⟩
        have B1 := Lib.hid b1
        clear b1
        go_wp2_with fail
        refine (CH _).out.mono ?_
        rintro e w2 ⟨rfl, rfl⟩
        go_wp2_with fail
        refine (CN _).out.mono ?_
        rintro e w2 ⟨rfl, rfl⟩
        go_wp2_with fail
        go_ret2
        exact ⟨rfl, B1.out⟩
    | true =>
      obtain ⟨h1, h2⟩ := Tq.lims2_of hs
      have hs0 := Lib.hid hs
      have HF := Lib.hid (fun k (hk : k < xs.length) => Tq.fits_at hq hk)
      have h16 := Tq.len_ok hq
      unfold Tq.lims2 at hs
      rw [Bool.and_eq_true] at hs
      rw [hs.1] at CH
      rw [hs.2] at CN
      clear hs
      have CR := Lib.hid (fun W (hb : Below w.heap.size w W) => l08Recent_any W _ xs h r (HV.out.below hb) hl h1 h2)
      have hbd := Tq.csum_bd xs (Tq.rct h r xs)
      have hlen : (Tq.rct h r xs).length ≤ 16 := by have := Tq.ixs_len (Tq.isIn (h - r) h) 0 xs; unfold Tq.rct; omega
      rcases Nat.eq_zero_or_pos (Tq.rct h r xs).length with h0 | h0
      · obtain ⟨e1, e2⟩ := Tq.mc_nil hq hs0.out h0
        rw [e1, e2]
        have hz : (((Tq.rct h r xs).length : Int) == 0) = true := by rw [h0]; rfl
        clear e1 e2 hq h0 hbd hlen
        go_enter Tryd.func25, Tryd.ntmps25
        go_wp2_with fail
        refine C.out.mono ?_
        rintro e w1 ⟨rfl, b1⟩
        have B1 := Lib.hid b1
        clear b1
        go_wp2_with fail
        refine (CH _).out.mono ?_
        rintro e w2 ⟨rfl, rfl⟩
        go_wp2_with fail
        refine (CN _).out.mono ?_
        rintro e w2 ⟨rfl, rfl⟩
        go_wp2_with fail
        refine (CR.out _ B1.out).mono ?_
        rintro e w3 ⟨u, rfl, o3, b3⟩
        have B3 := Lib.hid (bt B1.out b3)
        obtain ⟨ua, ucap, rfl⟩ := (Own.sl o3).form
        clear o3 b3
        go_wp2_with fail
        go_ret2
        exact ⟨rfl, B3.out⟩
      · obtain ⟨e1, e2⟩ := Tq.mc_yes hq hs0.out h0
        rw [e1, e2]
        unfold Tq.mean
        have HI := Lib.hid (fun k (hk : k < (Tq.rct h r xs).length) => Tq.rct_at hk)
        have hz : (((Tq.rct h r xs).length : Int) == 0) = false := beq_eq_false_iff_ne.2 (by omega)
        clear e1 e2 hq
        generalize Tq.rct h r xs = is at *
        go_enter Tryd.func25, Tryd.ntmps25
        go_wp2_with fail
        refine C.out.mono ?_
        rintro e w1 ⟨rfl, b1⟩
        have B1 := Lib.hid b1
        clear b1
        go_wp2_with fail
        refine (CH _).out.mono ?_
        rintro e w2 ⟨rfl, rfl⟩
        go_wp2_with fail
        refine (CN _).out.mono ?_
        rintro e w2 ⟨rfl, rfl⟩
        go_wp2_with fail
        refine (CR.out _ B1.out).mono ?_
        rintro e w3 ⟨u, rfl, o3, b3⟩
        have B3 := Lib.hid (bt B1.out b3)
        obtain ⟨ua, ucap, rfl⟩ := (Own.sl o3).form
        have O3 := Lib.hid (Own.sl o3)
        clear o3 b3
        go_wp2_with fail
        go_loopw [9, 10] (fun t i wr => ∃ k : Nat, k ≤ is.length ∧ t = .int .i64 (Tq.csum xs (is.take k)) ∧ i = .int .i64 k ∧ Hid (Below w3.heap.size w3 wr)) (fun _ i _ => is.length - (intOf i).toNat)
        case atStart => exact ⟨0, Nat.zero_le _, rfl, rfl, Lib.hid (Below.refl _ _)⟩
        case round =>
          obtain ⟨k, hk, rfl, rfl, hb⟩ := hrel
          by_cases hlt : k < is.length
          · obtain ⟨b', off', cap', hn, hbl', hcc'⟩ := (O3.out.below hb.out).atI hlt
            simp only [Value.slice.injEq] at hn
            obtain ⟨rfl, -, rfl⟩ := hn
            have ci := hcc' k hlt
            obtain ⟨i, hi, hil⟩ := HI.out k hlt
            have hn2 := Lib.hid (Tq.csum_take (xs := xs) hlt)
            rw [hi] at ci hn2
            obtain ⟨b, off, cap1, hn, hbl, hcc⟩ := (HV.out.below (bt B3.out hb.out)).at_ hil
            simp only [Value.slice.injEq] at hn
            obtain ⟨rfl, -, rfl⟩ := hn
            have F := HF.out i hil
            have CC := Lib.hid (l08Class_any xs[i] b (off + i * 5) wr (hcc i hil) F.q1 F.q2)
            have hbk := Tq.csum_bd xs (is.take k)
            have hbc := Tq.cls_bd xs[i]
            have hlk : (is.take k).length ≤ 16 := by rw [List.length_take]; omega
            rw [Int.toNat_natCast, Tq.nth_eq hil] at hn2
            clear hcc hcc' F
            generalize Tq.csum xs (is.take k) = t at *
            generalize Tq.cls xs[i] = c at *
            go_wp2_with fail
            refine CC.out.mono ?_
            rintro e w4 ⟨rfl, b4⟩
            have B4 := Lib.hid (bt hb.out b4)
            clear b4
            go_wp2_with fail
            exact ⟨⟨k + 1, by omega, by rw [hn2.out], by go_num, B4⟩, by simp only [intOf]; omega⟩
          · have hkn : k = is.length := by omega
            have hm : Hid (Tq.csum xs (is.take k) = Tq.csum xs is) := Lib.hid (by rw [hkn, List.take_length])
            rw [hm.out]
            have B5 := Lib.hid (bt B3.out hb.out)
            clear hkn hm hb
            generalize hT : Tq.csum xs is = t at *
            replace hT := Lib.hid hT
            have hwm : wrap64 (100 * t) = 100 * t := IntWalk.wrap64_in _ ⟨by omega, by omega⟩
            go_wp2_with (go_at_call 62; refine (l01Div_any _ _ _ (by omega) (by omega) (by omega) (by omega) (by omega)).mono ?_; rintro e w' ⟨rfl, rfl⟩)
            go_ret2
            exact ⟨ret_ii (by rw [hT.out]) rfl, B5.out⟩
/-! ### the program -/
set_option maxHeartbeats 1600000 in
theorem meanLit_any (w : World) (g : Nat) (v : Value) (xs : List Tst) (i : Nat) (hi : i < xs.length) (hg : w.cell? ⟨g, 0, none⟩ = some v) (hv : TeSl w v xs) (hl : xs.length ≤ 1048576) (hF : Tq.Fits xs[i]) (hR : RulesT w) :
    Calls Tryd.prog 64 #[.int .i64 (i : Int), .pointer (some ⟨g, 0, none⟩)] w fun e w' => e = .returned (.int .i64 (Tq.cls xs[i])) ∧ Below w.heap.size w w' := by
  have CL := Lib.hid (class_any xs[i] w hF hR)
  obtain ⟨b, off, cap, rfl, hbl, hcc⟩ := hv.at_ hi
  obtain ⟨c0, c1, c2, c3, c4⟩ := hcc i hi
  have hz : (i : Int) < (xs.length : Int) := by omega
  clear hv hcc hF hR
  go_enter Tryd.func64, Tryd.ntmps64
  go_wp2_with fail
  refine CL.out.mono ?_
  rintro e w3 ⟨rfl, b3⟩
  have B3 := Lib.hid b3
  clear b3
  go_wp2_with fail
  go_ret
  exact ⟨rfl, B3.out⟩
set_option maxHeartbeats 3200000 in
theorem sumClasses_any (w : World) (u : Value) (is : List Int) (g : Nat) (v : Value) (xs : List Tst) (hu : Sl w u is) (hil : is.length ≤ 16) (hI : ∀ k (hk : k < is.length), ∃ i : Nat, is[k] = (i : Int) ∧ i < xs.length) (hg : w.cell? ⟨g, 0, none⟩ = some v) (hv : TeSl w v xs) (hl : xs.length ≤ 1048576) (hF : ∀ k (hk : k < xs.length), Tq.Fits xs[k]) (hR : RulesT w) :
    Calls Tryd.prog 63 #[u, .func (.func 64) #[] #[.pointer (some ⟨g, 0, none⟩)]] w fun e w' => e = .returned (.int .i64 (Tq.csum xs is)) ∧ Below w.heap.size w w' := by
  have eg := enters_of Tryd.func64 (by kernel_rfl) rfl
  obtain ⟨a, cap, rfl⟩ := hu.form
  have HU := Lib.hid hu
  have HI := Lib.hid hI
  have hgl := World.block_lt_of_cell? w _ hg
  have CL := Lib.hid (fun W (hb : Below w.heap.size w W) i hi => meanLit_any W g v xs i hi ((hb.cell (p := ⟨g, 0, none⟩) hgl).trans hg) (hv.below hb) hl (hF i hi) (hR.below hb))
  clear hu hI hg hv hF hR hgl
  go_enter Tryd.func63, Tryd.ntmps63
  go_wp2
  go_loopw [5, 10] (fun t i wr => ∃ k : Nat, k ≤ is.length ∧ t = .int .i64 (Tq.csum xs (is.take k)) ∧ i = .int .i64 k ∧ Hid (Below w.heap.size w wr)) (fun _ i _ => is.length - (intOf i).toNat)
  case atStart => exact ⟨0, Nat.zero_le _, rfl, rfl, Lib.hid (Below.refl _ _)⟩
  case round =>
    obtain ⟨k, hk, rfl, rfl, hb⟩ := hrel
    by_cases hlt : k < is.length
    · have hltz : (k : Int) < (is.length : Int) := by omega
      obtain ⟨b', off', cap', hn, hbl', hcc'⟩ := (HU.out.below hb.out).atI hlt
      simp only [Value.slice.injEq] at hn
      obtain ⟨rfl, -, rfl⟩ := hn
      have ci := hcc' k hlt
      obtain ⟨i, hi, hix⟩ := HI.out k hlt
      have hn2 := Lib.hid (Tq.csum_take (xs := xs) hlt)
      rw [hi] at ci hn2
      have CC := Lib.hid (CL.out wr hb.out i hix)
      have hbk := Tq.csum_bd xs (is.take k)
      have hbc := Tq.cls_bd xs[i]
      have hlk : (is.take k).length ≤ 16 := by rw [List.length_take]; omega
      rw [Int.toNat_natCast, Tq.nth_eq hix] at hn2
      clear hcc' hi
      generalize Tq.csum xs (is.take k) = t at *
      generalize Tq.cls xs[i] = c at *
      have hwt : wrap64 (t + c) = t + c := IntWalk.wrap64_in _ ⟨by omega, by omega⟩
      go_wp2_with fail
      refine CC.out.mono ?_
      rintro e w4 ⟨rfl, b4⟩
      have B4 := Lib.hid (bt hb.out b4)
      clear b4
      go_wp2_with fail
      exact ⟨⟨k + 1, by omega, by rw [hn2.out], by go_num, B4⟩, by simp only [intOf]; omega⟩
    · have hltz : ¬ (k : Int) < (is.length : Int) := by omega
      have hm : Hid (Tq.csum xs (is.take k) = Tq.csum xs is) := Lib.hid (by rw [List.take_of_length_le (by omega)])
      go_wp2
      go_ret
      exact ⟨ret_int hm.out, hb.out⟩
namespace Tq
theorem rcL_bad {xs : List Tst} {h r : Int} (hq : okS xs = false) : rctL xs h r = [] ∧ rctC xs h r = 1 := by unfold rctL rctC; rw [hq]; exact ⟨rfl, rfl⟩
theorem rcL_lim {xs : List Tst} {h r : Int} (hq : okS xs = true) (hs : lims2 h r = false) : rctL xs h r = [] ∧ rctC xs h r = 2 := by unfold rctL rctC; rw [hq, hs]; exact ⟨rfl, rfl⟩
theorem rcL_yes {xs : List Tst} {h r : Int} (hq : okS xs = true) (hs : lims2 h r = true) : rctL xs h r = rct h r xs ∧ rctC xs h r = 0 := by unfold rctL rctC; rw [hq, hs]; exact ⟨rfl, rfl⟩
end Tq
set_option maxHeartbeats 3200000 in
theorem implMeanClass_any (w : World) (v : Value) (xs : List Tst) (h r : Int) (hv : TeSl w v xs) (hl : xs.length ≤ 1048576) (hR : RulesT w) :
    Calls Tryd.prog 26 #[v, .int .i64 h, .int .i64 r] w fun e w' => e = .returned (.tuple #[.int .i64 (Tq.mcV xs h r), .int .i64 (Tq.mcC xs h r)]) ∧ Below w.heap.size w w' := by
  obtain ⟨a, cap, rfl⟩ := hv.form
  have BX := Lib.hid ((Below.refl w.heap.size w).alloc (Nat.le_refl _) (.cells #[.slice a xs.length cap] 27))
  have C := Lib.hid (implRecentTests_any (w.alloc (.cells #[.slice a xs.length cap] 27)) _ xs h r (hv.below BX.out) hl (hR.below BX.out))
  have KR := Lib.hid (fun W (hb : Below (w.alloc (.cells #[.slice a xs.length cap] 27)).heap.size (w.alloc (.cells #[.slice a xs.length cap] 27)) W) => (Whole.new w 27 #[.slice a xs.length cap]).all hb)
  have HV := Lib.hid hv
  have HR := Lib.hid hR
  clear hv hR
  cases hq : Tq.okS xs with
  | false =>
    obtain ⟨e1, e2⟩ := Tq.mc_bad (h := h) (r := r) hq
    obtain ⟨e3, e4⟩ := Tq.rcL_bad (h := h) (r := r) hq
    rw [e1, e2]
    rw [e3, e4] at C
    clear hq e1 e2 e3 e4
    go_enter Tryd.func26, Tryd.ntmps26
    go_wp2_with fail
    refine C.out.mono ?_
    rintro e w1 ⟨u, rfl, o1, b1⟩
    have B1 := Lib.hid (bt BX.out b1)
    obtain ⟨ua, ucap, rfl⟩ := (Own.sl o1).form
    clear o1 b1
    go_wp2_with fail
    go_ret2
    exact ⟨rfl, B1.out⟩
  | true =>
    cases hs : Tq.lims2 h r with
    | false =>
      obtain ⟨e1, e2⟩ := Tq.mc_lim hq hs
      obtain ⟨e3, e4⟩ := Tq.rcL_lim hq hs
      rw [e1, e2]
      rw [e3, e4] at C
      clear hq e1 e2 e3 e4 hs
      go_enter Tryd.func26, Tryd.ntmps26
      go_wp2_with fail
      refine C.out.mono ?_
      rintro e w1 ⟨u, rfl, o1, b1⟩
      have B1 := Lib.hid (bt BX.out b1)
      obtain ⟨ua, ucap, rfl⟩ := (Own.sl o1).form
      clear o1 b1
      go_wp2_with fail
      go_ret2
      exact ⟨rfl, B1.out⟩
    | true =>
      obtain ⟨e3, e4⟩ := Tq.rcL_yes hq hs
      have h16 := Tq.len_ok hq
      have HF := Lib.hid (fun k (hk : k < xs.length) => Tq.fits_at hq hk)
      have hbd := Tq.csum_bd xs (Tq.rct h r xs)
      have hlen : (Tq.rct h r xs).length ≤ 16 := by have := Tq.ixs_len (Tq.isIn (h - r) h) 0 xs; unfold Tq.rct; omega
      have HI := Lib.hid (fun k (hk : k < (Tq.rct h r xs).length) => Tq.rct_at hk)
      rw [e3, e4] at C
      clear e3 e4
      rcases Nat.eq_zero_or_pos (Tq.rct h r xs).length with h0 | h0
      · obtain ⟨e1, e2⟩ := Tq.mc_nil hq hs h0
        rw [e1, e2]
        have hz : (((Tq.rct h r xs).length : Int) == 0) = true := by rw [h0]; rfl
        clear e1 e2 hq hs h0 hbd hlen h16
        generalize Tq.rct h r xs = is at *
        go_enter Tryd.func26, Tryd.ntmps26
        go_wp2_with fail
        refine C.out.mono ?_
        rintro e w1 ⟨u, rfl, o1, b1⟩
        have B1 := Lib.hid (bt BX.out b1)
        obtain ⟨ua, ucap, rfl⟩ := (Own.sl o1).form
        clear o1 b1
        go_wp2_with fail
        go_ret2
        exact ⟨rfl, B1.out⟩
      · obtain ⟨e1, e2⟩ := Tq.mc_yes hq hs h0
        rw [e1, e2]
        unfold Tq.mean
        have hz : (((Tq.rct h r xs).length : Int) == 0) = false := beq_eq_false_iff_ne.2 (by omega)
        clear e1 e2 hq hs
        generalize Tq.rct h r xs = is at *
        have CSm := Lib.hid (fun W uu (hb : Below w.heap.size w W) hg (hu : Sl W uu is) => sumClasses_any W uu is w.heap.size _ xs hu hlen HI.out hg (HV.out.below hb) hl HF.out (HR.out.below hb))
        have hdr := Lib.hid (Tq.dR_eq (a := 100 * Tq.csum xs is) (b := is.length) ⟨by omega, by omega⟩ ⟨by omega, by omega⟩)
        have hwm : wrap64 (100 * Tq.csum xs is) = 100 * Tq.csum xs is := IntWalk.wrap64_in _ ⟨by omega, by omega⟩
        generalize Tq.csum xs is = t at *
        clear h0 h16 hbd hlen
        go_enter Tryd.func26, Tryd.ntmps26
        go_wp2_with fail
        refine C.out.mono ?_
        rintro e w1 ⟨u, rfl, o1, b1⟩
        have B1 := Lib.hid (bt BX.out b1)
        have kg : w1.cell? ⟨w.heap.size, 0, none⟩ = some (.slice a xs.length cap) := (KR.out w1 b1).at_ 0
        obtain ⟨ua, ucap, rfl⟩ := (Own.sl o1).form
        have CS1 := Lib.hid (CSm.out w1 _ B1.out kg (Own.sl o1))
        clear o1 b1 kg
        go_wp2_with fail
        refine CS1.out.mono ?_
        rintro e w2 ⟨rfl, b2⟩
        have B2 := Lib.hid (bt B1.out b2)
        clear b2
        go_wp2_with (go_at_call 65; refine (implDivRound_any _ _ _).mono ?_; rintro e w' ⟨rfl, rfl⟩)
        go_ret2
        exact ⟨ret_ii hdr.out rfl, B2.out⟩
end Go.Proofs.YteileaeeiejonaaDoor
