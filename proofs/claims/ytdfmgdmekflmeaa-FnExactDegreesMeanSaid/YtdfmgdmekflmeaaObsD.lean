/-
  WindHours and DegreesMean of chapter 4, by the model and by the program. No condition of its own.
-/
import Derived.Test.YtdfmgdmekflmeaaObsC
namespace Go.Proofs.Ytdfmgdmekflmeaa
open Go.RowKit Go.Shelf
set_option linter.unusedVariables false
set_option maxRecDepth 100000

def Ob.wi1 (m : Int) (x : Obs) : Int := if m ≤ x.wi then 1 else 0
theorem Ob.windy_eq (m : Int) (xs : List Obs) : Ob.windy m xs = Ob.sm (Ob.wi1 m) xs := rfl
set_option maxHeartbeats 1600000 in
theorem specWindHours_any (w : World) (v : Value) (xs : List Obs) (m : Int) (hv : ObSl w v xs) (hl : xs.length ≤ 1048576) :
    Calls Try.prog 54 #[v, .int .i64 m] w fun e w' => e = .returned (.tuple #[.int .i64 (Ob.vl (Ob.okS xs) (Ar.inB 0 m 10000) (Ob.windy m xs)), .int .i64 (Ob.cd (Ob.okS xs) (Ar.inB 0 m 10000) 0)]) ∧ Below w.heap.size w w' := by
  have C := Lib.hid (l04Ok_any w v xs hv hl)
  cases hq : Ob.okS xs with
  | false =>
    rw [hq] at C
    clear hq hv
    go_enter Try.func54, Try.ntmps54
    go_wp2_with fail
    refine C.out.mono ?_
    rintro e w1 ⟨rfl, b1⟩
    have B1 := Lib.hid b1
    clear b1
    go_wp2_with fail
    go_ret2
    exact ⟨rfl, B1.out⟩
  | true =>
    have h48 := Ob.len_ok hq
    rw [hq] at C
    clear hq
    obtain ⟨a, cap, rfl⟩ := hv.form
    have HV := Lib.hid hv
    clear hv
    cases hb : Ar.inB 0 m 10000 with
    | false =>
      go_enter Try.func54, Try.ntmps54
      go_wp2_with fail
      refine C.out.mono ?_
      rintro e w1 ⟨rfl, b1⟩
      have B1 := Lib.hid b1
      clear b1
      go_wp2_with (go_at_call 68; refine (l00In_any _ _ _ _).mono ?_; rintro e w' ⟨rfl, rfl⟩)
      go_ret2
      exact ⟨rfl, B1.out⟩
    | true =>
      go_enter Try.func54, Try.ntmps54
      go_wp2_with fail
      refine C.out.mono ?_
      rintro e w1 ⟨rfl, b1⟩
      have B1 := Lib.hid b1
      clear b1
      go_wp2_with (go_at_call 68; refine (l00In_any _ _ _ _).mono ?_; rintro e w' ⟨rfl, rfl⟩)
      go_loop [6, 7] (fun s i => ∃ (k : Nat) (z : Int), k ≤ xs.length ∧ i = .int .i64 k ∧ s = .int .i64 z ∧ 0 ≤ z ∧ z ≤ k ∧ Hid (z = Ob.sm (Ob.wi1 m) (xs.take k))) (fun _ i => xs.length - (intOf i).toNat)
      case atStart => exact ⟨0, 0, Nat.zero_le _, rfl, rfl, by omega, by omega, Lib.hid rfl⟩
      case round =>
        obtain ⟨k, z, hk, rfl, rfl, z1, z2, hz⟩ := hrel
        by_cases hlt : k < xs.length
        · obtain ⟨b, off, cap1, hn, hbl, hcc⟩ := (HV.out.below B1.out).at_ hlt
          simp only [Value.slice.injEq] at hn
          obtain ⟨rfl, -, rfl⟩ := hn
          obtain ⟨c0, c1, c2, c3⟩ := hcc k hlt
          have hn := Lib.hid (Ob.sm_snoc (Ob.wi1 m) hlt)
          clear hcc
          by_cases ht : m ≤ xs[k].wi
          · have hw : Hid (Ob.wi1 m xs[k] = 1) := Lib.hid (by unfold Ob.wi1; rw [if_pos ht])
            go_wp2
            exact ⟨⟨k + 1, z + 1, by omega, by go_num, rfl, by omega, by omega, Lib.hid (by rw [hn.out, hz.out, hw.out])⟩, by simp only [intOf]; omega⟩
          · have hw : Hid (Ob.wi1 m xs[k] = 0) := Lib.hid (by unfold Ob.wi1; rw [if_neg ht])
            go_wp2
            exact ⟨⟨k + 1, z, by omega, by go_num, rfl, by omega, by omega, Lib.hid (by rw [hn.out, hz.out, hw.out, Int.add_zero])⟩, by simp only [intOf]; omega⟩
        · have hkn : k = xs.length := by omega
          have HZ : Hid (z = Ob.sm (Ob.wi1 m) xs) := Lib.hid (by rw [hz.out, hkn, List.take_length])
          clear hkn
          go_wp2
          go_ret2
          exact ⟨ret_ii HZ.out rfl, B1.out⟩
set_option maxHeartbeats 1600000 in
theorem implWindHours_any (w : World) (v : Value) (xs : List Obs) (m : Int) (hv : ObSl w v xs) (hl : xs.length ≤ 1048576) :
    Calls Try.prog 55 #[v, .int .i64 m] w fun e w' => e = .returned (.tuple #[.int .i64 (Ob.vl (Ob.okS xs) (Ar.inB 0 m 10000) (Ob.windy m xs)), .int .i64 (Ob.cd (Ob.okS xs) (Ar.inB 0 m 10000) 0)]) ∧ Below w.heap.size w w' := by
  have C := fun t => Lib.hid (observedCode_any w v xs t hv hl)
  obtain ⟨a, cap, rfl⟩ := hv.form
  have HV := Lib.hid hv
  clear hv
  cases hq : Ob.okS xs with
  | false =>
    rw [hq] at C
    clear hq
    go_enter Try.func55, Try.ntmps55
    go_wp2_with (go_at_call 74; refine (within_any _ _ _ _).mono ?_; rintro e w' ⟨rfl, rfl⟩)
    refine (C _).out.mono ?_
    rintro e w1 ⟨rfl, b1⟩
    have B1 := Lib.hid b1
    clear b1
    simp only [Ob.cd_f]
    go_wp2_with fail
    go_ret2
    exact ⟨rfl, B1.out⟩
  | true =>
    have h48 := Ob.len_ok hq
    rw [hq] at C
    clear hq
    cases hb : Ar.inB 0 m 10000 with
    | false =>
      go_enter Try.func55, Try.ntmps55
      go_wp2_with (go_at_call 74; refine (within_any _ _ _ _).mono ?_; rintro e w' ⟨rfl, rfl⟩)
      refine (C _).out.mono ?_
      rintro e w1 ⟨rfl, b1⟩
      have B1 := Lib.hid b1
      clear b1
      simp only [Ob.cd_tf]
      go_wp2_with fail
      go_ret2
      exact ⟨rfl, B1.out⟩
    | true =>
      go_enter Try.func55, Try.ntmps55
      go_wp2_with (go_at_call 74; refine (within_any _ _ _ _).mono ?_; rintro e w' ⟨rfl, rfl⟩)
      refine (C _).out.mono ?_
      rintro e w1 ⟨rfl, b1⟩
      have B1 := Lib.hid b1
      clear b1
      simp only [Ob.cd_t]
      go_wp2_with fail
      go_loopw [7, 19] (fun s i wr => ∃ (k : Nat) (z : Int), k ≤ xs.length ∧ i = .int .i64 k ∧ s = .int .i64 z ∧ 0 ≤ z ∧ z ≤ k ∧ Hid (z = Ob.sm (Ob.wi1 m) (xs.take k)) ∧ Hid (Below w.heap.size w wr)) (fun _ i _ => xs.length - (intOf i).toNat)
      case atStart => exact ⟨0, 0, Nat.zero_le _, rfl, rfl, by omega, by omega, Lib.hid rfl, B1⟩
      case round =>
        obtain ⟨k, z, hk, rfl, rfl, z1, z2, hz, hbw⟩ := hrel
        by_cases hlt : k < xs.length
        · have hltz : (k : Int) < (xs.length : Int) := by omega
          obtain ⟨b, off, cap1, hn, hbl, hcc⟩ := (HV.out.below hbw.out).at_ hlt
          simp only [Value.slice.injEq] at hn
          obtain ⟨rfl, -, rfl⟩ := hn
          obtain ⟨c0, c1, c2, c3⟩ := hcc k hlt
          have hn := Lib.hid (Ob.sm_snoc (Ob.wi1 m) hlt)
          have HB := fun o => Lib.hid (hbw.out.alloc hbw.out.size o)
          clear hcc
          by_cases ht : m ≤ xs[k].wi
          · have hw : Hid (Ob.wi1 m xs[k] = 1) := Lib.hid (by unfold Ob.wi1; rw [if_pos ht])
            go_wp2
            exact ⟨⟨k + 1, z + 1, by omega, by go_num, rfl, by omega, by omega, Lib.hid (by rw [hn.out, hz.out, hw.out]), HB _⟩, by simp only [intOf]; omega⟩
          · have hw : Hid (Ob.wi1 m xs[k] = 0) := Lib.hid (by unfold Ob.wi1; rw [if_neg ht])
            go_wp2
            exact ⟨⟨k + 1, z, by omega, by go_num, rfl, by omega, by omega, Lib.hid (by rw [hn.out, hz.out, hw.out, Int.add_zero]), HB _⟩, by simp only [intOf]; omega⟩
        · have hltz : ¬ (k : Int) < (xs.length : Int) := by omega
          have hkn : k = xs.length := by omega
          have HZ : Hid (z = Ob.sm (Ob.wi1 m) xs) := Lib.hid (by rw [hz.out, hkn, List.take_length])
          clear hkn
          go_wp2
          go_ret2
          exact ⟨ret_ii HZ.out rfl, hbw.out⟩
/-- the mean of the temperatures, and its code -/
def Ob.meanV (xs : List Obs) : Int := if Ob.okS xs then (if xs.length = 0 then 0 else Ar.dr (Ob.sm Obs.dg xs) xs.length) else 0
def Ob.meanC (xs : List Obs) : Int := if Ob.okS xs then (if xs.length = 0 then 3 else 0) else 1
set_option maxHeartbeats 1600000 in
theorem specDegreesMean_any (w : World) (v : Value) (xs : List Obs) (hv : ObSl w v xs) (hl : xs.length ≤ 1048576) :
    Calls Try.prog 52 #[v] w fun e w' => e = .returned (.tuple #[.int .i64 (Ob.meanV xs), .int .i64 (Ob.meanC xs)]) ∧ Below w.heap.size w w' := by
  have C := Lib.hid (l04Ok_any w v xs hv hl)
  obtain ⟨a, cap, rfl⟩ := hv.form
  have HV := Lib.hid hv
  clear hv
  cases hq : Ob.okS xs with
  | false =>
    have hr : Hid (Ob.meanV xs = 0 ∧ Ob.meanC xs = 1) := Lib.hid (by unfold Ob.meanV Ob.meanC; rw [hq]; exact ⟨rfl, rfl⟩)
    rw [hq] at C
    clear hq
    go_enter Try.func52, Try.ntmps52
    go_wp2_with fail
    refine C.out.mono ?_
    rintro e w1 ⟨rfl, b1⟩
    have B1 := Lib.hid b1
    clear b1
    go_wp2_with fail
    go_ret2
    exact ⟨ret_ii hr.out.1.symm hr.out.2.symm, B1.out⟩
  | true =>
    have h48 := Ob.len_ok hq
    have HF := Lib.hid ((Ob.okS_iff xs).1 hq).2.1
    by_cases h0 : xs.length = 0
    · have hr : Hid (Ob.meanV xs = 0 ∧ Ob.meanC xs = 3) := Lib.hid (by unfold Ob.meanV Ob.meanC; rw [hq, if_pos h0, if_pos h0]; exact ⟨rfl, rfl⟩)
      rw [hq, h0] at C
      rw [h0]
      clear hq h0 hl h48
      go_enter Try.func52, Try.ntmps52
      go_wp2_with fail
      refine C.out.mono ?_
      rintro e w1 ⟨rfl, b1⟩
      have B1 := Lib.hid b1
      clear b1
      go_wp2_with fail
      go_ret2
      exact ⟨ret_ii hr.out.1.symm hr.out.2.symm, B1.out⟩
    · have hr : Hid (Ob.meanV xs = Ar.dr (Ob.sm Obs.dg xs) xs.length ∧ Ob.meanC xs = 0) := Lib.hid (by unfold Ob.meanV Ob.meanC; rw [hq, if_neg h0, if_neg h0]; exact ⟨rfl, rfl⟩)
      have hz0 : ((xs.length : Int) == 0) = false := beq_eq_false_iff_ne.2 (by omega)
      rw [hq] at C
      clear hq
      have hp : 0 < xs.length := by omega
      clear h0
      go_enter Try.func52, Try.ntmps52
      go_wp2_with fail
      refine C.out.mono ?_
      rintro e w1 ⟨rfl, b1⟩
      have B1 := Lib.hid b1
      clear b1
      go_wp2_with fail
      go_loop [4, 5] (fun s i => ∃ (k : Nat) (z : Int), k ≤ xs.length ∧ i = .int .i64 k ∧ s = .int .i64 z ∧ -(5000 * (k : Int)) ≤ z ∧ z ≤ 5000 * k ∧ Hid (z = Ob.sm Obs.dg (xs.take k))) (fun _ i => xs.length - (intOf i).toNat)
      case atStart => exact ⟨0, 0, Nat.zero_le _, rfl, rfl, by omega, by omega, Lib.hid rfl⟩
      case round =>
        obtain ⟨k, z, hk, rfl, rfl, z1, z2, hz⟩ := hrel
        by_cases hlt : k < xs.length
        · obtain ⟨b, off, cap1, hn, hbl, hcc⟩ := (HV.out.below B1.out).at_ hlt
          simp only [Value.slice.injEq] at hn
          obtain ⟨rfl, -, rfl⟩ := hn
          obtain ⟨c0, c1, c2, c3⟩ := hcc k hlt
          have hn := Lib.hid (Ob.sm_snoc Obs.dg hlt)
          have ft := HF.out _ (List.getElem_mem hlt)
          have d1 := ft.d1
          have d2 := ft.d2
          clear hcc ft
          go_wp2
          exact ⟨⟨k + 1, z + xs[k].dg, by omega, by go_num, rfl, by omega, by omega, Lib.hid (by rw [hn.out, hz.out])⟩, by simp only [intOf]; omega⟩
        · have hkn : k = xs.length := by omega
          have HZ : Hid (z = Ob.sm Obs.dg xs) := Lib.hid (by rw [hz.out, hkn, List.take_length])
          clear hkn
          go_wp2_with fail
          refine (l01Div_any _ _ _ (by omega) (by omega) (by omega) (by omega) (by omega)).mono ?_
          rintro e w2 ⟨rfl, rfl⟩
          go_wp2_with fail
          go_ret2
          exact ⟨ret_ii (by rw [hr.out.1, ← HZ.out]) hr.out.2.symm, B1.out⟩
set_option maxHeartbeats 1600000 in
theorem sumOfObs_any (g : Nat) (eg : ∀ args w, (callFunc g args).run Try.prog w = .ok (.enter g args) w) (f : Obs → Int) (w : World) (v : Value) (xs : List Obs) (hl : xs.length ≤ 48) (hv : ObSl w v xs)
    (hb : ∀ x ∈ xs, -100000000 ≤ f x ∧ f x ≤ 100000000)
    (hc : ∀ x ∈ xs, ∀ W, Calls Try.prog g #[.agg #[.int .i64 x.ho, .int .i64 x.sn, .int .i64 x.dg, .int .i64 x.wi]] W fun e w' => e = .returned (.int .i64 (f x)) ∧ Below W.heap.size W w') :
    Calls Try.prog 103 #[v, .func (.func g) #[] #[]] w fun e w' => e = .returned (.int .i64 (Ob.sm f xs)) ∧ Below w.heap.size w w' := by
  obtain ⟨a, cap, rfl⟩ := hv.form
  have HV := Lib.hid hv
  have HB := Lib.hid hb
  have HC := Lib.hid hc
  clear hv hb hc
  go_enter Try.func103, Try.ntmps103
  go_wp2
  go_loopw [5, 10] (fun s i wr => ∃ (k : Nat) (z : Int), k ≤ xs.length ∧ i = .int .i64 k ∧ s = .int .i64 z ∧ -(100000000 * (k : Int)) ≤ z ∧ z ≤ 100000000 * k ∧ Hid (z = Ob.sm f (xs.take k)) ∧ Hid (Below w.heap.size w wr)) (fun _ i _ => xs.length - (intOf i).toNat)
  case atStart => exact ⟨0, 0, Nat.zero_le _, rfl, rfl, by omega, by omega, Lib.hid rfl, Lib.hid (Below.refl _ _)⟩
  case round =>
    obtain ⟨k, z, hk, rfl, rfl, z1, z2, hz, hbw⟩ := hrel
    by_cases hlt : k < xs.length
    · have hltz : (k : Int) < (xs.length : Int) := by omega
      obtain ⟨b, off, cap1, hn, hbl, hcc⟩ := (HV.out.below hbw.out).at_ hlt
      simp only [Value.slice.injEq] at hn
      obtain ⟨rfl, -, rfl⟩ := hn
      obtain ⟨c0, c1, c2, c3⟩ := hcc k hlt
      have C := fun W => Lib.hid (HC.out xs[k] (List.getElem_mem hlt) W)
      obtain ⟨f1, f2⟩ := HB.out xs[k] (List.getElem_mem hlt)
      have hn := Lib.hid (Ob.sm_snoc f hlt)
      clear hcc
      go_wp2_with fail
      refine (C _).out.mono ?_
      rintro e w1 ⟨rfl, b1⟩
      have HB1 : Hid (Below w.heap.size w w1) := Lib.hid ((hbw.out.alloc hbw.out.size _).trans (b1.mono (by have := hbw.out.size; simp; omega)))
      clear b1 c0 c1 c2 c3
      generalize f xs[k] = y at *
      go_wp2_with fail
      exact ⟨⟨k + 1, z + y, by omega, by go_num, rfl, by omega, by omega, Lib.hid (by rw [hn.out, hz.out]), HB1⟩, by simp only [intOf]; omega⟩
    · have hltz : ¬ (k : Int) < (xs.length : Int) := by omega
      have hkn : k = xs.length := by omega
      have HZ : Hid (z = Ob.sm f xs) := Lib.hid (by rw [hz.out, hkn, List.take_length])
      clear hkn
      go_wp2
      go_ret
      exact ⟨ret_int HZ.out, hbw.out⟩
theorem degreesLit_any (x : Obs) (w : World) :
    Calls Try.prog 104 #[.agg #[.int .i64 x.ho, .int .i64 x.sn, .int .i64 x.dg, .int .i64 x.wi]] w fun e w' => e = .returned (.int .i64 x.dg) ∧ Below w.heap.size w w' := by
  go_enter Try.func104, Try.ntmps104
  go_wp2
  go_ret
  exact ⟨rfl, (Below.refl _ _).alloc (Nat.le_refl _) _⟩
set_option maxHeartbeats 1600000 in
theorem implDegreesMean_any (w : World) (v : Value) (xs : List Obs) (hv : ObSl w v xs) (hl : xs.length ≤ 1048576) :
    Calls Try.prog 53 #[v] w fun e w' => e = .returned (.tuple #[.int .i64 (Ob.meanV xs), .int .i64 (Ob.meanC xs)]) ∧ Below w.heap.size w w' := by
  have C := Lib.hid (implValidObserved_any w v xs hv hl)
  obtain ⟨a, cap, rfl⟩ := hv.form
  have HV := Lib.hid hv
  clear hv
  cases hq : Ob.okS xs with
  | false =>
    have hr : Hid (Ob.meanV xs = 0 ∧ Ob.meanC xs = 1) := Lib.hid (by unfold Ob.meanV Ob.meanC; rw [hq]; exact ⟨rfl, rfl⟩)
    rw [hq] at C
    clear hq
    go_enter Try.func53, Try.ntmps53
    go_wp2_with fail
    refine C.out.mono ?_
    rintro e w1 ⟨rfl, b1⟩
    have B1 := Lib.hid b1
    clear b1
    go_wp2_with fail
    go_ret2
    exact ⟨ret_ii hr.out.1.symm hr.out.2.symm, B1.out⟩
  | true =>
    have h48 := Ob.len_ok hq
    have HF := Lib.hid ((Ob.okS_iff xs).1 hq).2.1
    by_cases h0 : xs.length = 0
    · have hr : Hid (Ob.meanV xs = 0 ∧ Ob.meanC xs = 3) := Lib.hid (by unfold Ob.meanV Ob.meanC; rw [hq, if_pos h0, if_pos h0]; exact ⟨rfl, rfl⟩)
      rw [hq, h0] at C
      rw [h0]
      clear hq h0 hl h48
      go_enter Try.func53, Try.ntmps53
      go_wp2_with fail
      refine C.out.mono ?_
      rintro e w1 ⟨rfl, b1⟩
      have B1 := Lib.hid b1
      clear b1
      go_wp2_with fail
      go_ret2
      exact ⟨ret_ii hr.out.1.symm hr.out.2.symm, B1.out⟩
    · have hr : Hid (Ob.meanV xs = Ar.dr (Ob.sm Obs.dg xs) xs.length ∧ Ob.meanC xs = 0) := Lib.hid (by unfold Ob.meanV Ob.meanC; rw [hq, if_neg h0, if_neg h0]; exact ⟨rfl, rfl⟩)
      have hz0 : ((xs.length : Int) == 0) = false := beq_eq_false_iff_ne.2 (by omega)
      have hsum := Lib.hid (Ob.sm_bds (f := Obs.dg) (l := -5000) (m := 5000) (xs := xs) (fun x hx => ⟨(HF.out x hx).d1, (HF.out x hx).d2⟩))
      rw [hq] at C
      clear hq
      have hp : 0 < xs.length := by omega
      clear h0
      go_enter Try.func53, Try.ntmps53
      go_wp2_with fail
      refine C.out.mono ?_
      rintro e w1 ⟨rfl, b1⟩
      have B1 := Lib.hid b1
      clear b1
      go_wp2_with fail
      refine (sumOfObs_any 104 (enters_of Try.func104 (by kernel_rfl) rfl) Obs.dg w1 _ xs h48 (HV.out.below B1.out) (fun x hx => ⟨by have := (HF.out x hx).d1; omega, by have := (HF.out x hx).d2; omega⟩) (fun x hx W => degreesLit_any x W)).mono ?_
      rintro e w2 ⟨rfl, b2⟩
      have B2 := Lib.hid (bt B1.out b2)
      clear b2
      obtain ⟨s1, s2⟩ := hsum.out
      generalize Ob.sm Obs.dg xs = z at *
      go_wp2_with (go_at_call 105; refine (nearest_any _ _ _ (by omega) (by omega) (by omega) (by omega) (by omega)).mono ?_; rintro e w' ⟨rfl, rfl⟩)
      go_ret2
      exact ⟨ret_ii hr.out.1.symm hr.out.2.symm, B2.out⟩
end Go.Proofs.Ytdfmgdmekflmeaa
