/-
  WindHours and DegreesMean of chapter 4, by the model and by the program. No condition of its own.
-/
import Derived.Test.YtakalehakdffiabObsC
namespace Go.Proofs.Ytakalehakdffiab
open Go.RowKit Go.Shelf
set_option linter.unusedVariables false
set_option maxRecDepth 100000

def Ob.wi1 (m : Int) (x : Obs) : Int := if m ≤ x.wi then 1 else 0
theorem Ob.windy_eq (m : Int) (xs : List Obs) : Ob.windy m xs = Ob.sm (Ob.wi1 m) xs := rfl
set_option maxHeartbeats 1600000 in
theorem specWindHours_any (w : World) (v : Value) (xs : List Obs) (m : Int) (hv : ObSl w v xs) (hl : xs.length ≤ 1048576) :
    Calls Try.prog 52 #[v, .int .i64 m] w fun e w' => e = .returned (.tuple #[.int .i64 (Ob.vl (Ob.okS xs) (Ar.inB 0 m 10000) (Ob.windy m xs)), .int .i64 (Ob.cd (Ob.okS xs) (Ar.inB 0 m 10000) 0)]) ∧ Below w.heap.size w w' := by
  have C := Lib.hid (l04Ok_any w v xs hv hl)
  cases hq : Ob.okS xs with
  | false =>
    rw [hq] at C
    clear hq hv
    go_enter Try.func52, Try.ntmps52
    go_wp2_with fail
    refine C.out.mono ?_
    rintro e w1 ⟨rfl, b1⟩
    have B1 := Lib.hid b1
    clear b1
    go_wp2_with fail
    go_ret2
    exact ⟨rfl, B1.out⟩
  | true =>
    have h48 := Ob.len_ok hq
    rw [hq] at C
    clear hq
    obtain ⟨a, cap, rfl⟩ := hv.form
    have HV := Lib.hid hv
    clear hv
    cases hb : Ar.inB 0 m 10000 with
    | false =>
      go_enter Try.func52, Try.ntmps52
      go_wp2_with fail
      refine C.out.mono ?_
      rintro e w1 ⟨rfl, b1⟩
      have B1 := Lib.hid b1
      clear b1
      go_wp2_with (go_at_call 64; refine (l00In_any _ _ _ _).mono ?_; rintro e w' ⟨rfl, rfl⟩)
      go_ret2
      exact ⟨rfl, B1.out⟩
    | true =>
      go_enter Try.func52, Try.ntmps52
      go_wp2_with fail
      refine C.out.mono ?_
      rintro e w1 ⟨rfl, b1⟩
      have B1 := Lib.hid b1
      clear b1
      go_wp2_with (go_at_call 64; refine (l00In_any _ _ _ _).mono ?_; rintro e w' ⟨rfl, rfl⟩)
      go_loop [6, 7] (fun s i => ∃ (k : Nat) (z : Int), k ≤ xs.length ∧ i = .int .i64 k ∧ s = .int .i64 z ∧ 0 ≤ z ∧ z ≤ k ∧ Hid (z = Ob.sm (Ob.wi1 m) (xs.take k))) (fun _ i => xs.length - (intOf i).toNat)
      case atStart => exact ⟨0, 0, Nat.zero_le _, rfl, rfl, by omega, by omega, Lib.hid rfl⟩
      case round =>
        obtain ⟨k, z, hk, rfl, rfl, z1, z2, hz⟩ := hrel
        by_cases hlt : k < xs.length
        · obtain ⟨b, off, cap1, hn, hbl, hcc⟩ := (HV.out.below B1.out).at_ hlt
          simp only [Value.slice.injEq] at hn
          obtain ⟨rfl, -, rfl⟩ := hn
          obtain ⟨c0, c1, c2, c3⟩ := hcc k hlt
          have hn := Lib.hid (Ob.sm_snoc (Ob.wi1 m) hlt)
          clear hcc
          by_cases ht : m ≤ xs[k].wi
          · have hw : Hid (Ob.wi1 m xs[k] = 1) := Lib.hid (by unfold Ob.wi1; rw [if_pos ht])
            go_wp2
            exact ⟨⟨k + 1, z + 1, by omega, by go_num, rfl, by omega, by omega, Lib.hid (by rw [hn.out, hz.out, hw.out])⟩, by simp only [intOf]; omega⟩
          · have hw : Hid (Ob.wi1 m xs[k] = 0) := Lib.hid (by unfold Ob.wi1; rw [if_neg ht])
            go_wp2
            exact ⟨⟨k + 1, z, by omega, by go_num, rfl, by omega, by omega, Lib.hid (by rw [hn.out, hz.out, hw.out, Int.add_zero])⟩, by simp only [intOf]; omega⟩
        · have hkn : k = xs.length := by omega
          have HZ : Hid (z = Ob.sm (Ob.wi1 m) xs) := Lib.hid (by rw [hz.out, hkn, List.take_length])
          clear hkn
          go_wp2
          go_ret2
          exact ⟨ret_ii HZ.out rfl, B1.out⟩
set_option maxHeartbeats 1600000 in
theorem implWindHours_any (w : World) (v : Value) (xs : List Obs) (m : Int) (hv : ObSl w v xs) (hl : xs.length ≤ 1048576) :
    Calls Try.prog 53 #[v, .int .i64 m] w fun e w' => e = .returned (.tuple #[.int .i64 (Ob.vl (Ob.okS xs) (Ar.inB 0 m 10000) (Ob.windy m xs)), .int .i64 (Ob.cd (Ob.okS xs) (Ar.inB 0 m 10000) 0)]) ∧ Below w.heap.size w w' := by
  have C := fun t => Lib.hid (observedCode_any w v xs t hv hl)
  obtain ⟨a, cap, rfl⟩ := hv.form
  have HV := Lib.hid hv
  clear hv
  cases hq : Ob.okS xs with
  | false =>
    rw [hq] at C
    clear hq
    go_enter Try.func53, Try.ntmps53
    go_wp2_with (go_at_call 76; refine (within_any _ _ _ _).mono ?_; rintro e w' ⟨rfl, rfl⟩)
    refine (C _).out.mono ?_
    rintro e w1 ⟨rfl, b1⟩
    have B1 := Lib.hid b1
    clear b1
    simp only [Ob.cd_f]
    go_wp2_with fail
    go_ret2
    exact ⟨rfl, B1.out⟩
  | true =>
    have h48 := Ob.len_ok hq
    rw [hq] at C
    clear hq
    cases hb : Ar.inB 0 m 10000 with
    | false =>
      go_enter Try.func53, Try.ntmps53
      go_wp2_with (go_at_call 76; refine (within_any _ _ _ _).mono ?_; rintro e w' ⟨rfl, rfl⟩)
      refine (C _).out.mono ?_
      rintro e w1 ⟨rfl, b1⟩
      have B1 := Lib.hid b1
      clear b1
      simp only [Ob.cd_tf]
      go_wp2_with fail
      go_ret2
      exact ⟨rfl, B1.out⟩
    | true =>
      go_enter Try.func53, Try.ntmps53
      go_wp2_with (go_at_call 76; refine (within_any _ _ _ _).mono ?_; rintro e w' ⟨rfl, rfl⟩)
      refine (C _).out.mono ?_
      rintro e w1 ⟨rfl, b1⟩
      have B1 := Lib.hid b1
      clear b1
      simp only [Ob.cd_t]
      go_wp2_with fail
      go_loopw [7, 19] (fun s i wr => ∃ (k : Nat) (z : Int), k ≤ xs.length ∧ i = .int .i64 k ∧ s = .int .i64 z ∧ 0 ≤ z ∧ z ≤ k ∧ Hid (z = Ob.sm (Ob.wi1 m) (xs.take k)) ∧ Hid (Below w.heap.size w wr)) (fun _ i _ => xs.length - (intOf i).toNat)
      case atStart => exact ⟨0, 0, Nat.zero_le _, rfl, rfl, by omega, by omega, Lib.hid rfl, B1⟩
      case round =>
        obtain ⟨k, z, hk, rfl, rfl, z1, z2, hz, hbw⟩ := hrel
        by_cases hlt : k < xs.length
        · have hltz : (k : Int) < (xs.length : Int) := by omega
          obtain ⟨b, off, cap1, hn, hbl, hcc⟩ := (HV.out.below hbw.out).at_ hlt
          simp only [Value.slice.injEq] at hn
          obtain ⟨rfl, -, rfl⟩ := hn
          obtain ⟨c0, c1, c2, c3⟩ := hcc k hlt
          have hn := Lib.hid (Ob.sm_snoc (Ob.wi1 m) hlt)
          have HB := fun o => Lib.hid (hbw.out.alloc hbw.out.size o)
          clear hcc
          by_cases ht : m ≤ xs[k].wi
          · have hw : Hid (Ob.wi1 m xs[k] = 1) := Lib.hid (by unfold Ob.wi1; rw [if_pos ht])
            go_wp2
            exact ⟨⟨k + 1, z + 1, by omega, by go_num, rfl, by omega, by omega, Lib.hid (by rw [hn.out, hz.out, hw.out]), HB _⟩, by simp only [intOf]; omega⟩
          · have hw : Hid (Ob.wi1 m xs[k] = 0) := Lib.hid (by unfold Ob.wi1; rw [if_neg ht])
            go_wp2
            exact ⟨⟨k + 1, z, by omega, by go_num, rfl, by omega, by omega, Lib.hid (by rw [hn.out, hz.out, hw.out, Int.add_zero]), HB _⟩, by simp only [intOf]; omega⟩
        · have hltz : ¬ (k : Int) < (xs.length : Int) := by omega
          have hkn : k = xs.length := by omega
          have HZ : Hid (z = Ob.sm (Ob.wi1 m) xs) := Lib.hid (by rw [hz.out, hkn, List.take_length])
          clear hkn
          go_wp2
          go_ret2
          exact ⟨ret_ii HZ.out rfl, hbw.out⟩
/-- the mean of the temperatures, and its code -/
def Ob.meanV (xs : List Obs) : Int := if Ob.okS xs then (if xs.length = 0 then 0 else Ar.dr (Ob.sm Obs.dg xs) xs.length) else 0
def Ob.meanC (xs : List Obs) : Int := if Ob.okS xs then (if xs.length = 0 then 3 else 0) else 1
end Go.Proofs.Ytakalehakdffiab
