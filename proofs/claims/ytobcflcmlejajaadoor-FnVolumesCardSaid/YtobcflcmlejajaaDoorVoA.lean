/-
  When parts are valid, by the model and by the program; masses of slabs; what a question is told (chapter 12). No condition of its own.
-/
import Derived.Test.YtobcflcmlejajaaDoorPatF
import Derived.Test.YtobcflcmlejajaaDoorVo
import Derived.Test.YtobcflcmlejajaaDoorCd
import Derived.Test.YtobcflcmlejajaaDoorUnits
namespace Go.Proofs.YtobcflcmlejajaaDoor
open Go.RowKit Go.Shelf
set_option linter.unusedVariables false
set_option maxRecDepth 100000

set_option maxHeartbeats 1600000 in
theorem l12One_any (x : Pat) (b o : Nat) (w : World) (h : PaCells w b o x) :
    Calls Tryd.prog 81 #[.pointer (some ⟨b, o, none⟩)] w fun e w' => e = .returned (.bool (Vm.okP x)) ∧ w = w' := by
  obtain ⟨c0, c1, c2, c3⟩ := h
  go_enter Tryd.func81, Tryd.ntmps81
  go_wp2_with (first | (go_at_call 104; refine (l02Density_any _ _).mono ?_; rintro e w' ⟨rfl, rfl⟩) | (go_at_call 87; refine (l00In_any _ _ _ _).mono ?_; rintro e w' ⟨rfl, rfl⟩))
  all_goals
    go_ret
    refine ⟨ret_bool ?_, rfl⟩
    first
      | exact (Vm.okP_0 (Vm.nt (by assumption))).symm
      | exact (Vm.okP_1 (Vm.nt (by assumption))).symm
      | exact (Vm.okP_2 (Vm.nt (by assumption))).symm
      | exact (Vm.okP_t (by assumption) (by assumption) (by assumption)).symm
set_option maxHeartbeats 1600000 in
theorem l12Ok_any (w : World) (v : Value) (xs : List Pat) (hv : PaSl w v xs) (hl : xs.length ≤ 1048576) :
    Calls Tryd.prog 88 #[v] w fun e w' => e = .returned (.bool (Vm.okS xs)) ∧ w = w' := by
  obtain ⟨a, cap, rfl⟩ := hv.form
  have HV := Lib.hid hv
  clear hv
  go_enter Tryd.func88, Tryd.ntmps88
  go_wp2
  go_loop [3] (fun i => ∃ k : Nat, k ≤ xs.length ∧ i = .int .i64 k ∧ Hid ((xs.take k).all Vm.okP = true)) (fun i => xs.length - (intOf i).toNat)
  case atStart => exact ⟨0, Nat.zero_le _, rfl, Lib.hid rfl⟩
  case round =>
    obtain ⟨k, hk, rfl, hp⟩ := hrel
    by_cases hlt : k < xs.length
    · obtain ⟨b, off, cap1, hn, hbl, hc⟩ := HV.out.at_ hlt
      simp only [Value.slice.injEq] at hn
      obtain ⟨rfl, -, rfl⟩ := hn
      have C := Lib.hid (l12One_any xs[k] b (off + k * 4) w (hc k hlt))
      clear hc
      cases hq : Vm.okP xs[k] with
      | true =>
        have hn := Lib.hid (Vm.all_snoc hlt hp.out hq)
        rw [hq] at C
        clear hq
        go_wp2_with fail
        refine C.out.mono ?_
        rintro e w2 ⟨rfl, rfl⟩
        go_wp2_with fail
        exact ⟨⟨k + 1, by omega, by go_num, hn⟩, by simp only [intOf]; omega⟩
      | false =>
        have hn := Lib.hid (Vm.okS_bad hlt hq)
        rw [hq] at C
        clear hq
        go_wp2_with fail
        refine C.out.mono ?_
        rintro e w2 ⟨rfl, rfl⟩
        go_wp2_with fail
        go_ret
        exact ⟨ret_bool hn.out.symm, rfl⟩
    · have hkz : k = xs.length := by omega
      have hn : Hid (Vm.okS xs = decide (xs.length ≤ 24)) := Lib.hid (Vm.okS_in (by rw [← hkz]; exact hp.out))
      clear hkz
      by_cases h16 : xs.length ≤ 24
      · have hd : Hid (Vm.okS xs = true) := Lib.hid (by rw [hn.out]; exact decide_eq_true h16)
        go_wp2
        go_ret
        exact ⟨ret_bool (by rw [hd.out]; exact decide_eq_true (by omega)), rfl⟩
      · have hd : Hid (Vm.okS xs = false) := Lib.hid (by rw [hn.out]; exact decide_eq_false h16)
        go_wp2
        go_ret
        exact ⟨ret_bool (by rw [hd.out]; exact decide_eq_false (by omega)), rfl⟩
/-! ### the program -/
set_option maxHeartbeats 1600000 in
theorem isWrongPat_any (x : Pat) (w : World) :
    Calls Tryd.prog 83 #[.agg #[.int .i64 x.le, .int .i64 x.wi, .int .i64 x.de, .int .i64 x.dn]] w fun e w' => e = .returned (.bool (!Vm.okP x)) ∧ Below w.heap.size w w' := by
  go_enter Tryd.func83, Tryd.ntmps83
  go_wp2_with (first | (go_at_call 70; refine (isSnowDensity_any _ _).mono ?_; rintro e w' ⟨rfl, rfl⟩) | (go_at_call 69; refine (within_any _ _ _ _).mono ?_; rintro e w' ⟨rfl, rfl⟩))
  all_goals
    go_ret
    refine ⟨ret_bool ?_, (Below.refl _ _).alloc (Nat.le_refl _) _⟩
    first
      | (rw [Vm.okP_0 (x := x) (Vm.nt (by assumption))]; rfl)
      | (rw [Vm.okP_1 (x := x) (Vm.nt (by assumption))]; rfl)
      | (rw [Vm.okP_2 (x := x) (Vm.nt (by assumption))]; rfl)
      | rw [Vm.okP_t (x := x) (by assumption) (by assumption) (by assumption)]
set_option maxHeartbeats 800000 in
theorem implValidParts_any (w : World) (v : Value) (xs : List Pat) (hv : PaSl w v xs) (hl : xs.length ≤ 1048576) :
    Calls Tryd.prog 91 #[v] w fun e w' => e = .returned (.bool (Vm.okS xs)) ∧ Below w.heap.size w w' := by
  obtain ⟨a, cap, rfl⟩ := hv.form
  have C := Lib.hid (containsFuncPat_any 83 #[] (enters_of Tryd.func83 (by kernel_rfl) rfl) (fun x => !Vm.okP x) w _ xs hl hv (fun x W hW => (isWrongPat_any x W).mono fun _ _ ⟨h, b⟩ => ⟨h, bt hW b⟩))
  by_cases h16 : xs.length ≤ 24
  · have h : ¬ 24 < xs.length := by omega
    have hn : Hid ((!xs.any fun x => !Vm.okP x) = Vm.okS xs) := Lib.hid (by rw [Vm.not_any, Vm.okS_eq h16, Bool.not_not])
    clear hv
    go_enter Tryd.func91, Tryd.ntmps91
    go_wp2_with fail
    refine C.out.mono ?_
    rintro e w1 ⟨rfl, b1⟩
    generalize (xs.any fun x => !Vm.okP x) = t at *
    have HB := Lib.hid b1
    clear b1
    go_wp2_with fail
    go_ret
    exact ⟨ret_bool hn.out, HB.out⟩
  · have h : 24 < xs.length := by omega
    have hn := Lib.hid (Vm.okS_long h16)
    clear hv
    go_enter Tryd.func91, Tryd.ntmps91
    go_wp2_with fail
    go_ret
    exact ⟨ret_bool hn.out.symm, Below.refl _ _⟩
/-! ### slabs -/
set_option maxHeartbeats 800000 in
theorem l12Mass_any (q d n : Int) (w : World) (h1 : 0 ≤ q) (h2 : q ≤ 1000000) (h3 : 0 ≤ d) (h4 : d ≤ 1000) (h5 : 0 ≤ n) (h6 : n ≤ 1000) :
    Calls Tryd.prog 114 #[.int .i64 q, .int .i64 d, .int .i64 n] w fun e w' => e = .returned (.int .i64 (Vm.slab q d n)) ∧ w = w' := by
  obtain ⟨p1, p2, p3, p4⟩ := Vm.prod3 h1 h2 h3 h4 h5 h6
  have C := Lib.hid (l01Div_any (q * d * n) 100000 w (by omega) (by omega) (by omega) (by omega) (Or.inr (by omega)))
  have e : Hid (Ar.dr (q * d * n) 100000 = Vm.slab q d n) := Lib.hid rfl
  rw [e.out] at C
  go_enter Tryd.func114, Tryd.ntmps114
  go_wp2_with fail
  refine C.out.mono ?_
  rintro e w1 ⟨rfl, rfl⟩
  go_wp2_with fail
  go_ret
  exact ⟨rfl, rfl⟩
/-- DivRound of numbers that are not too great -/
theorem divR_any (a b : Int) (w : World) (h1 : -1000000000000 ≤ a) (h2 : a ≤ 1000000000000) (hb : 0 < b) (h4 : b ≤ 1000000000000) :
    Calls Tryd.prog 72 #[.int .i64 a, .int .i64 b] w fun e w' => e = .returned (.int .i64 (Ar.dr a b)) ∧ w = w' := by
  have C := implDivRound_any a b w
  have e : Ar.dR a b = Ar.dr a b := by unfold Ar.dR; rw [if_neg (by omega)]
  rw [e] at C
  exact C
set_option maxHeartbeats 800000 in
theorem slabTonnes_any (q d n : Int) (w : World) (h1 : 0 ≤ q) (h2 : q ≤ 1000000) (h3 : 0 ≤ d) (h4 : d ≤ 1000) (h5 : 0 ≤ n) (h6 : n ≤ 1000) :
    Calls Tryd.prog 71 #[.int .i64 q, .int .i64 d, .int .i64 n] w fun e w' => e = .returned (.int .i64 (Vm.slab q d n)) ∧ w = w' := by
  obtain ⟨p1, p2, p3, p4⟩ := Vm.prod3 h1 h2 h3 h4 h5 h6
  have C := Lib.hid (divR_any (q * d * n) 100000 w (by omega) (by omega) (by omega) (by omega))
  have e : Hid (Ar.dr (q * d * n) 100000 = Vm.slab q d n) := Lib.hid rfl
  rw [e.out] at C
  go_enter Tryd.func71, Tryd.ntmps71
  go_wp2_with fail
  refine C.out.mono ?_
  rintro e w1 ⟨rfl, rfl⟩
  go_wp2_with fail
  go_ret
  exact ⟨rfl, rfl⟩
theorem l12Tonnes_any (t : Int) (w : World) :
    Calls Tryd.prog 47 #[.int .i64 t] w fun e w' => e = .returned (.bool (Vm.ton t)) ∧ w = w' := by
  go_enter Tryd.func47, Tryd.ntmps47
  go_wp2_with (go_at_call 87; refine (l00In_any _ _ _ _).mono ?_; rintro e w' ⟨rfl, rfl⟩)
  go_ret
  exact ⟨rfl, rfl⟩
theorem isTonnes_any (t : Int) (w : World) :
    Calls Tryd.prog 49 #[.int .i64 t] w fun e w' => e = .returned (.bool (Vm.ton t)) ∧ w = w' := by
  go_enter Tryd.func49, Tryd.ntmps49
  go_wp2_with (go_at_call 69; refine (within_any _ _ _ _).mono ?_; rintro e w' ⟨rfl, rfl⟩)
  go_ret
  exact ⟨rfl, rfl⟩
end Go.Proofs.YtobcflcmlejajaaDoor
