/-
  NewSnow of chapter 4, by the model and by the program. No condition of its own.
-/
import Derived.Test.YtakalehakdffiabObsE
namespace Go.Proofs.Ytakalehakdffiab
open Go.RowKit Go.Shelf
set_option linter.unusedVariables false
set_option maxRecDepth 100000

/-- are two hours as they must be? -/
def Ob.span (a b : Int) : Bool := Ar.inB 0 a 100000 && (Ar.inB 0 b 100000 && decide (a ≤ b))
def Ob.newV (xs : List Obs) (a b : Int) : Int := Ob.vl (Ob.okS xs) (Ob.span a b) (Ob.newS a b xs xs.length)
def Ob.newC (xs : List Obs) (a b : Int) : Int := Ob.cd (Ob.okS xs) (Ob.span a b) 0
set_option maxHeartbeats 800000 in
theorem isObservedSpan_any (a b : Int) (w : World) :
    Calls Try.prog 89 #[.int .i64 a, .int .i64 b] w fun e w' => e = .returned (.bool (Ob.span a b)) ∧ w = w' := by
  cases h1 : Ar.inB 0 a 100000 with
  | false =>
    have hr : Hid (Ob.span a b = false) := Lib.hid (by unfold Ob.span; rw [h1]; rfl)
    go_enter Try.func89, Try.ntmps89
    go_wp2_with (go_at_call 95; refine (isObservedHour_any _ _).mono ?_; rintro e w' ⟨rfl, rfl⟩)
    go_ret
    exact ⟨ret_bool hr.out.symm, rfl⟩
  | true =>
    cases h2 : Ar.inB 0 b 100000 with
    | false =>
      have hr : Hid (Ob.span a b = false) := Lib.hid (by unfold Ob.span; rw [h1, h2]; rfl)
      go_enter Try.func89, Try.ntmps89
      go_wp2_with (go_at_call 95; refine (isObservedHour_any _ _).mono ?_; rintro e w' ⟨rfl, rfl⟩)
      go_ret
      exact ⟨ret_bool hr.out.symm, rfl⟩
    | true =>
      have hr : Hid (Ob.span a b = decide (a ≤ b)) := Lib.hid (by unfold Ob.span; rw [h1, h2]; rfl)
      go_enter Try.func89, Try.ntmps89
      go_wp2_with (go_at_call 95; refine (isObservedHour_any _ _).mono ?_; rintro e w' ⟨rfl, rfl⟩)
      go_ret
      exact ⟨ret_bool hr.out.symm, rfl⟩
theorem l00Max_any (a b : Int) (w : World) :
    Calls Try.prog 99 #[.int .i64 a, .int .i64 b] w fun e w' => e = .returned (.int .i64 (max a b)) ∧ w = w' := by
  by_cases h : b < a
  · have hr : Hid (max a b = a) := Lib.hid (by omega)
    go_enter Try.func99, Try.ntmps99
    go_wp2
    all_goals
      go_ret
      exact ⟨ret_int (by first | exact hr.out.symm | omega), rfl⟩
  · have hr : Hid (max a b = b) := Lib.hid (by omega)
    go_enter Try.func99, Try.ntmps99
    go_wp2
    all_goals
      go_ret
      exact ⟨ret_int (by first | exact hr.out.symm | omega), rfl⟩
set_option maxHeartbeats 1600000 in
theorem specNewSnow_any (w : World) (v : Value) (xs : List Obs) (p q : Int) (hv : ObSl w v xs) (hl : xs.length ≤ 1048576) :
    Calls Try.prog 44 #[v, .int .i64 p, .int .i64 q] w fun e w' => e = .returned (.tuple #[.int .i64 (Ob.newV xs p q), .int .i64 (Ob.newC xs p q)]) ∧ Below w.heap.size w w' := by
  have C := Lib.hid (l04Ok_any w v xs hv hl)
  obtain ⟨a, cap, rfl⟩ := hv.form
  have HV := Lib.hid hv
  clear hv
  unfold Ob.newV Ob.newC
  cases hq : Ob.okS xs with
  | false =>
    rw [hq] at C
    clear hq
    go_enter Try.func44, Try.ntmps44
    go_wp2_with fail
    refine C.out.mono ?_
    rintro e w1 ⟨rfl, b1⟩
    have B1 := Lib.hid b1
    clear b1
    go_wp2_with fail
    go_ret2
    exact ⟨rfl, B1.out⟩
  | true =>
    have h48 := Ob.len_ok hq
    have HF := Lib.hid ((Ob.okS_iff xs).1 hq).2.1
    rw [hq] at C
    clear hq
    cases hs : Ob.span p q with
    | false =>
      have h3 : Ar.inB 0 p 100000 = false ∨ (Ar.inB 0 p 100000 = true ∧ Ar.inB 0 q 100000 = false) ∨ (Ar.inB 0 p 100000 = true ∧ Ar.inB 0 q 100000 = true ∧ q < p) := by
        unfold Ob.span at hs
        cases h1 : Ar.inB 0 p 100000 <;> cases h2 : Ar.inB 0 q 100000 <;> simp [h1, h2] at hs ⊢
        exact hs
      clear hs
      rcases h3 with h1 | ⟨h1, h2⟩ | ⟨h1, h2, h3⟩
      all_goals
        go_enter Try.func44, Try.ntmps44
        go_wp2_with fail
        refine C.out.mono ?_
        rintro e w1 ⟨rfl, b1⟩
        have B1 := Lib.hid b1
        clear b1
        go_wp2_with (go_at_call 93; refine (l04Hour_any _ _).mono ?_; rintro e w' ⟨rfl, rfl⟩)
        go_ret2
        exact ⟨rfl, B1.out⟩
    | true =>
      have h3 : Ar.inB 0 p 100000 = true ∧ Ar.inB 0 q 100000 = true ∧ p ≤ q := by
        unfold Ob.span at hs
        simpa using hs
      obtain ⟨h1, h2, h3⟩ := h3
      clear hs
      go_enter Try.func44, Try.ntmps44
      go_wp2_with fail
      refine C.out.mono ?_
      rintro e w1 ⟨rfl, b1⟩
      have B1 := Lib.hid b1
      clear b1
      go_wp2_with (go_at_call 93; refine (l04Hour_any _ _).mono ?_; rintro e w' ⟨rfl, rfl⟩)
      go_loopw [8, 9] (fun s i wr => ∃ (k : Nat) (z : Int), k ≤ max 1 xs.length ∧ 1 ≤ k ∧ i = .int .i64 k ∧ s = .int .i64 z ∧ 0 ≤ z ∧ z ≤ 2000 * k ∧ Hid (z = Ob.newS p q xs k) ∧ Hid (Below w.heap.size w wr)) (fun _ i _ => max 1 xs.length - (intOf i).toNat)
      case atStart => exact ⟨1, 0, by omega, by omega, rfl, rfl, by omega, by omega, Lib.hid (by simp [Ob.newS]), B1⟩
      case round =>
        obtain ⟨k, z, hk, hk1, rfl, rfl, z1, z2, hz, hbw⟩ := hrel
        by_cases hlt : k < xs.length
        · obtain ⟨m, rfl⟩ : ∃ m, k = m + 1 := ⟨k - 1, by omega⟩
          obtain ⟨b, off, cap1, hn, hbl, hcc⟩ := (HV.out.below hbw.out).at_ hlt
          simp only [Value.slice.injEq] at hn
          obtain ⟨rfl, -, rfl⟩ := hn
          obtain ⟨c0, c1, c2, c3⟩ := hcc (m + 1) hlt
          obtain ⟨d0, d1, d2, d3⟩ := hcc m (by omega)
          have f1 := HF.out _ (List.getElem_mem hlt)
          have f2 := HF.out _ (List.getElem_mem (show m < xs.length by omega))
          have s1 := f1.s1
          have s2 := f1.s2
          have s3 := f2.s1
          have s4 := f2.s2
          have hn := Lib.hid (show Ob.newS p q xs (m + 1 + 1) = Ob.newS p q xs (m + 1) + (if 0 < m + 1 ∧ p ≤ (Ob.nth xs m).ho ∧ (Ob.nth xs (m + 1)).ho ≤ q then max 0 ((Ob.nth xs (m + 1)).sn - (Ob.nth xs m).sn) else 0) from rfl)
          rw [Ob.nth_eq hlt, Ob.nth_eq (show m < xs.length by omega)] at hn
          have CM := fun a b W => Lib.hid (l00Max_any a b W)
          clear hcc f1 f2
          by_cases t1 : p ≤ (xs[m]'(by omega)).ho
          · by_cases t2 : xs[m + 1].ho ≤ q
            · have hw : Hid (z + max 0 (xs[m + 1].sn - (xs[m]'(by omega)).sn) = Ob.newS p q xs (m + 1 + 1)) := Lib.hid (by rw [hn.out, if_pos ⟨by omega, t1, t2⟩, hz.out])
              go_wp2_with fail
              go_quiet ((go_at_call 99; exact Calls.quiet_of_same ((CM _ _ _).out.mono fun _ _ ⟨h, h'⟩ => ⟨h, h'.symm⟩)))
              go_wp2
              exact ⟨⟨m + 1 + 1, z + max 0 (xs[m + 1].sn - (xs[m]'(by omega)).sn), by omega, by omega, by go_num, rfl, by omega, by omega, hw, Lib.hid (below_drewN hbw.out _)⟩, by simp only [intOf]; omega⟩
            · have hw : Hid (z = Ob.newS p q xs (m + 1 + 1)) := Lib.hid (by rw [hn.out, if_neg (fun h => t2 h.2.2), hz.out, Int.add_zero])
              go_wp2
              exact ⟨⟨m + 1 + 1, z, by omega, by omega, by go_num, rfl, by omega, by omega, hw, hbw⟩, by simp only [intOf]; omega⟩
          · have hw : Hid (z = Ob.newS p q xs (m + 1 + 1)) := Lib.hid (by rw [hn.out, if_neg (fun h => t1 h.2.1), hz.out, Int.add_zero])
            go_wp2
            exact ⟨⟨m + 1 + 1, z, by omega, by omega, by go_num, rfl, by omega, by omega, hw, hbw⟩, by simp only [intOf]; omega⟩
        · have HZ : Hid (z = Ob.newS p q xs xs.length) := Lib.hid (by
            rcases Nat.eq_zero_or_pos xs.length with h0 | h0
            · obtain rfl : k = 1 := by omega
              rw [hz.out, h0]; simp [Ob.newS]
            · rw [hz.out]; congr 1; omega)
          go_wp2
          go_ret2
          exact ⟨ret_ii HZ.out rfl, hbw.out⟩
set_option maxHeartbeats 3200000 in
theorem implNewSnow_any (w : World) (v : Value) (xs : List Obs) (p q : Int) (hv : ObSl w v xs) (hl : xs.length ≤ 1048576) :
    Calls Try.prog 45 #[v, .int .i64 p, .int .i64 q] w fun e w' => e = .returned (.tuple #[.int .i64 (Ob.newV xs p q), .int .i64 (Ob.newC xs p q)]) ∧ Below w.heap.size w w' := by
  have C := fun t => Lib.hid (observedCode_any w v xs t hv hl)
  obtain ⟨a, cap, rfl⟩ := hv.form
  have HV := Lib.hid hv
  clear hv
  unfold Ob.newV Ob.newC
  cases hq : Ob.okS xs with
  | false =>
    rw [hq] at C
    clear hq
    go_enter Try.func45, Try.ntmps45
    go_wp2_with (go_at_call 89; refine (isObservedSpan_any _ _ _).mono ?_; rintro e w' ⟨rfl, rfl⟩)
    refine (C _).out.mono ?_
    rintro e w1 ⟨rfl, b1⟩
    have B1 := Lib.hid b1
    clear b1
    simp only [Ob.cd_f]
    go_wp2_with fail
    go_ret2
    exact ⟨rfl, B1.out⟩
  | true =>
    have h48 := Ob.len_ok hq
    have HF := Lib.hid ((Ob.okS_iff xs).1 hq).2.1
    rw [hq] at C
    clear hq
    cases hs : Ob.span p q with
    | false =>
      go_enter Try.func45, Try.ntmps45
      go_wp2_with (go_at_call 89; refine (isObservedSpan_any _ _ _).mono ?_; rintro e w' ⟨rfl, rfl⟩)
      refine (C _).out.mono ?_
      rintro e w1 ⟨rfl, b1⟩
      have B1 := Lib.hid b1
      clear b1
      simp only [Ob.cd_tf]
      go_wp2_with fail
      go_ret2
      exact ⟨rfl, B1.out⟩
    | true =>
      go_enter Try.func45, Try.ntmps45
      go_wp2_with (go_at_call 89; refine (isObservedSpan_any _ _ _).mono ?_; rintro e w' ⟨rfl, rfl⟩)
      refine (C _).out.mono ?_
      rintro e w1 ⟨rfl, b1⟩
      have B1 := Lib.hid (b1.alloc b1.size (.cells #[.int .i64 0, .int .i64 0, .int .i64 0, .int .i64 0, .bool false] 104))
      have L1 : Hid (LatO (w1.alloc (.cells #[.int .i64 0, .int .i64 0, .int .i64 0, .int .i64 0, .bool false] 104)) w1.heap.size ⟨0, 0, 0, 0⟩ false) := Lib.hid (Whole.new _ _ _)
      have hg1 := b1.size
      clear b1
      simp only [Ob.cd_t]
      go_wp2_with fail
      generalize w1.heap.size = g at *
      go_loopw [10, 25] (fun s i wr => ∃ (k : Nat) (z : Int) (y : Obs) (ex : Bool), k ≤ xs.length ∧ i = .int .i64 k ∧ s = .int .i64 z ∧ 0 ≤ z ∧ z ≤ 2000 * k ∧ Hid (z = Ob.newS p q xs k) ∧ Hid (LatO wr g y ex) ∧ Hid (Below w.heap.size w wr) ∧ Hid ((ex = false ∧ k = 0) ∨ (ex = true ∧ 0 < k ∧ y = Ob.nth xs (k - 1)))) (fun _ i _ => xs.length - (intOf i).toNat)
      case atStart => exact ⟨0, 0, ⟨0, 0, 0, 0⟩, false, Nat.zero_le _, rfl, rfl, by omega, by omega, Lib.hid rfl, L1, B1, Lib.hid (Or.inl ⟨rfl, rfl⟩)⟩
      case round =>
        obtain ⟨k, z, y, ex, hk, rfl, rfl, z1, z2, hz, hL, hbw, hx⟩ := hrel
        by_cases hlt : k < xs.length
        · have hltz : (k : Int) < (xs.length : Int) := by omega
          obtain ⟨b, off, cap1, hn, hbl, hcc⟩ := (HV.out.below hbw.out).at_ hlt
          simp only [Value.slice.injEq] at hn
          obtain ⟨rfl, -, rfl⟩ := hn
          obtain ⟨c0, c1, c2, c3⟩ := hcc k hlt
          have hgl := hL.out.lt
          have hws := hbw.out.size
          have hn := Lib.hid (show Ob.newS p q xs (k + 1) = Ob.newS p q xs k + (if 0 < k ∧ p ≤ (Ob.nth xs (k - 1)).ho ∧ (Ob.nth xs k).ho ≤ q then max 0 ((Ob.nth xs k).sn - (Ob.nth xs (k - 1)).sn) else 0) from rfl)
          have XB : Hid (Whole (boxObs wr xs[k] 30) wr.heap.size 30 #[.int .i64 xs[k].ho, .int .i64 xs[k].sn, .int .i64 xs[k].dg, .int .i64 xs[k].wi]) := Lib.hid (Whole.new _ _ _)
          have LB : Hid (LatO (boxObs wr xs[k] 30) g y ex) := Lib.hid (Whole.alloc hL.out _)
          have BB : Hid (Below w.heap.size w (boxObs wr xs[k] 30)) := Lib.hid (hbw.out.alloc hws _)
          clear hcc
          go_wp2_with fail
          refine (latO_pass g y xs[k] ex (boxObs wr xs[k] 30) LB.out).mono ?_
          rintro e w2 ⟨rfl, h2, g2⟩
          have L2 := Lib.hid h2
          have B2 := Lib.hid (below_only BB.out g2 (by omega) BB.out.size)
          have X2 := XB.out.far g2 (by omega)
          have e0 : w2.cell? ⟨wr.heap.size, 0, none⟩ = some (.int .i64 xs[k].ho) := X2.at_ 0
          have e1 : w2.cell? ⟨wr.heap.size, 1, none⟩ = some (.int .i64 xs[k].sn) := X2.at_ 1
          have ne0 := X2.lt
          clear h2 g2 X2 c0 c1 c2 c3
          have LB2 := fun o => Lib.hid (show LatO (w2.alloc o) g xs[k] true from Whole.alloc L2.out o)
          have BB2 := fun o => Lib.hid (B2.out.alloc B2.out.size o)
          rcases hx.out with ⟨rfl, rfl⟩ | ⟨rfl, h0, rfl⟩
          · have hw : Hid (z = Ob.newS p q xs (0 + 1)) := Lib.hid (by rw [hn.out, if_neg (by omega), hz.out, Int.add_zero])
            clear hx
            go_wp2_with fail
            exact ⟨⟨1, z, xs[0], true, by omega, by go_num, rfl, by omega, by omega, hw, LB2 _, BB2 _, Lib.hid (Or.inr ⟨rfl, by omega, (Ob.nth_eq hlt).symm⟩)⟩, by simp only [intOf]; omega⟩
          · have hnk := Ob.nth_eq hlt
            have f1 := HF.out _ (List.getElem_mem hlt)
            have f2 := HF.out _ (List.getElem_mem (show k - 1 < xs.length by omega))
            rw [← Ob.nth_eq] at f2
            have s1 := f1.s1
            have s2 := f1.s2
            have s3 := f2.s1
            have s4 := f2.s2
            rw [hnk] at hn
            have hlast : Hid (xs[k] = Ob.nth xs (k + 1 - 1)) := Lib.hid hnk.symm
            clear hx hnk f1 f2
            generalize Ob.nth xs (k - 1) = y at *
            by_cases t1 : p ≤ y.ho
            · by_cases t2 : xs[k].ho ≤ q
              · have hw : Hid (z + max 0 (xs[k].sn - y.sn) = Ob.newS p q xs (k + 1)) := Lib.hid (by rw [hn.out, if_pos ⟨h0, t1, t2⟩, hz.out])
                go_wp2_with fail
                exact ⟨⟨k + 1, z + max 0 (xs[k].sn - y.sn), xs[k], true, by omega, by go_num, congrArg (Value.int .i64) (by split <;> omega), by omega, by omega, hw, LB2 _, BB2 _, Lib.hid (Or.inr ⟨rfl, by omega, hlast.out⟩)⟩, by simp only [intOf]; omega⟩
              · have hw : Hid (z = Ob.newS p q xs (k + 1)) := Lib.hid (by rw [hn.out, if_neg (fun h => t2 h.2.2), hz.out, Int.add_zero])
                go_wp2_with fail
                exact ⟨⟨k + 1, z, xs[k], true, by omega, by go_num, rfl, by omega, by omega, hw, LB2 _, BB2 _, Lib.hid (Or.inr ⟨rfl, by omega, hlast.out⟩)⟩, by simp only [intOf]; omega⟩
            · have hw : Hid (z = Ob.newS p q xs (k + 1)) := Lib.hid (by rw [hn.out, if_neg (fun h => t1 h.2.1), hz.out, Int.add_zero])
              go_wp2_with fail
              exact ⟨⟨k + 1, z, xs[k], true, by omega, by go_num, rfl, by omega, by omega, hw, LB2 _, BB2 _, Lib.hid (Or.inr ⟨rfl, by omega, hlast.out⟩)⟩, by simp only [intOf]; omega⟩
        · have hltz : ¬ (k : Int) < (xs.length : Int) := by omega
          have hkn : k = xs.length := by omega
          have HZ : Hid (z = Ob.newS p q xs xs.length) := Lib.hid (by rw [hz.out, hkn])
          clear hkn
          go_wp2
          go_ret2
          exact ⟨ret_ii HZ.out rfl, hbw.out⟩
end Go.Proofs.Ytakalehakdffiab
