/-
  When observations are valid, by the model and by the program. No condition of its own.
-/
import Derived.Test.YtakalehakdffiabObsF
import Derived.Test.YtakalehakdffiabObsM
import Derived.Test.YtakalehakdffiabObsW
import Derived.Test.YtakalehakdffiabObsO
import Derived.Test.YtakalehakdffiabUnits
import Derived.Defers
namespace Go.Proofs.Ytakalehakdffiab
open Go.RowKit Go.Shelf
set_option linter.unusedVariables false
set_option maxRecDepth 100000

theorem ret_iii {a b c d x y : Int} (h : a = b) (h' : c = d) (h'' : x = y) : Ending.returned (.tuple #[.int .i64 a, .int .i64 c, .int .i64 x]) = .returned (.tuple #[.int .i64 b, .int .i64 d, .int .i64 y]) := by rw [h, h', h'']
set_option maxHeartbeats 1600000 in
theorem l04Ok_any (w : World) (v : Value) (xs : List Obs) (hv : ObSl w v xs) (hl : xs.length ≤ 1048576) :
    Calls Try.prog 54 #[v] w fun e w' => e = .returned (.bool (Ob.okS xs)) ∧ Below w.heap.size w w' := by
  obtain ⟨a, cap, rfl⟩ := hv.form
  have HV := Lib.hid hv
  clear hv
  go_enter Try.func54, Try.ntmps54
  go_wp2
  go_loopw [3] (fun i wr => ∃ k : Nat, k ≤ xs.length ∧ i = .int .i64 k ∧ Hid ((xs.take k).all Ob.okO = true ∧ Ob.up (-1) (xs.take k) = true) ∧ Hid (Below w.heap.size w wr)) (fun i _ => xs.length - (intOf i).toNat)
  case atStart => exact ⟨0, Nat.zero_le _, rfl, Lib.hid ⟨rfl, rfl⟩, Lib.hid (Below.refl _ _)⟩
  case round =>
    obtain ⟨k, hk, rfl, hp, hw⟩ := hrel
    by_cases hlt : k < xs.length
    · obtain ⟨b, off, cap1, hn, hbl, hc⟩ := (HV.out.below hw.out).at_ hlt
      simp only [Value.slice.injEq] at hn
      obtain ⟨rfl, -, rfl⟩ := hn
      have C := fun n => Lib.hid (l04One_any xs[k] b (off + k * 4) (wr.drewN n) ((hc k hlt).drewN n))
      cases hq : Ob.okO xs[k] with
      | true =>
        have HF := (Ob.okO_iff _).1 hq
        have ha := Lib.hid (Ob.all_snoc hlt hp.out.1 hq)
        rw [hq] at C
        clear hq
        rcases Nat.eq_zero_or_pos k with h0 | h0
        · subst h0
          have hu : Hid (Ob.up (-1) (xs.take (0 + 1)) = true) := Lib.hid (Ob.up_snoc hlt rfl (by have := HF.h1; show (-1 : Int) < _; omega))
          simp only [Nat.zero_mul, Nat.add_zero] at C
          clear hc HF hp
          go_wp2_with fail
          go_quiet ((go_at_call 55; exact Calls.quiet_of_same ((C _).out.mono fun _ _ ⟨h, h'⟩ => ⟨h, h'.symm⟩)))
          go_wp2
          exact ⟨⟨1, by omega, by go_num, Lib.hid ⟨ha.out, hu.out⟩, Lib.hid (below_drewN hw.out _)⟩, by simp only [intOf]; omega⟩
        · have c0 := (hc k hlt).c0
          have d0 : wr.cell? ⟨b, off + (k - 1) * 4, none⟩ = some (.int .i64 (xs[k - 1]'(by omega)).ho) := (hc (k - 1) (by omega)).c0
          clear hc HF
          obtain ⟨m, rfl⟩ : ∃ m, k = m + 1 := ⟨k - 1, by omega⟩
          simp only [Nat.add_sub_cancel] at d0
          by_cases ht : xs[m + 1].ho ≤ (xs[m]'(by omega)).ho
          · have hn := Lib.hid (Ob.okS_turn (show 0 < m + 1 by omega) hlt ht)
            go_wp2_with fail
            go_quiet ((go_at_call 55; exact Calls.quiet_of_same ((C _).out.mono fun _ _ ⟨h, h'⟩ => ⟨h, h'.symm⟩)))
            go_wp2
            go_ret
            exact ⟨ret_bool hn.out.symm, below_drewN hw.out _⟩
          · have hu : Hid (Ob.up (-1) (xs.take (m + 1 + 1)) = true) := Lib.hid (Ob.up_snoc hlt hp.out.2 (by rw [Ob.la_take (-1) (show m < xs.length by omega)]; omega))
            clear hp
            go_wp2_with fail
            go_quiet ((go_at_call 55; exact Calls.quiet_of_same ((C _).out.mono fun _ _ ⟨h, h'⟩ => ⟨h, h'.symm⟩)))
            go_wp2
            exact ⟨⟨m + 1 + 1, by omega, by go_num, Lib.hid ⟨ha.out, hu.out⟩, Lib.hid (below_drewN hw.out _)⟩, by simp only [intOf]; omega⟩
      | false =>
        have hn := Lib.hid (Ob.okS_bad hlt hq)
        rw [hq] at C
        clear hq hc hp
        go_wp2_with fail
        go_quiet ((go_at_call 55; exact Calls.quiet_of_same ((C _).out.mono fun _ _ ⟨h, h'⟩ => ⟨h, h'.symm⟩)))
        go_wp2
        go_ret
        exact ⟨ret_bool hn.out.symm, below_drewN hw.out _⟩
    · have hkz : k = xs.length := by omega
      have hn : Hid (Ob.okS xs = decide (xs.length ≤ 48)) := Lib.hid (Ob.okS_all (by rw [← hkz]; exact hp.out.1) (by rw [← hkz]; exact hp.out.2))
      clear hkz
      by_cases h16 : xs.length ≤ 48
      · have hd : Hid (Ob.okS xs = true) := Lib.hid (by rw [hn.out]; exact decide_eq_true h16)
        go_wp2
        go_ret
        exact ⟨ret_bool (by rw [hd.out]; exact decide_eq_true (by omega)), hw.out⟩
      · have hd : Hid (Ob.okS xs = false) := Lib.hid (by rw [hn.out]; exact decide_eq_false h16)
        go_wp2
        go_ret
        exact ⟨ret_bool (by rw [hd.out]; exact decide_eq_false (by omega)), hw.out⟩
theorem specValidObserved_any (w : World) (v : Value) (xs : List Obs) (hv : ObSl w v xs) (hl : xs.length ≤ 1048576) :
    Calls Try.prog 35 #[v] w fun e w' => e = .returned (.bool (Ob.okS xs)) ∧ Below w.heap.size w w' := by
  have C := Lib.hid (l04Ok_any w v xs hv hl)
  clear hv hl
  go_enter Try.func35, Try.ntmps35
  go_wp2_with fail
  refine C.out.mono ?_
  rintro e w1 ⟨rfl, b1⟩
  have B1 := Lib.hid b1
  clear b1
  go_wp2_with fail
  go_ret
  exact ⟨rfl, B1.out⟩
/-! ### the program -/
theorem latI_keep (g : Nat) (y x : Int) (ex : Bool) (u : FrameMode) (w : World) (h : Whole w g 166 #[.int .i64 y, .bool ex]) :
    CallsD Try.prog 163 #[.pointer (some ⟨g, 0, none⟩), .int .i64 x] u w fun e u' w' => u' = u ∧ (e = .returned (.tuple #[]) ∧ Whole w' g 166 #[.int .i64 x, .bool true] ∧ w.grownBy w' (some g)) := by
  have c0 := h.at_ 0
  have c1 := h.at_ 1
  have f0 := h.free 0
  have f1 := h.free 1
  have H := Lib.hid ((h.put 0 (.int .i64 x)).put 1 (.bool true))
  have G := Lib.hid (only_setCell (p := ⟨g, 1, none⟩) (only_setCell (p := ⟨g, 0, none⟩) (World.grownBy.refl w (some g)) rfl (.int .i64 x)) rfl (.bool true))
  simp at c0 c1
  clear h
  go_enter_d Try.func163, Try.ntmps163
  go_wp2
  go_end0
  exact ⟨rfl, by simpa using H.out, G.out⟩
set_option maxHeartbeats 800000 in
theorem latI_pass (g : Nat) (y x : Int) (ex : Bool) (w : World) (h : Whole w g 166 #[.int .i64 y, .bool ex]) :
    Calls Try.prog 154 #[.pointer (some ⟨g, 0, none⟩), .int .i64 x] w fun e w' => e = .returned (.tuple #[.int .i64 y, .bool ex]) ∧ Whole w' g 166 #[.int .i64 x, .bool true] ∧ w.grownBy w' (some g) := by
  have c0 := h.at_ 0
  have c1 := h.at_ 1
  have H := Lib.hid h
  simp at c0 c1
  clear h
  go_enter_defers Try.func154, Try.ntmps154
  go_wp2
  go_quiet (fail)
  go_wp2
  refine leaves_cons (f := 163) (args := #[.pointer (some ⟨g, 0, none⟩), .int .i64 x]) (by simp) (by simp [go_sem]) ?_
  refine (latI_keep g y x ex .returning _ (H.out.drewN _)).mono ?_
  rintro e u' w'' ⟨rfl, rfl, h1, h2⟩
  exact ⟨_, results_tmp2 rfl _ _ _, rfl, h1, ⟨h2.os, h2.tape, h2.output, h2.size, h2.block⟩⟩
theorem hourLit_any (x : Obs) (w : World) :
    Calls Try.prog 124 #[.agg #[.int .i64 x.ho, .int .i64 x.sn, .int .i64 x.dg, .int .i64 x.wi]] w fun e w' => e = .returned (.int .i64 x.ho) ∧ Below w.heap.size w w' := by
  go_enter Try.func124, Try.ntmps124
  go_wp2
  go_ret
  exact ⟨rfl, (Below.refl _ _).alloc (Nat.le_refl _) _⟩
set_option maxHeartbeats 1600000 in
theorem isIncreasing_any (w : World) (v : Value) (xs : List Obs) (hv : ObSl w v xs) (hl : xs.length ≤ 1048576) (hf : ∀ x ∈ xs, 0 ≤ x.ho) :
    Calls Try.prog 123 #[v, .func (.func 124) #[] #[]] w fun e w' => e = .returned (.bool (Ob.up (-1) xs)) ∧ Below w.heap.size w w' := by
  have eg := enters_of Try.func124 (by kernel_rfl) rfl
  obtain ⟨a, cap, rfl⟩ := hv.form
  have HV := Lib.hid hv
  have HF := Lib.hid hf
  have W0 := Lib.hid (Whole.new w 166 #[.int .i64 0, .bool false])
  have B0 := Lib.hid ((Below.refl w.heap.size w).alloc (Nat.le_refl _) (.cells #[.int .i64 0, .bool false] 166))
  clear hv hf
  go_enter Try.func123, Try.ntmps123
  go_wp2
  go_loopw [13] (fun i wr => ∃ (k : Nat) (y : Int) (ex : Bool), k ≤ xs.length ∧ i = .int .i64 k ∧ Hid (Whole wr w.heap.size 166 #[.int .i64 y, .bool ex]) ∧ Hid (Below w.heap.size w wr) ∧ Hid (Ob.up (-1) (xs.take k) = true) ∧ Hid ((ex = false ∧ k = 0) ∨ (ex = true ∧ 0 < k ∧ y = Ob.la (-1) (xs.take k)))) (fun i _ => xs.length - (intOf i).toNat)
  case atStart => exact ⟨0, 0, false, Nat.zero_le _, rfl, W0, B0, Lib.hid rfl, Lib.hid (Or.inl ⟨rfl, rfl⟩)⟩
  case round =>
    obtain ⟨k, y, ex, hk, rfl, hW, hb, hu, hx⟩ := hrel
    by_cases hlt : k < xs.length
    · have hltz : (k : Int) < (xs.length : Int) := by omega
      obtain ⟨b, off, cap1, hn, hbl, hcc⟩ := (HV.out.below hb.out).at_ hlt
      simp only [Value.slice.injEq] at hn
      obtain ⟨rfl, -, rfl⟩ := hn
      obtain ⟨c0, c1, c2, c3⟩ := hcc k hlt
      have C := fun W => Lib.hid (hourLit_any xs[k] W)
      have hpos := Lib.hid (HF.out _ (List.getElem_mem hlt))
      clear hcc
      go_wp2_with fail
      refine (C _).out.mono ?_
      rintro e w1 ⟨rfl, b1⟩
      have hW1 := Lib.hid ((hW.out.alloc _).all b1)
      have hb1 := Lib.hid ((hb.out.alloc hb.out.size _).trans (b1.mono (by have := hb.out.size; simp; omega)))
      clear b1 c0 c1 c2 c3
      go_wp2_with fail
      refine (latI_pass _ _ _ _ _ hW1.out).mono ?_
      rintro e w2 ⟨rfl, h2, g2⟩
      have hW2 := Lib.hid h2
      have hb2 := Lib.hid (below_only hb1.out g2 (Nat.le_refl _) hb1.out.size)
      clear h2 g2 hW1 hb1 hW hb
      rcases hx.out with ⟨rfl, rfl⟩ | ⟨rfl, h0, hy⟩
      · have hu2 : Hid (Ob.up (-1) (xs.take (0 + 1)) = true) := Lib.hid (Ob.up_snoc hlt rfl (by have := hpos.out; show (-1 : Int) < _; omega))
        have hl2 : Hid (xs[0].ho = Ob.la (-1) (xs.take (0 + 1))) := Lib.hid (Ob.la_take (-1) hlt).symm
        clear hu hx
        go_wp2_with fail
        exact ⟨⟨1, xs[0].ho, true, by omega, by go_num, hW2, hb2, hu2, Lib.hid (Or.inr ⟨rfl, by omega, hl2.out⟩)⟩, by simp only [intOf]; omega⟩
      · have hl2 : Hid (xs[k].ho = Ob.la (-1) (xs.take (k + 1))) := Lib.hid (Ob.la_take (-1) hlt).symm
        have HY := Lib.hid hy
        clear hy hx
        by_cases ht : xs[k].ho ≤ y
        · have hn : Hid (Ob.up (-1) xs = false) := Lib.hid (by
            rw [Bool.eq_false_iff]; intro hc
            have h1 := Ob.up_lt hc (show k - 1 < k by omega) hlt
            have h2 := Ob.la_take (-1) (xs := xs) (show k - 1 < xs.length by omega)
            rw [show k - 1 + 1 = k by omega, ← HY.out] at h2
            omega)
          go_wp2_with fail
          go_ret
          exact ⟨ret_bool hn.out.symm, hb2.out⟩
        · have hu2 : Hid (Ob.up (-1) (xs.take (k + 1)) = true) := Lib.hid (Ob.up_snoc hlt hu.out (by rw [← HY.out]; omega))
          go_wp2_with fail
          exact ⟨⟨k + 1, xs[k].ho, true, by omega, by go_num, hW2, hb2, hu2, Lib.hid (Or.inr ⟨rfl, by omega, hl2.out⟩)⟩, by simp only [intOf]; omega⟩
    · have hltz : ¬ (k : Int) < (xs.length : Int) := by omega
      have hkz : k = xs.length := by omega
      have hn : Hid (Ob.up (-1) xs = true) := Lib.hid (by have := hu.out; rw [hkz, List.take_length] at this; exact this)
      clear hkz
      go_wp2
      go_ret
      exact ⟨ret_bool hn.out.symm, hb.out⟩
theorem not_anyO (xs : List Obs) : (xs.any fun x => !Ob.okO x) = !xs.all Ob.okO := by
  induction xs with
  | nil => rfl
  | cons x xs ih => rw [List.any_cons, List.all_cons, ih]; cases Ob.okO x <;> simp
theorem wrong_any (x : Obs) (W0 W : World) (hb : Below W0.heap.size W0 W) :
    Calls Try.prog 57 #[.agg #[.int .i64 x.ho, .int .i64 x.sn, .int .i64 x.dg, .int .i64 x.wi]] W fun e w' => e = .returned (.bool (!Ob.okO x)) ∧ Below W0.heap.size W0 w' :=
  (isWrong_any x W).mono fun _ _ ⟨h, b⟩ => ⟨h, bt hb b⟩
set_option maxHeartbeats 800000 in
theorem implValidObserved_any (w : World) (v : Value) (xs : List Obs) (hv : ObSl w v xs) (hl : xs.length ≤ 1048576) :
    Calls Try.prog 85 #[v] w fun e w' => e = .returned (.bool (Ob.okS xs)) ∧ Below w.heap.size w w' := by
  obtain ⟨a, cap, rfl⟩ := hv.form
  have C := Lib.hid (containsFuncObs_any 57 #[] (enters_of Try.func57 (by kernel_rfl) rfl) (fun x => !Ob.okO x) w _ xs hl hv (fun x W hW => wrong_any x w W hW))
  have HV := Lib.hid hv
  by_cases h16 : xs.length ≤ 48
  · have h : ¬ 48 < xs.length := by omega
    clear hv
    cases hq : xs.all Ob.okO with
    | true =>
      have hn : Hid ((xs.any fun x => !Ob.okO x) = false) := Lib.hid (by rw [not_anyO, hq]; rfl)
      have hr : Hid (Ob.okS xs = Ob.up (-1) xs) := Lib.hid (by unfold Ob.okS; rw [hq, decide_eq_true h16]; simp)
      have hf : Hid (∀ x ∈ xs, 0 ≤ x.ho) := Lib.hid (fun x hx => ((Ob.okO_iff x).1 (List.all_eq_true.1 hq x hx)).h1)
      rw [hn.out] at C
      clear hq
      go_enter Try.func85, Try.ntmps85
      go_wp2_with fail
      refine C.out.mono ?_
      rintro e w1 ⟨rfl, b1⟩
      have B1 := Lib.hid b1
      clear b1
      go_wp2_with fail
      refine (isIncreasing_any w1 _ xs (HV.out.below B1.out) hl hf.out).mono ?_
      rintro e w2 ⟨rfl, b2⟩
      have B2 := Lib.hid (bt B1.out b2)
      clear b2
      go_wp2_with fail
      go_ret
      exact ⟨ret_bool hr.out.symm, B2.out⟩
    | false =>
      have hn : Hid ((xs.any fun x => !Ob.okO x) = true) := Lib.hid (by rw [not_anyO, hq]; rfl)
      have hr : Hid (Ob.okS xs = false) := Lib.hid (by unfold Ob.okS; rw [hq]; simp)
      rw [hn.out] at C
      clear hq
      go_enter Try.func85, Try.ntmps85
      go_wp2_with fail
      refine C.out.mono ?_
      rintro e w1 ⟨rfl, b1⟩
      have B1 := Lib.hid b1
      clear b1
      go_wp2_with fail
      go_ret
      exact ⟨ret_bool hr.out.symm, B1.out⟩
  · have h : 48 < xs.length := by omega
    have hn := Lib.hid (Ob.okS_long h)
    clear hv
    go_enter Try.func85, Try.ntmps85
    go_wp2_with fail
    go_ret
    exact ⟨ret_bool hn.out.symm, Below.refl _ _⟩
theorem obsStated (a b : Bool) (w : World) : Calls Try.prog 102 #[.bool a, .bool b] w fun e w' => e = .returned (.int .i64 (Ob.cd a b 0)) ∧ w = w' := by
  cases a <;> cases b
  all_goals
    go_enter Try.func102, Try.ntmps102
    go_wp2
    go_ret
    exact ⟨rfl, rfl⟩
theorem observedCode_any (w : World) (v : Value) (xs : List Obs) (t : Bool) (hv : ObSl w v xs) (hl : xs.length ≤ 1048576) :
    Calls Try.prog 56 #[v, .bool t] w fun e w' => e = .returned (.int .i64 (Ob.cd (Ob.okS xs) t 0)) ∧ Below w.heap.size w w' := by
  have C := Lib.hid (implValidObserved_any w v xs hv hl)
  clear hv
  cases hq : Ob.okS xs <;> cases t
  all_goals
    rw [hq] at C
    clear hq
    go_enter Try.func56, Try.ntmps56
    go_wp2_with fail
    refine C.out.mono ?_
    rintro e w1 ⟨rfl, b1⟩
    have B1 := Lib.hid b1
    clear b1
    go_wp2_with fail
    refine (obsStated _ _ _).mono ?_
    rintro e w2 ⟨rfl, rfl⟩
    go_wp2_with fail
    go_ret
    exact ⟨rfl, B1.out⟩
end Go.Proofs.Ytakalehakdffiab
