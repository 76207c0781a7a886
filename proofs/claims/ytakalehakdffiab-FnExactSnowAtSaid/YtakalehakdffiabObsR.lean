/-
  SnowAt of chapter 4, by the model and by the program (a binary search). No condition of its own.
-/
import Derived.Test.YtakalehakdffiabSrch
import Derived.Test.YtakalehakdffiabLine
import Derived.Test.YtakalehakdffiabObsH
import Derived.Laws.NewBlocks
namespace Go.Proofs.Ytakalehakdffiab
open Go.RowKit Go.Shelf
set_option linter.unusedVariables false
set_option maxRecDepth 100000

noncomputable def Ob.snowV (xs : List Obs) (h : Int) : Int := Ob.vl (Ob.okS xs) (Ar.inB 0 h 100000) (Ob.snow xs h).1
noncomputable def Ob.snowC (xs : List Obs) (h : Int) : Int := Ob.cd (Ob.okS xs) (Ar.inB 0 h 100000) (Ob.snow xs h).2
theorem Ob.line_bds {x0 y0 x1 y1 x : Int} (h1 : 0 ≤ y0) (h2 : y0 ≤ 2000) (h3 : 0 ≤ y1) (h4 : y1 ≤ 2000) : True := trivial
set_option maxHeartbeats 3200000 in
theorem specSnowAt_any (w : World) (v : Value) (xs : List Obs) (h : Int) (hv : ObSl w v xs) (hl : xs.length ≤ 1048576) :
    Calls Try.prog 42 #[v, .int .i64 h] w fun e w' => e = .returned (.tuple #[.int .i64 (Ob.snowV xs h), .int .i64 (Ob.snowC xs h)]) ∧ Below w.heap.size w w' := by
  have C := Lib.hid (l04Ok_any w v xs hv hl)
  obtain ⟨a, cap, rfl⟩ := hv.form
  have HV := Lib.hid hv
  clear hv
  unfold Ob.snowV Ob.snowC
  cases hq : Ob.okS xs with
  | false =>
    rw [hq] at C
    clear hq
    go_enter Try.func42, Try.ntmps42
    go_wp2_with fail
    refine C.out.mono ?_
    rintro e w1 ⟨rfl, b1⟩
    have B1 := Lib.hid b1
    clear b1
    go_wp2_with fail
    go_ret2
    exact ⟨rfl, B1.out⟩
  | true =>
    have h48 := Ob.len_ok hq
    have HF := Lib.hid ((Ob.okS_iff xs).1 hq).2.1
    have HLt := Lib.hid (fun (i j : Nat) (hij : i < j) (hj : j < xs.length) => Ob.lt_at hq hij hj)
    have HE := Lib.hid (fun r => Ob.snow_eq (h := h) (r := r) hq)
    rw [hq] at C
    clear hq
    cases hb : Ar.inB 0 h 100000 with
    | false =>
      go_enter Try.func42, Try.ntmps42
      go_wp2_with fail
      refine C.out.mono ?_
      rintro e w1 ⟨rfl, b1⟩
      have B1 := Lib.hid b1
      clear b1
      go_wp2_with (go_at_call 93; refine (l04Hour_any _ _).mono ?_; rintro e w' ⟨rfl, rfl⟩)
      go_ret2
      exact ⟨rfl, B1.out⟩
    | true =>
      rw [Ob.vl_t, Ob.cd_t]
      go_enter Try.func42, Try.ntmps42
      go_wp2_with fail
      refine C.out.mono ?_
      rintro e w1 ⟨rfl, b1⟩
      have B1 := Lib.hid b1
      clear b1
      go_wp2_with (go_at_call 93; refine (l04Hour_any _ _).mono ?_; rintro e w' ⟨rfl, rfl⟩)
      go_loop [6] (fun i => ∃ (k : Nat), k ≤ xs.length ∧ i = .int .i64 k ∧ Hid ((∀ (j : Nat) (hj : j < xs.length), j < k → xs[j].ho < h) ∨ (0 < k ∧ ∀ (j : Nat) (hj : j < xs.length), h < xs[j].ho))) (fun i => xs.length - (intOf i).toNat)
      case atStart => exact ⟨0, Nat.zero_le _, rfl, Lib.hid (Or.inl (fun j hj h => by omega))⟩
      case round =>
        obtain ⟨k, hk, rfl, hA⟩ := hrel
        by_cases hlt : k < xs.length
        · obtain ⟨b, off, cap1, hn, hbl, hcc⟩ := (HV.out.below B1.out).at_ hlt
          simp only [Value.slice.injEq] at hn
          obtain ⟨rfl, -, rfl⟩ := hn
          obtain ⟨c0, c1, c2, c3⟩ := hcc k hlt
          rcases Int.lt_trichotomy xs[k].ho h with ht | ht | ht
          · have t1 : (xs[k].ho == h) = false := beq_eq_false_iff_ne.2 (by omega)
            have t2 : ¬ h < xs[k].ho := by omega
            have hA2 : Hid ((∀ (j : Nat) (hj : j < xs.length), j < k + 1 → xs[j].ho < h) ∨ (0 < k + 1 ∧ ∀ (j : Nat) (hj : j < xs.length), h < xs[j].ho)) := Lib.hid (Or.inl (fun j hj hjk => by
              rcases Nat.lt_or_ge j k with h1 | h1
              · have := HLt.out j k h1 hlt; omega
              · obtain rfl : j = k := by omega
                exact ht))
            clear hcc hA ht
            go_wp2
            all_goals exact ⟨⟨k + 1, by omega, by go_num, hA2⟩, by simp only [intOf]; omega⟩
          · have t1 : (xs[k].ho == h) = true := beq_iff_eq.2 ht
            have hr := Lib.hid (HE.out (xs[k].sn, 0) ⟨Or.inl ⟨k, hlt, ht, rfl⟩⟩)
            clear hcc hA ht
            go_wp2
            go_ret2
            exact ⟨ret_ii (by rw [hr.out]) (by rw [hr.out]), B1.out⟩
          · have t1 : (xs[k].ho == h) = false := beq_eq_false_iff_ne.2 (by omega)
            rcases Nat.eq_zero_or_pos k with h0 | h0
            · subst h0
              have hA2 : Hid ((∀ (j : Nat) (hj : j < xs.length), j < 0 + 1 → xs[j].ho < h) ∨ (0 < 0 + 1 ∧ ∀ (j : Nat) (hj : j < xs.length), h < xs[j].ho)) := Lib.hid (Or.inr ⟨by omega, fun j hj => by
                rcases Nat.eq_zero_or_pos j with h1 | h1
                · subst h1; exact ht
                · have := HLt.out 0 j h1 hj; omega⟩)
              simp only [Nat.zero_mul, Nat.add_zero] at c0 c1 c2 c3
              clear hcc hA
              go_wp2
              exact ⟨⟨0 + 1, by omega, by go_num, hA2⟩, by simp only [intOf]; omega⟩
            · obtain ⟨m, rfl⟩ : ∃ m, k = m + 1 := ⟨k - 1, by omega⟩
              have HD := Lib.hid (hcc m (by omega))
              obtain ⟨d0, d1, d2, d3⟩ := hcc m (by omega)
              by_cases hm : (xs[m]'(by omega)).ho < h
              · have hr := Lib.hid (HE.out (Ar.line (xs[m]'(by omega)).ho (xs[m]'(by omega)).sn xs[m + 1].ho xs[m + 1].sn h, 0) ⟨Or.inr (Or.inl ⟨m, hlt, hm, ht, rfl⟩)⟩)
                have f1 := HF.out _ (List.getElem_mem hlt)
                have f2 := HF.out _ (List.getElem_mem (show m < xs.length by omega))
                have L := fun W => Lib.hid (l01Line_any (xs[m]'(by omega)).ho (xs[m]'(by omega)).sn xs[m + 1].ho xs[m + 1].sn h W (by have := f2.h1; omega) (by have := f2.h2; omega) (by have := f2.s1; omega) (by have := f2.s2; omega) (by have := f1.h1; omega) (by have := f1.h2; omega) (by have := f1.s1; omega) (by have := f1.s2; omega))
                clear hcc hA f1 f2
                go_wp2_with fail
                go_quiet ((go_at_call 94; exact Calls.quiet_of_same ((L _).out.mono fun _ _ ⟨h, h'⟩ => ⟨h, h'.symm⟩)))
                go_wp2
                go_ret2
                exact ⟨ret_ii (by rw [hr.out]) (by rw [hr.out]), below_drewN B1.out _⟩
              · have hA2 : Hid ((∀ (j : Nat) (hj : j < xs.length), j < m + 1 + 1 → xs[j].ho < h) ∨ (0 < m + 1 + 1 ∧ ∀ (j : Nat) (hj : j < xs.length), h < xs[j].ho)) := Lib.hid (by
                  rcases hA.out with h1 | h1
                  · exact absurd (h1 m (by omega) (by omega)) hm
                  · exact Or.inr ⟨by omega, h1.2⟩)
                clear hcc hA
                go_wp2
                exact ⟨⟨m + 1 + 1, by omega, by go_num, hA2⟩, by simp only [intOf]; omega⟩
        · have hr := Lib.hid (HE.out (0, 3) ⟨Or.inr (Or.inr ⟨by
            rcases hA.out with h1 | h1
            · exact Or.inr (fun j hj => h1 j hj (by omega))
            · exact Or.inl h1.2, rfl⟩)⟩)
          clear hA
          go_wp2
          go_ret2
          exact ⟨ret_ii (by rw [hr.out]) (by rw [hr.out]), B1.out⟩
set_option maxHeartbeats 800000 in
/-- the question of the search: is an hour not behind that of an observation? -/
theorem snowLit_any (w : World) (g1 g2 b off cap : Nat) (xs : List Obs) (h : Int) (hl : xs.length ≤ 48) (k1 : w.cell? ⟨g1, 0, none⟩ = some (.slice (some ⟨b, off, none⟩) xs.length cap)) (k2 : w.cell? ⟨g2, 0, none⟩ = some (.int .i64 h))
    (hc : ∀ j (hj : j < xs.length), ObCells w b (off + j * 4) xs[j]) (i : Nat) (hi : i < xs.length) :
    Calls Try.prog 97 #[.int .i64 (i : Int), .pointer (some ⟨g2, 0, none⟩), .pointer (some ⟨g1, 0, none⟩)] w fun e w' => e = .returned (.bool (decide (h ≤ (Ob.nth xs i).ho))) ∧ ∃ q, w' = w.drewN q := by
  obtain ⟨c0, c1, c2, c3⟩ := hc i hi
  rw [Ob.nth_eq hi]
  clear hc
  go_enter Try.func97, Try.ntmps97
  go_wp2
  go_quiet (fail)
  go_wp2
  go_ret
  exact ⟨rfl, _, rfl⟩
set_option maxHeartbeats 3200000 in
theorem implSnowAt_any (w : World) (v : Value) (xs : List Obs) (h : Int) (hv : ObSl w v xs) (hl : xs.length ≤ 1048576) :
    Calls Try.prog 43 #[v, .int .i64 h] w fun e w' => e = .returned (.tuple #[.int .i64 (Ob.snowV xs h), .int .i64 (Ob.snowC xs h)]) ∧ Below w.heap.size w w' := by
  obtain ⟨a, cap, rfl⟩ := hv.form
  have K1 : Hid (Whole ((w.alloc (.cells #[.slice a xs.length cap] 26)).alloc (.cells #[.int .i64 h] 2)).drew w.heap.size 26 #[.slice a xs.length cap]) := Lib.hid (Whole.alloc (Whole.new _ _ _) _)
  have K2 : Hid (Whole ((w.alloc (.cells #[.slice a xs.length cap] 26)).alloc (.cells #[.int .i64 h] 2)).drew (w.heap.size + 1) 2 #[.int .i64 h]) := Lib.hid (by
    have := Whole.new (w.alloc (.cells #[.slice a xs.length cap] 26)) 2 #[.int .i64 h]
    have h2 : Whole ((w.alloc (.cells #[.slice a xs.length cap] 26)).alloc (.cells #[.int .i64 h] 2)) (w.heap.size + 1) 2 #[.int .i64 h] := by simpa using this
    exact h2)
  have B0 : Hid (Below w.heap.size w ((w.alloc (.cells #[.slice a xs.length cap] 26)).alloc (.cells #[.int .i64 h] 2)).drew) := Lib.hid (by
    have b := ((Below.refl w.heap.size w).alloc (Nat.le_refl _) (.cells #[.slice a xs.length cap] 26)).alloc (by simp) (.cells #[.int .i64 h] 2)
    exact ⟨b.os, b.tape, b.output, b.size, b.block⟩)
  have HV := Lib.hid hv
  clear hv
  unfold Ob.snowV Ob.snowC
  go_enter Try.func43, Try.ntmps43
  go_wp2
  go_region_held3 (fun w' => w'.cell? ⟨w.heap.size, 0, none⟩ = some (.slice a xs.length cap) ∧ w'.cell? ⟨w.heap.size + 1, 0, none⟩ = some (.int .i64 h)) (go_keep) (first | (go_at_call 95; refine (isObservedHour_any _ _).mono ?_; rintro e w' ⟨rfl, rfl⟩) | (go_at_call 56; refine (observedCode_any _ _ xs _ (by exact HV.out.below B0.out) hl).mono ?_; rintro e w1 ⟨rfl, b1⟩; have k1 : w1.cell? ⟨w.heap.size, 0, none⟩ = some (.slice a xs.length cap) := (K1.out.all b1).at_ 0; have k2 : w1.cell? ⟨w.heap.size + 1, 0, none⟩ = some (.int .i64 h) := (K2.out.all b1).at_ 0; have BB := Lib.hid (bt B0.out b1)))
  clear K1 K2 B0 b1
  cases hq : Ob.okS xs with
  | false =>
    have HQ := Lib.hid hq
    clear hq
    rw [Ob.cd_f]
    go_wp2
    go_ret2
    exact ⟨ret_ii (by rw [HQ.out]; rfl) (by rw [HQ.out]; rfl), BB.out⟩
  | true =>
    have h48 := Ob.len_ok hq
    have HF := Lib.hid ((Ob.okS_iff xs).1 hq).2.1
    have HLt := Lib.hid (fun (i j : Nat) (hij : i < j) (hj : j < xs.length) => Ob.lt_at hq hij hj)
    have HE := Lib.hid (fun r => Ob.snow_eq (h := h) (r := r) hq)
    have HQ := Lib.hid hq
    clear hq
    cases hb : Ar.inB 0 h 100000 with
    | false =>
      have HB2 := Lib.hid hb
      rw [Ob.cd_tf]
      go_wp2
      go_ret2
      exact ⟨ret_ii (by rw [HQ.out, HB2.out]; rfl) (by rw [HQ.out, HB2.out]; rfl), BB.out⟩
    | true =>
      have HB2 := Lib.hid hb
      rw [Ob.cd_t]
      by_cases h0 : xs.length = 0
      · have hz : ((xs.length : Int) == 0) = true := by rw [h0]; rfl
        have hr := Lib.hid (HE.out (0, 3) ⟨Or.inr (Or.inr ⟨Or.inl (fun j hj => by omega), rfl⟩)⟩)
        rw [h0] at k1
        clear h0 HLt HE
        go_wp2
        go_quiet (fail)
        go_wp2
        go_ret2
        exact ⟨ret_ii (by rw [HQ.out, HB2.out, hr.out]; rfl) (by rw [HQ.out, HB2.out, hr.out]; rfl), below_drewN BB.out _⟩
      · have hp : 0 < xs.length := by omega
        clear h0
        have hz : ((xs.length : Int) == 0) = false := beq_eq_false_iff_ne.2 (by omega)
        have m1 : IntKind.i64.wrap ((xs.length : Int) - 1) = (xs.length : Int) - 1 := IntWalk.i64_in _ (by omega)
        have m2 : (0 : Int) ≤ (xs.length : Int) - 1 := by omega
        have m3 : ((xs.length : Int) - 1).toNat = xs.length - 1 := by omega
        obtain ⟨b, off, cap1, hn, hbl, hcc⟩ := (HV.out.below BB.out).at_ hp
        simp only [Value.slice.injEq] at hn
        obtain ⟨rfl, -, rfl⟩ := hn
        have HC := Lib.hid hcc
        have c0 : w1.cell? ⟨b, off, none⟩ = some (.int .i64 xs[0].ho) := by have := (hcc 0 hp).c0; simpa using this
        have d0 : w1.cell? ⟨b, off + (xs.length - 1) * 4, none⟩ = some (.int .i64 (xs[xs.length - 1]'(by omega)).ho) := (hcc (xs.length - 1) (by omega)).c0
        clear hcc
        cases hw : Ar.inB xs[0].ho h (xs[xs.length - 1]'(by omega)).ho with
        | false =>
          have hr := Lib.hid (HE.out (0, 3) ⟨Or.inr (Or.inr ⟨by
            have hno : ¬ (xs[0].ho ≤ h ∧ h ≤ (xs[xs.length - 1]'(by omega)).ho) := fun hc => by rw [Ob.inB_iff.2 hc] at hw; cases hw
            by_cases h1 : xs[0].ho ≤ h
            · refine Or.inr (fun j hj => ?_)
              rcases Nat.lt_or_ge j (xs.length - 1) with h2 | h2
              · have := HLt.out j (xs.length - 1) h2 (by omega); omega
              · obtain rfl : j = xs.length - 1 := by omega
                omega
            · refine Or.inl (fun j hj => ?_)
              rcases Nat.eq_zero_or_pos j with h2 | h2
              · subst h2; omega
              · have := HLt.out 0 j h2 hj; omega, rfl⟩)⟩)
          clear HLt HE
          go_wp2
          go_quiet ((go_at_call 76; exact Calls.quiet_of_same ((within_any _ _ _ _).mono fun _ _ ⟨h, h'⟩ => ⟨h, h'.symm⟩)))
          go_wp2
          go_ret2
          exact ⟨ret_ii (by rw [HQ.out, HB2.out, hr.out]; rfl) (by rw [HQ.out, HB2.out, hr.out]; rfl), below_drewN BB.out _⟩
        | true =>
          have hin := Ob.inB_iff.1 hw
          have hmf : ∀ (fn : Fn) (first cap : Array Value) (w : World), (Instr.makeFunc fn first cap).run Try.prog w = .ok (.func fn first cap) w := fun _ _ _ _ => rfl
          have SE := fun q => Lib.hid ((search_any 97 #[.pointer (some ⟨w.heap.size + 1, 0, none⟩), .pointer (some ⟨w.heap.size, 0, none⟩)] (enters_of Try.func97 (by kernel_rfl) rfl) xs.length (fun i => decide (h ≤ (Ob.nth xs i).ho)) (w1.drewN q) hl
            (fun q' i hi => (snowLit_any ((w1.drewN q).drewN q') w.heap.size (w.heap.size + 1) b off cap xs h h48 (by simpa using k1) (by simpa using k2) (fun j hj => ((HC.out j hj).drewN q).drewN q') i hi).mono fun _ _ ⟨he, q1, hq⟩ => ⟨he, q' + q1, by rw [hq, World.drewN_drewN]⟩)
            (fun i j hij hj hpi => by
              simp only [decide_eq_true_eq] at hpi ⊢
              rw [Ob.nth_eq (by omega)] at hpi
              rw [Ob.nth_eq hj]
              rcases Nat.lt_or_ge i j with h1 | h1
              · have := HLt.out i j h1 hj; omega
              · obtain rfl : i = j := by omega
                exact hpi)).mono fun _ _ hs => hs.below)
          have HK1 := Lib.hid k1
          have HK2 := Lib.hid k2
          go_wp2
          go_quiet ((go_at_call 76; exact Calls.quiet_of_same ((within_any _ _ _ _).mono fun _ _ ⟨h, h'⟩ => ⟨h, h'.symm⟩)))
          go_wp2_with fail
          refine (SE _).out.mono ?_
          rintro e w4 ⟨k, hk, rfl, hlo, hhi, b4⟩
          have R4 := Lib.hid (bt (below_drewW w1 _) b4)
          have B4 := Lib.hid (bt BB.out R4.out)
          have hkl : k < xs.length := by
            rcases Nat.lt_or_ge k xs.length with h1 | h1
            · exact h1
            · have := hlo (xs.length - 1) (by omega)
              simp only [decide_eq_false_iff_not] at this
              rw [Ob.nth_eq (by omega)] at this
              omega
          have hge : h ≤ xs[k].ho := by
            have := hhi k (Nat.le_refl _) hkl
            simp only [decide_eq_true_eq] at this
            rwa [Ob.nth_eq hkl] at this
          have hbf : ∀ j (hj : j < k), (xs[j]'(by omega)).ho < h := fun j hj => by
            have := hlo j hj
            simp only [decide_eq_false_iff_not] at this
            rw [Ob.nth_eq (by omega)] at this
            omega
          have k1 : w4.cell? ⟨w.heap.size, 0, none⟩ = some (.slice (some ⟨b, off, none⟩) xs.length cap) := (R4.out.cell (p := ⟨w.heap.size, 0, none⟩) (World.block_lt_of_cell? w1 _ HK1.out)).trans HK1.out
          have k2 : w4.cell? ⟨w.heap.size + 1, 0, none⟩ = some (.int .i64 h) := (R4.out.cell (p := ⟨w.heap.size + 1, 0, none⟩) (World.block_lt_of_cell? w1 _ HK2.out)).trans HK2.out
          have HC4 := Lib.hid (fun j hj => (HC.out j hj).below R4.out hbl)
          obtain ⟨x0, x1, x2, x3⟩ := HC4.out k hkl
          clear c0 d0 b4 hlo hhi SE
          rcases Int.lt_or_eq_of_le hge with hgt | heq
          · have te : (xs[k].ho == h) = false := beq_eq_false_iff_ne.2 (by omega)
            have hk0 : 0 < k := by
              rcases Nat.eq_zero_or_pos k with h1 | h1
              · subst h1; omega
              · exact h1
            obtain ⟨m, rfl⟩ : ∃ m, k = m + 1 := ⟨k - 1, by omega⟩
            have hlt := hbf m (Nat.lt_succ_self m)
            have hr := Lib.hid (HE.out (Ar.line (xs[m]'(by omega)).ho (xs[m]'(by omega)).sn xs[m + 1].ho xs[m + 1].sn h, 0) ⟨Or.inr (Or.inl ⟨m, hkl, hlt, hgt, rfl⟩)⟩)
            obtain ⟨y0, y1, y2, y3⟩ := HC4.out m (by omega)
            have f1 := HF.out _ (List.getElem_mem hkl)
            have f2 := HF.out _ (List.getElem_mem (show m < xs.length by omega))
            have L := fun W => Lib.hid (lineAt_any (xs[m]'(by omega)).ho (xs[m]'(by omega)).sn xs[m + 1].ho xs[m + 1].sn h W (by have := f2.h1; omega) (by have := f2.h2; omega) (by have := f2.s1; omega) (by have := f2.s2; omega) (by have := f1.h1; omega) (by have := f1.h2; omega) (by have := f1.s1; omega) (by have := f1.s2; omega))
            have hwm : IntKind.i64.wrap (m : Int) = m := IntWalk.i64_in _ (by omega)
            have l1 : w.heap.size < w4.heap.size := World.block_lt_of_cell? w4 _ k1
            have l2 : w.heap.size + 1 < w4.heap.size := World.block_lt_of_cell? w4 _ k2
            have l3 : b < w4.heap.size := World.block_lt_of_cell? w4 _ x0
            have l4 : w.heap.size < w4.heap.size + 1 := by omega
            have l5 : w.heap.size + 1 < w4.heap.size + 1 := by omega
            have l6 : b < w4.heap.size + 1 := by omega
            have l7 : m < xs.length := by omega
            have l8 : (0 : Int) ≤ (m : Int) + 1 := by omega
            have l9 : (m : Int) + 1 < (xs.length : Int) := by omega
            have A := fun (q : Nat) (v0 v1 v2 v3 : Value) (o : Obj) => Whole.alloc (Whole.new (w4.drewN q) 30 #[v0, v1, v2, v3]) o
            have a0 : ∀ (q : Nat) (v0 v1 v2 v3 : Value) (o : Obj), (((w4.drewN q).alloc (.cells #[v0, v1, v2, v3] 30)).alloc o).cell? ⟨w4.heap.size, 0, none⟩ = some v0 := fun q v0 v1 v2 v3 o => (A q v0 v1 v2 v3 o).at_ 0
            have b0 : ∀ (q : Nat) (v0 v1 v2 v3 : Value) (o : Obj), (((w4.drewN q).alloc (.cells #[v0, v1, v2, v3] 30)).alloc o).frozen? ⟨w4.heap.size, 0, none⟩ = false := fun q v0 v1 v2 v3 o => (A q v0 v1 v2 v3 o).free 0
            have s0 : ∀ (q : Nat) (v0 v1 v2 v3 u : Value), ((w4.drewN q).alloc (.cells #[v0, v1, v2, v3] 30)).setCell ⟨w4.heap.size, 0, none⟩ u = (w4.drewN q).alloc (.cells #[u, v1, v2, v3] 30) := fun q v0 v1 v2 v3 u => World.setCell_alloc_at (w := w4.drewN q) _ _ _ _ _ rfl
            have a1 : ∀ (q : Nat) (v0 v1 v2 v3 : Value) (o : Obj), (((w4.drewN q).alloc (.cells #[v0, v1, v2, v3] 30)).alloc o).cell? ⟨w4.heap.size, 1, none⟩ = some v1 := fun q v0 v1 v2 v3 o => (A q v0 v1 v2 v3 o).at_ 1
            have b1 : ∀ (q : Nat) (v0 v1 v2 v3 : Value) (o : Obj), (((w4.drewN q).alloc (.cells #[v0, v1, v2, v3] 30)).alloc o).frozen? ⟨w4.heap.size, 1, none⟩ = false := fun q v0 v1 v2 v3 o => (A q v0 v1 v2 v3 o).free 1
            have s1 : ∀ (q : Nat) (v0 v1 v2 v3 u : Value), ((w4.drewN q).alloc (.cells #[v0, v1, v2, v3] 30)).setCell ⟨w4.heap.size, 1, none⟩ u = (w4.drewN q).alloc (.cells #[v0, u, v2, v3] 30) := fun q v0 v1 v2 v3 u => World.setCell_alloc_at (w := w4.drewN q) _ _ _ _ _ rfl
            have a2 : ∀ (q : Nat) (v0 v1 v2 v3 : Value) (o : Obj), (((w4.drewN q).alloc (.cells #[v0, v1, v2, v3] 30)).alloc o).cell? ⟨w4.heap.size, 2, none⟩ = some v2 := fun q v0 v1 v2 v3 o => (A q v0 v1 v2 v3 o).at_ 2
            have b2 : ∀ (q : Nat) (v0 v1 v2 v3 : Value) (o : Obj), (((w4.drewN q).alloc (.cells #[v0, v1, v2, v3] 30)).alloc o).frozen? ⟨w4.heap.size, 2, none⟩ = false := fun q v0 v1 v2 v3 o => (A q v0 v1 v2 v3 o).free 2
            have s2 : ∀ (q : Nat) (v0 v1 v2 v3 u : Value), ((w4.drewN q).alloc (.cells #[v0, v1, v2, v3] 30)).setCell ⟨w4.heap.size, 2, none⟩ u = (w4.drewN q).alloc (.cells #[v0, v1, u, v3] 30) := fun q v0 v1 v2 v3 u => World.setCell_alloc_at (w := w4.drewN q) _ _ _ _ _ rfl
            have a3 : ∀ (q : Nat) (v0 v1 v2 v3 : Value) (o : Obj), (((w4.drewN q).alloc (.cells #[v0, v1, v2, v3] 30)).alloc o).cell? ⟨w4.heap.size, 3, none⟩ = some v3 := fun q v0 v1 v2 v3 o => (A q v0 v1 v2 v3 o).at_ 3
            have b3 : ∀ (q : Nat) (v0 v1 v2 v3 : Value) (o : Obj), (((w4.drewN q).alloc (.cells #[v0, v1, v2, v3] 30)).alloc o).frozen? ⟨w4.heap.size, 3, none⟩ = false := fun q v0 v1 v2 v3 o => (A q v0 v1 v2 v3 o).free 3
            have s3 : ∀ (q : Nat) (v0 v1 v2 v3 u : Value), ((w4.drewN q).alloc (.cells #[v0, v1, v2, v3] 30)).setCell ⟨w4.heap.size, 3, none⟩ u = (w4.drewN q).alloc (.cells #[v0, v1, v2, u] 30) := fun q v0 v1 v2 v3 u => World.setCell_alloc_at (w := w4.drewN q) _ _ _ _ _ rfl
            have kk : ∀ (q : Nat) (o o' : Obj), (((w4.drewN q).alloc o).alloc o').cell? ⟨w.heap.size + 1, 0, none⟩ = some (.int .i64 h) := fun q o o' => by
              have b : Below w4.heap.size w4 (((w4.drewN q).alloc o).alloc o') := ((below_drewW w4 q).alloc (Nat.le_refl _) o).alloc (by simp) o'
              exact (b.cell (p := ⟨w.heap.size + 1, 0, none⟩) l2).trans k2
            have BF := fun (q : Nat) (o o' : Obj) => Lib.hid (((below_drewN B4.out q).alloc B4.out.size o).alloc (by have := B4.out.size; simp; omega) o')
            clear A
            clear hbf hge hin f1 f2 HLt HE hw
            go_wp2
            go_quiet (fail)
            go_wp2
            go_region_held3 (fun w' => w'.cell? ⟨w.heap.size, 0, none⟩ = some (.slice (some ⟨b, off, none⟩) xs.length cap) ∧ w'.cell? ⟨b, off + m * 4, none⟩ = some (.int .i64 (xs[m]'(by omega)).ho) ∧ w'.cell? ⟨b, off + m * 4 + 1, none⟩ = some (.int .i64 (xs[m]'(by omega)).sn) ∧ w'.cell? ⟨b, off + m * 4 + 2, none⟩ = some (.int .i64 (xs[m]'(by omega)).dg) ∧ w'.cell? ⟨b, off + m * 4 + 3, none⟩ = some (.int .i64 (xs[m]'(by omega)).wi) ∧ w'.cell? ⟨b, off + (m + 1) * 4, none⟩ = some (.int .i64 xs[m + 1].ho) ∧ w'.cell? ⟨b, off + (m + 1) * 4 + 1, none⟩ = some (.int .i64 xs[m + 1].sn) ∧ w'.cell? ⟨b, off + (m + 1) * 4 + 2, none⟩ = some (.int .i64 xs[m + 1].dg) ∧ w'.cell? ⟨b, off + (m + 1) * 4 + 3, none⟩ = some (.int .i64 xs[m + 1].wi)) (go_keep) (fail)
            all_goals
              go_wp2_with fail
              refine (L _).out.mono ?_
              rintro e w5 ⟨rfl, rfl⟩
              go_wp2
              go_ret2
              exact ⟨ret_ii (by rw [HQ.out, HB2.out, hr.out]; rfl) (by rw [HQ.out, HB2.out, hr.out]; rfl), (BF _ _ _).out⟩
          · have te : (xs[k].ho == h) = true := beq_iff_eq.2 heq.symm
            have hr := Lib.hid (HE.out (xs[k].sn, 0) ⟨Or.inl ⟨k, hkl, heq.symm, rfl⟩⟩)
            clear hbf hge heq hin HLt HE hw
            go_wp2
            go_quiet (fail)
            go_wp2
            go_ret2
            exact ⟨ret_ii (by rw [HQ.out, HB2.out, hr.out]; rfl) (by rw [HQ.out, HB2.out, hr.out]; rfl), below_drewN B4.out _⟩
end Go.Proofs.Ytakalehakdffiab
