/-
  Chapter 7 by the model: the index of a layer, the weakest layer, when a profile is stable. No condition of its own.
-/
import Derived.Test.YtaldmdammipfjaaDoorStF
namespace Go.Proofs.YtaldmdammipfjaaDoor
open Go.RowKit Go.Shelf
set_option linter.unusedVariables false
set_option maxRecDepth 100000

set_option maxHeartbeats 3200000 in
theorem l07Index_any (w : World) (v : Value) (xs : List Lay) (k : Nat) (m ri ru d : Int) (hv : LAs w v xs) (hk : k < xs.length) (hf : Sb.Fine xs ri ru d) (m0 : 0 ≤ m) (m1 : m ≤ 1000000) :
    Calls Tryd.prog 103 #[v, .int .i64 k, .int .i64 m, .int .i64 ri, .int .i64 ru, .int .i64 d] w fun e w' => e = .returned (.tuple #[.int .i64 (Sb.ix m ri ru d xs k xs[k]), .int .i64 (Sb.ixH m ri ru d xs k xs[k])]) ∧ Below w.heap.size w w' := by
  obtain ⟨B, b, cap, rfl, ho⟩ := hv
  have hcell := LAs.cells ho.sl hk
  have hfx := hf.fits _ (List.getElem_mem hk)
  have hl := hf.len
  have hkz : (k : Int) < (xs.length : Int) := by omega
  have C1 := Lib.hid (l03Load_any B w b cap xs.length xs k hk hf.okp ho)
  obtain ⟨S0, S1⟩ := Sb.sum_bd (xs := xs.drop (k + 1)) (fun x hx => hf.fits x (List.mem_of_mem_drop hx)) (by rw [List.length_drop]; omega)
  have hi1 : Hid (Sb.ix m ri ru d xs k xs[k] = Sb.ixl (Sb.st (La.sm La.mass (xs.drop (k + 1)) + m) ri ru) (Sb.lo xs[k] d)) := Lib.hid (by unfold Sb.ix; rw [Int.add_comm m])
  have hi2 : Hid (Sb.ixH m ri ru d xs k xs[k] = Sb.ixh (Sb.st (La.sm La.mass (xs.drop (k + 1)) + m) ri ru) (Sb.hi xs[k] d)) := Lib.hid (by unfold Sb.ixH; rw [Int.add_comm m])
  obtain ⟨lo0, lo1⟩ := Sb.lo_bd hfx hf.d0 hf.d1
  obtain ⟨h0, h1⟩ := Sb.hi_bd hfx hf.d0 hf.d1
  have C3 := Lib.hid (l07Strength_any xs[k] d b (k * 7) w hcell hfx hf.d0 hf.d1)
  have hslo := hf.slo
  clear hcell hfx ho hf
  generalize La.sm La.mass (xs.drop (k + 1)) = S at *
  obtain ⟨s0, s1⟩ := Sb.st_bd (l := S + m) hslo (by omega) (by omega)
  have C2 := Lib.hid (fun W => l07Stress_any (S + m) ri ru W hslo (by omega) (by omega))
  generalize Sb.st (S + m) ri ru = s at *
  generalize Sb.ix m ri ru d xs k xs[k] = r1 at *
  generalize Sb.ixH m ri ru d xs k xs[k] = r2 at *
  generalize Sb.lo xs[k] d = lo at *
  generalize Sb.hi xs[k] d = hi at *
  by_cases hs : s = 0
  · have e1 : Hid (r1 = 1000000) := Lib.hid (by rw [hi1.out]; unfold Sb.ixl; rw [if_pos hs])
    have e2 : Hid (r2 = 1000000) := Lib.hid (by rw [hi2.out]; unfold Sb.ixh; rw [if_pos hs])
    clear hi1 hi2 hslo
    subst hs
    go_enter Tryd.func103, Tryd.ntmps103
    go_wp2_with fail
    refine C1.out.mono ?_
    rintro e w1 ⟨rfl, rfl⟩
    go_wp2_with fail
    refine (C2.out _).mono ?_
    rintro e w1 ⟨rfl, rfl⟩
    go_wp2_with fail
    go_ret2
    exact ⟨ret_ii e1.out.symm e2.out.symm, Below.refl _ _⟩
  · have e1 : Hid (r1 = min 1000000 (lo * 1000 / s)) := Lib.hid (by rw [hi1.out]; unfold Sb.ixl; rw [if_neg hs, Int.mul_comm 1000])
    have e2 : Hid (r2 = min 1000000 ((hi * 1000 + s - 1) / s)) := Lib.hid (by rw [hi2.out]; unfold Sb.ixh; rw [if_neg hs, Int.mul_comm 1000])
    have hsb : (s == 0) = false := by simpa using hs
    have hq1 : 0 ≤ lo * 1000 / s := Int.ediv_nonneg (by omega) s0
    have hq2 : 0 ≤ (hi * 1000 + s - 1) / s := Int.ediv_nonneg (by omega) s0
    clear hi1 hi2 hslo
    go_enter Tryd.func103, Tryd.ntmps103
    go_wp2_with fail
    refine C1.out.mono ?_
    rintro e w1 ⟨rfl, rfl⟩
    go_wp2_with fail
    refine (C2.out _).mono ?_
    rintro e w1 ⟨rfl, rfl⟩
    go_wp2_with fail
    refine C3.out.mono ?_
    rintro e w1 ⟨rfl, b1⟩
    have B1 := Lib.hid b1
    clear b1
    go_wp2_with fail
    go_quiet ((go_at_call 134; exact Calls.quiet_of_same ((l00Min_any _ _ _).mono fun _ _ ⟨h, h'⟩ => ⟨h, h'.symm⟩)))
    go_wp2
    go_ret2
    exact ⟨ret_ii e1.out.symm e2.out.symm, bt B1.out (below_drewW _ _)⟩
set_option maxHeartbeats 3200000 in
theorem l07Weakest_any (w : World) (v : Value) (xs : List Lay) (m ri ru d : Int) (hv : LAs w v xs) (hf : Sb.Fine xs ri ru d) (m0 : 0 ≤ m) (m1 : m ≤ 1000000) :
    Calls Tryd.prog 62 #[v, .int .i64 m, .int .i64 ri, .int .i64 ru, .int .i64 d] w fun e w' => e = .returned (.tuple #[.int .i64 (Sb.wkB (Sb.ixs m ri ru d xs)), .int .i64 (Sb.wkL (Sb.ixs m ri ru d xs))]) ∧ Below w.heap.size w w' := by
  have HV := Lib.hid hv
  have HF := Lib.hid hf
  obtain ⟨B, b, cap, rfl, ho⟩ := hv
  have hl := hf.len
  have HL := Lib.hid (Sb.ixs_length m ri ru d xs)
  clear ho hf
  go_enter Tryd.func62, Tryd.ntmps62
  go_wp2
  go_loopw [12, 13, 14] (fun s7 s8 s9 wr => ∃ (k : Nat) (best least : Int), k ≤ xs.length ∧ s9 = .int .i64 k ∧ s7 = .int .i64 best ∧ s8 = .int .i64 least ∧ Hid (Sb.Wp ((Sb.ixs m ri ru d xs).take k) best least) ∧ Hid (Below w.heap.size w wr)) (fun _ _ i _ => xs.length - (intOf i).toNat)
  case atStart => exact ⟨0, -1, 0, Nat.zero_le _, rfl, rfl, rfl, Lib.hid Sb.Wp.none, Lib.hid (Below.refl _ _)⟩
  case round =>
    obtain ⟨k, best, least, hk, rfl, rfl, rfl, hp, hbw⟩ := hrel
    by_cases hlt : k < xs.length
    · have hltz : (k : Int) < (xs.length : Int) := by omega
      have C := Lib.hid (l07Index_any wr _ xs k m ri ru d (HV.out.all hbw.out) hlt HF.out m0 m1)
      have hn := Lib.hid (Sb.ixs_take (m := m) (ri := ri) (ru := ru) (d := d) hlt)
      have hkl : Hid (((Sb.ixs m ri ru d xs).take k).length = k) := Lib.hid (by rw [List.length_take, HL.out]; omega)
      generalize Sb.ix m ri ru d xs k xs[k] = z at *
      generalize Sb.ixH m ri ru d xs k xs[k] = z' at *
      by_cases h1 : best < 0
      · have N : Hid (Sb.Wp ((Sb.ixs m ri ru d xs).take (k + 1)) (k : Int) z) := Lib.hid (by
          have := hp.out.new (z := z) (Or.inl h1); rw [hkl.out] at this; rw [hn.out]; exact this)
        clear hn hkl hp
        go_wp2_with fail
        refine C.out.mono ?_
        rintro e w1 ⟨rfl, b1⟩
        have B1 := Lib.hid (bt hbw.out b1)
        clear b1 hbw
        go_wp2_with fail
        exact ⟨⟨k + 1, k, z, by omega, by go_num, rfl, rfl, N, B1⟩, by simp only [intOf]; omega⟩
      · by_cases h2 : z < least
        · have N : Hid (Sb.Wp ((Sb.ixs m ri ru d xs).take (k + 1)) (k : Int) z) := Lib.hid (by
            have := hp.out.new (z := z) (Or.inr h2); rw [hkl.out] at this; rw [hn.out]; exact this)
          clear hn hkl hp
          go_wp2_with fail
          refine C.out.mono ?_
          rintro e w1 ⟨rfl, b1⟩
          have B1 := Lib.hid (bt hbw.out b1)
          clear b1 hbw
          go_wp2_with fail
          exact ⟨⟨k + 1, k, z, by omega, by go_num, rfl, rfl, N, B1⟩, by simp only [intOf]; omega⟩
        · have N : Hid (Sb.Wp ((Sb.ixs m ri ru d xs).take (k + 1)) best least) := Lib.hid (by
            rw [hn.out]; exact hp.out.keep h1 h2)
          clear hn hkl hp
          go_wp2_with fail
          refine C.out.mono ?_
          rintro e w1 ⟨rfl, b1⟩
          have B1 := Lib.hid (bt hbw.out b1)
          clear b1 hbw
          go_wp2_with fail
          exact ⟨⟨k + 1, best, least, by omega, by go_num, rfl, rfl, N, B1⟩, by simp only [intOf]; omega⟩
    · have hltz : ¬ (k : Int) < (xs.length : Int) := by omega
      have hkn : k = xs.length := by omega
      have HR : Hid (best = Sb.wkB (Sb.ixs m ri ru d xs) ∧ least = Sb.wkL (Sb.ixs m ri ru d xs)) := Lib.hid (by
        have := hp.out.fin
        rwa [hkn, ← HL.out, List.take_length] at this)
      clear hkn hp
      go_wp2
      go_ret2
      exact ⟨ret_ii HR.out.1 HR.out.2, hbw.out⟩
set_option maxHeartbeats 800000 in
theorem l07Ask_any (w : World) (v : Value) (xs : List Lay) (ri ru d : Int) (hv : LSl w v xs) (hl : xs.length ≤ 1048576) :
    Calls Tryd.prog 61 #[v, .int .i64 ri, .int .i64 ru, .int .i64 d] w fun e w' => e = .returned (.int .i64 (Sb.cd (La.okP xs) (Sb.sd ri ru d))) ∧ w = w' := by
  have C1 := Lib.hid (l03Ok_any w v xs hv hl)
  have C2 := Lib.hid (fun W => l07Slope_any ri ru W)
  have C3 := Lib.hid (fun W => l07Doubt_any d W)
  clear hv
  unfold Sb.sd
  generalize La.okP xs = p at *
  generalize Sb.slo ri ru = q at *
  generalize Ar.inB 0 d 1000 = r at *
  cases p
  · go_enter Tryd.func61, Tryd.ntmps61
    go_wp2_with fail
    refine C1.out.mono ?_
    rintro e w1 ⟨rfl, rfl⟩
    go_wp2_with fail
    go_ret
    exact ⟨rfl, rfl⟩
  · cases q
    · go_enter Tryd.func61, Tryd.ntmps61
      go_wp2_with fail
      refine C1.out.mono ?_
      rintro e w1 ⟨rfl, rfl⟩
      go_wp2_with fail
      refine (C2.out _).mono ?_
      rintro e w1 ⟨rfl, rfl⟩
      go_wp2_with fail
      go_ret
      exact ⟨rfl, rfl⟩
    · cases r <;> (
        go_enter Tryd.func61, Tryd.ntmps61
        go_wp2_with fail
        refine C1.out.mono ?_
        rintro e w1 ⟨rfl, rfl⟩
        go_wp2_with fail
        refine (C2.out _).mono ?_
        rintro e w1 ⟨rfl, rfl⟩
        go_wp2_with fail
        refine (C3.out _).mono ?_
        rintro e w1 ⟨rfl, rfl⟩
        go_wp2_with fail
        go_ret
        exact ⟨rfl, rfl⟩)
end Go.Proofs.YtaldmdammipfjaaDoor
