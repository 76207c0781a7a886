/-
  Chapter 5 by the model: a profile warmed. No condition of its own.
-/
import Derived.Test.YtbdhdlgenfpjgaaDoorHrS
import Derived.Test.YtbdhdlgenfpjgaaDoorHrB
import Derived.StillTailTactics
namespace Go.Proofs.YtbdhdlgenfpjgaaDoor
open Go.RowKit Go.Shelf
set_option linter.unusedVariables false
set_option maxRecDepth 100000

set_option maxHeartbeats 3200000 in
theorem l05Warm_any (B b cap : Nat) (w : World) (xs : List Lay) (q : Int) (ho : LOwn B w (.slice (some ⟨b, 0, none⟩) xs.length cap) xs) (hq : La.okP xs = true) (q0 : 0 ≤ q) (q1 : q ≤ 100000000) :
    Calls Tryd.prog 30 #[.slice (some ⟨b, 0, none⟩) xs.length cap, .int .i64 q] w (RLI w (La.top La.wrm xs q).1 (La.top La.wrm xs q).2.1) := by
  obtain ⟨h16, hfit⟩ := (La.okP_iff xs).1 hq
  have C := Lib.hid (l05Own_any B b cap w xs ho (by omega))
  have HF := Lib.hid hfit
  clear ho hq hfit
  go_enter Tryd.func30, Tryd.ntmps30
  go_wp2_with fail
  refine C.out.mono ?_
  rintro e w1 ⟨g, cap1, rfl, o1, b1⟩
  have hg := o1.base
  have O1 := Lib.hid o1
  have B1 := Lib.hid b1
  clear o1 b1 C
  go_wp2_with fail
  go_loopw [1, 7] (fun r i wr => ∃ (m : Nat) (l : Int) (ys : List Lay), m ≤ xs.length ∧ i = .int .i64 ((m : Int) - 1) ∧ r = .int .i64 l ∧ Hid (La.top La.wrm (xs.drop m) q = (ys, l, true)) ∧ Hid (0 ≤ l ∧ l ≤ 100000000) ∧ Hid (Below w.heap.size w wr) ∧ Hid (LOwn w.heap.size wr (.slice (some ⟨g, 0, none⟩) xs.length cap1) (xs.take m ++ ys))) (fun _ i _ => (intOf i + 1).toNat)
  case atStart => exact ⟨xs.length, q, [], Nat.le_refl _, rfl, rfl, Lib.hid (La.top_end xs), Lib.hid ⟨q0, q1⟩, B1, Lib.hid (by simpa using O1.out)⟩
  case round =>
    obtain ⟨m, l, ys, hm, rfl, rfl, ht, hI, hb, ho⟩ := hrel
    rcases m with _ | j
    · rw [show ((0 : Nat) : Int) - 1 = -1 from rfl]
      have HT : Hid (La.top La.wrm xs q = (ys, l, true)) := Lib.hid (La.top_all ht.out)
      have OO : Hid (LOwn w.heap.size wr (.slice (some ⟨g, 0, none⟩) xs.length cap1) ys) := Lib.hid (by simpa using ho.out)
      clear ht ho
      go_wp2
      go_ret2
      exact RLI.yes ⟨by rw [HT.out], by rw [HT.out]⟩ OO.out hb.out
    · rw [show ((j + 1 : Nat) : Int) - 1 = (j : Int) by omega]
      have hlt : j < xs.length := by omega
      have hj0 : ¬ (j : Int) < 0 := by omega
      have hj1 : (0 : Int) ≤ j := by omega
      have hji : (j : Int) < xs.length := by omega
      obtain ⟨hl0, hl1⟩ := hI.out
      have FX := HF.out xs[j] (List.getElem_mem hlt)
      have i1 := FX.i1; have i2 := FX.i2; have a1 := FX.w1; have a2 := FX.w2; have g1 := FX.g1; have g2 := FX.g2
      obtain ⟨k1, k2⟩ := La.cold_bd FX
      have HON := Lib.hid (La.top_on hlt ht.out)
      have MID := Lib.hid (fun W (h : LOwn w.heap.size W (.slice (some ⟨g, 0, none⟩) xs.length cap1) (xs.take (j + 1) ++ ys)) => h.mid hlt)
      have HC := Lib.hid (ho.out.mid_cells hlt)
      have CC := Lib.hid (l03Cold_any xs[j] g (j * 7) wr HC.out FX)
      have HFR := Lib.hid (fun W (h : LOwn w.heap.size W (.slice (some ⟨g, 0, none⟩) xs.length cap1) (xs.take (j + 1) ++ ys)) => h.mid_cells hlt)
      have HW := Lib.hid (La.wrm_ok FX hl0)
      have D1 := Lib.hid (La.deg_bd FX hl0)
      have D2 := Lib.hid (La.deg_cold FX hl0)
      have hz : (21 * xs[j].ic == 0) = false := by rw [beq_eq_false_iff_ne]; omega
      have hdg : Hid (La.deg xs[j] l = l * 1000 / (21 * xs[j].ic)) := Lib.hid rfl
      by_cases hc : l < La.cold xs[j]
      · have d1 := D1.out
        have d2 := D2.out hc
        have hr := Lib.hid (wrm_f hc)
        have e0 : Hid (min 0 (xs[j].dg + l * 1000 / (21 * xs[j].ic)) = xs[j].dg + La.deg xs[j] l) := Lib.hid (by rw [← hdg.out]; omega)
        have HT := Lib.hid (La.top_off (by rw [HON.out, hr.out]))
        have NN : Hid (∀ W, LOwn w.heap.size W (.slice (some ⟨g, 0, none⟩) xs.length cap1) (xs.take (j + 1) ++ ys) → LOwn w.heap.size (W.setCell ⟨g, j * 7 + 4, none⟩ (.int .i64 (min 0 (xs[j].dg + l * 1000 / (21 * xs[j].ic))))) (.slice (some ⟨g, 0, none⟩) xs.length cap1) (xs.take j ++ (⟨xs[j].fo, xs[j].ic, xs[j].wa, xs[j].de, xs[j].dg + La.deg xs[j] l, xs[j].ha, xs[j].ag⟩ :: ys))) :=
          Lib.hid (fun W h => by rw [e0.out]; exact ((MID.out W h).chg (mid_len hlt) 4 (by omega) _ ⟨xs[j].fo, xs[j].ic, xs[j].wa, xs[j].de, xs[j].dg + La.deg xs[j] l, xs[j].ha, xs[j].ag⟩ rfl).mid_done hlt)
        have hdl : La.deg xs[j] l = l * 1000 / (21 * xs[j].ic) := rfl
        rw [hdl] at d1 d2
        clear FX D1 D2 hr e0 HON ht hI HW hdg hdl
        generalize La.cold xs[j] = c at *
        generalize xs[j] = x at *
        have nt0 : (l * 1000).tdiv (21 * x.ic) = l * 1000 / (21 * x.ic) := Int.tdiv_eq_ediv_of_nonneg (by omega)
        generalize l * 1000 / (21 * x.ic) = d at *
        have nw1 : IntKind.i64.wrap (l * 1000) = l * 1000 := IntWalk.i64_in _ (by omega)
        obtain ⟨z, hzz⟩ : ∃ z, z = 21 * x.ic := ⟨_, rfl⟩
        have nw2 : IntKind.i64.wrap (21 * x.ic) = z := by rw [hzz]; exact IntWalk.i64_in _ (by omega)
        have hz0 : ¬ z = 0 := by omega
        rw [← hzz] at nt0 hz
        clear hzz
        have nw3 : IntKind.i64.wrap d = d := IntWalk.i64_in _ (by omega)
        have nw4 : IntKind.i64.wrap (x.dg + d) = x.dg + d := IntWalk.i64_in _ (by omega)
        go_wp2_with fail
        refine CC.out.mono ?_
        rintro e w2 ⟨rfl, n2, rfl⟩
        have HO2 := Lib.hid (ho.out.belowAll (below_drewW wr n2))
        have HB2 := Lib.hid (below_drewN hb.out n2)
        obtain ⟨c0, c1, c2, c3, c4, c5, c6⟩ := HFR.out _ HO2.out
        have f4 := HO2.out.free (j * 7 + 4)
        clear CC HC ho hb HFR
        generalize wr.drewN n2 = w2 at *
        go_wp2_with fail
        go_region_with (go_at_call 49; refine (l00Min_any _ _ _).mono ?_; rintro e w' ⟨rfl, rfl⟩)
        all_goals (
          go_wp2_with fail
          go_ret2
          exact RLI.yes ⟨by rw [HT.out], by rw [HT.out]⟩ ((NN.out _ HO2.out).belowAll (below_drewW _ 1)) (below_drewN (HB2.out.setCell (p := ⟨g, j * 7 + 4, none⟩) hg _) 1))
      · have hcl : La.cold xs[j] ≤ l := by omega
        have hW := HW.out
        have hr := Lib.hid (wrm_t hc rfl rfl)
        rw [hr.out] at hW
        have hW2 := hW.2
        have hW1 : 0 ≤ l - La.cold xs[j] - min ((l - La.cold xs[j]) / 334) (min (xs[j].ic - 1) (1000000 - xs[j].wa)) * 334 := hW2.1
        clear hW2 hW
        have NN : Hid (∀ W, LOwn w.heap.size W (.slice (some ⟨g, 0, none⟩) xs.length cap1) (xs.take (j + 1) ++ ys) → ∀ i a k, LOwn w.heap.size (((W.setCell ⟨g, j * 7 + 4, none⟩ (.int .i64 0)).drewN k).setCell ⟨g, j * 7 + 1, none⟩ (.int .i64 i) |>.setCell ⟨g, j * 7 + 2, none⟩ (.int .i64 a)) (.slice (some ⟨g, 0, none⟩) xs.length cap1) (xs.take j ++ (⟨xs[j].fo, i, a, xs[j].de, 0, xs[j].ha, xs[j].ag⟩ :: ys))) :=
          Lib.hid (fun W h i a k => by
            have h1 := (MID.out W h).chg (mid_len hlt) 4 (by omega) 0 ⟨xs[j].fo, xs[j].ic, xs[j].wa, xs[j].de, 0, xs[j].ha, xs[j].ag⟩ rfl
            have h2 := (h1.belowAll (below_drewW _ k)).chg (mid_len hlt) 1 (by omega) i ⟨xs[j].fo, i, xs[j].wa, xs[j].de, 0, xs[j].ha, xs[j].ag⟩ rfl
            have h3 := h2.chg (mid_len hlt) 2 (by omega) a ⟨xs[j].fo, i, a, xs[j].de, 0, xs[j].ha, xs[j].ag⟩ rfl
            exact h3.mid_done hlt)
        rw [hr.out] at HON
        clear FX D1 D2 hr ht hI HW hdg hz MID hc
        generalize La.cold xs[j] = c at *
        generalize xs[j] = x at *
        have hx0 : 0 ≤ min ((l - c) / 334) (min (x.ic - 1) (1000000 - x.wa)) := by omega
        have hx1 : min ((l - c) / 334) (min (x.ic - 1) (1000000 - x.wa)) ≤ 1000000 := by omega
        have hx2 : min ((l - c) / 334) (min (x.ic - 1) (1000000 - x.wa)) ≤ x.ic - 1 := by omega
        have hx3 : min ((l - c) / 334) (min (x.ic - 1) (1000000 - x.wa)) ≤ 1000000 - x.wa := by omega
        have hc : ¬ l < c := by omega
        by_cases h3 : l - c - min ((l - c) / 334) (min (x.ic - 1) (1000000 - x.wa)) * 334 < 334
        · have hd : Hid (decide (334 ≤ l - c - min ((l - c) / 334) (min (x.ic - 1) (1000000 - x.wa)) * 334) = false) := Lib.hid (decide_eq_false (by omega))
          have HT := Lib.hid (La.top_off (by rw [HON.out, hd.out]))
          clear HON hd
          go_wp2_with fail
          refine CC.out.mono ?_
          rintro e w2 ⟨rfl, n2, rfl⟩
          have HO2 := Lib.hid (ho.out.belowAll (below_drewW wr n2))
          have HB2 := Lib.hid (below_drewN hb.out n2)
          obtain ⟨c0, c1, c2, c3, c4, c5, c6⟩ := HFR.out _ HO2.out
          have f1 := HO2.out.free (j * 7 + 1)
          have f2 := HO2.out.free (j * 7 + 2)
          have f4 := HO2.out.free (j * 7 + 4)
          clear CC HC ho hb HFR
          generalize wr.drewN n2 = w2 at *
          go_wp2_with fail
          go_quiet ((go_at_call 49; exact Calls.quiet_of_same ((l00Min_any _ _ _).mono fun _ _ ⟨h, h'⟩ => ⟨h, h'.symm⟩)))
          all_goals (
            go_wp2_with fail
            go_ret2
            exact RLI.yes ⟨by rw [HT.out], by rw [HT.out]⟩ (NN.out _ HO2.out _ _ _) (((below_drewN (HB2.out.setCell (p := ⟨g, j * 7 + 4, none⟩) hg _) _).setCell (p := ⟨g, j * 7 + 1, none⟩) hg _).setCell (p := ⟨g, j * 7 + 2, none⟩) hg _))
        · have hd : Hid (decide (334 ≤ l - c - min ((l - c) / 334) (min (x.ic - 1) (1000000 - x.wa)) * 334) = true) := Lib.hid (decide_eq_true (by omega))
          have HT := Lib.hid (HON.out.trans (by rw [hd.out]))
          clear hd
          go_wp2_with fail
          refine CC.out.mono ?_
          rintro e w2 ⟨rfl, n2, rfl⟩
          have HO2 := Lib.hid (ho.out.belowAll (below_drewW wr n2))
          have HB2 := Lib.hid (below_drewN hb.out n2)
          obtain ⟨c0, c1, c2, c3, c4, c5, c6⟩ := HFR.out _ HO2.out
          have f1 := HO2.out.free (j * 7 + 1)
          have f2 := HO2.out.free (j * 7 + 2)
          have f4 := HO2.out.free (j * 7 + 4)
          clear CC HC ho hb HFR
          generalize wr.drewN n2 = w2 at *
          go_wp2_with fail
          go_quiet ((go_at_call 49; exact Calls.quiet_of_same ((l00Min_any _ _ _).mono fun _ _ ⟨h, h'⟩ => ⟨h, h'.symm⟩)))
          all_goals (
            go_wp2_with fail
            exact ⟨⟨j, _, _, by omega, by go_num, rfl, HT, Lib.hid ⟨by omega, by omega⟩, Lib.hid (((below_drewN (HB2.out.setCell (p := ⟨g, j * 7 + 4, none⟩) hg _) _).setCell (p := ⟨g, j * 7 + 1, none⟩) hg _).setCell (p := ⟨g, j * 7 + 2, none⟩) hg _), Lib.hid (NN.out _ HO2.out _ _ _)⟩, by simp only [intOf]; omega⟩)
end Go.Proofs.YtbdhdlgenfpjgaaDoor
