/-
  Chapter 5 by the model: a profile cooled. No condition of its own.
-/
import Derived.Test.YtbdhdlgenfpjgaaDoorHrS
import Derived.Test.YtbdhdlgenfpjgaaDoorHrC
import Derived.StillTailTactics
namespace Go.Proofs.YtbdhdlgenfpjgaaDoor
open Go.RowKit Go.Shelf
set_option linter.unusedVariables false
set_option maxRecDepth 100000

theorem l00Min_to (a b c : Int) (w : World) (h : min a b = c) : Calls Tryd.prog 49 #[.int .i64 a, .int .i64 b] w fun e w' => e = .returned (.int .i64 c) ∧ w = w' := by
  subst h; exact l00Min_any a b w
theorem coo_t {x : Lay} {l n i a lr : Int} (hn : La.frz x l = n) (hi : x.ic + n = i) (ha : x.wa - n = a) (hl : l - n * 334 = lr) (hp : 0 < a) : La.coo x l = (⟨x.fo, i, a, x.de, x.dg, x.ha, x.ag⟩, lr, false) := by
  subst hn hi ha hl
  rw [coo_eq, if_pos hp]
theorem coo_f {x : Lay} {l n i a lr f ct : Int} (hn : La.frz x l = n) (hi : x.ic + n = i) (ha : x.wa - n = a) (hl : l - n * 334 = lr) (hp : ¬ 0 < a) (hf : La.fal ⟨x.fo, i, a, x.de, x.dg, x.ha, x.ag⟩ lr = f) (hc : (f * 21 * i + 999) / 1000 = ct) :
    La.coo x l = (⟨x.fo, i, a, x.de, x.dg - f, x.ha, x.ag⟩, lr - ct, decide (x.dg - f = -4000)) := by
  subst hn hi ha hl hf hc
  rw [coo_eq, if_neg hp]; rfl
set_option maxHeartbeats 16000000 in
theorem l05Cool_any (B b cap : Nat) (w : World) (xs : List Lay) (q : Int) (ho : LOwn B w (.slice (some ⟨b, 0, none⟩) xs.length cap) xs) (hq : La.okP xs = true) (q0 : 0 ≤ q) (q1 : q ≤ 100000000) :
    Calls Tryd.prog 31 #[.slice (some ⟨b, 0, none⟩) xs.length cap, .int .i64 q] w (RLI w (La.top La.coo xs q).1 (La.top La.coo xs q).2.1) := by
  obtain ⟨h16, hfit⟩ := (La.okP_iff xs).1 hq
  have C := Lib.hid (l05Own_any B b cap w xs ho (by omega))
  have HF := Lib.hid hfit
  clear ho hq hfit
  go_enter Tryd.func31, Tryd.ntmps31
  go_wp2_with fail
  refine C.out.mono ?_
  rintro e w1 ⟨g, cap1, rfl, o1, b1⟩
  have hg := o1.base
  have O1 := Lib.hid o1
  have B1 := Lib.hid b1
  clear o1 b1 C
  go_wp2_with fail
  go_loopw [1, 7] (fun r i wr => ∃ (m : Nat) (l : Int) (ys : List Lay), m ≤ xs.length ∧ i = .int .i64 ((m : Int) - 1) ∧ r = .int .i64 l ∧ Hid (La.top La.coo (xs.drop m) q = (ys, l, true)) ∧ Hid (0 ≤ l ∧ l ≤ 100000000) ∧ Hid (Below w.heap.size w wr) ∧ Hid (LOwn w.heap.size wr (.slice (some ⟨g, 0, none⟩) xs.length cap1) (xs.take m ++ ys))) (fun _ i _ => (intOf i + 1).toNat)
  case atStart => exact ⟨xs.length, q, [], Nat.le_refl _, rfl, rfl, Lib.hid (La.top_end xs), Lib.hid ⟨q0, q1⟩, B1, Lib.hid (by simpa using O1.out)⟩
  case round =>
    obtain ⟨m, l, ys, hm, rfl, rfl, ht, hI, hb, ho⟩ := hrel
    rcases m with _ | j
    · rw [show ((0 : Nat) : Int) - 1 = -1 from rfl]
      have HT : Hid (La.top La.coo xs q = (ys, l, true)) := Lib.hid (La.top_all ht.out)
      have OO : Hid (LOwn w.heap.size wr (.slice (some ⟨g, 0, none⟩) xs.length cap1) ys) := Lib.hid (by simpa using ho.out)
      clear ht ho
      go_wp2
      go_ret2
      exact RLI.yes ⟨by rw [HT.out], by rw [HT.out]⟩ OO.out hb.out
    · rw [show ((j + 1 : Nat) : Int) - 1 = (j : Int) by omega]
      have hlt : j < xs.length := by omega
      have hj0 : ¬ (j : Int) < 0 := by omega
      have hj1 : (0 : Int) ≤ j := by omega
      have hji : (j : Int) < xs.length := by omega
      obtain ⟨hl0, hl1⟩ := hI.out
      have FX := HF.out xs[j] (List.getElem_mem hlt)
      have i1 := FX.i1; have i2 := FX.i2; have a1 := FX.w1; have a2 := FX.w2; have g1 := FX.g1; have g2 := FX.g2
      have HON := Lib.hid (La.top_on hlt ht.out)
      have MID := Lib.hid (fun W (h : LOwn w.heap.size W (.slice (some ⟨g, 0, none⟩) xs.length cap1) (xs.take (j + 1) ++ ys)) => h.mid hlt)
      obtain ⟨c0, c1, c2, c3, c4, c5, c6⟩ := ho.out.mid_cells hlt
      have f1 := ho.out.free (j * 7 + 1)
      have f2 := ho.out.free (j * 7 + 2)
      have f4 := ho.out.free (j * 7 + 4)
      have HW := Lib.hid (La.coo_ok FX hl0)
      obtain ⟨n0, n1, n2, hF⟩ := La.frz_bd FX hl0
      have hfr : La.frz xs[j] l = min (l / 334) (min xs[j].wa (1000000 - xs[j].ic)) := rfl
      obtain ⟨n, hn⟩ : ∃ n, n = La.frz xs[j] l := ⟨_, rfl⟩
      obtain ⟨i, hi⟩ : ∃ i, i = xs[j].ic + n := ⟨_, rfl⟩
      obtain ⟨a, ha⟩ : ∃ a, a = xs[j].wa - n := ⟨_, rfl⟩
      obtain ⟨lr, hl⟩ : ∃ lr, lr = l - n * 334 := ⟨_, rfl⟩
      rw [← hn] at n0 n1 n2 hfr hF
      have HN : Hid (min (l / 334) (min xs[j].wa (1000000 - xs[j].ic)) = n) := Lib.hid hfr.symm
      have hF' : La.Fits ⟨xs[j].fo, i, a, xs[j].de, xs[j].dg, xs[j].ha, xs[j].ag⟩ := by rw [hi, ha]; exact hF
      have j1 : 1 ≤ i := hF'.i1
      have j2 : i ≤ 1000000 := hF'.i2
      have b1 : 0 ≤ a := hF'.w1
      have b2 : a ≤ 1000000 := hF'.w2
      have l0 : 0 ≤ lr := by omega
      have l1 : lr ≤ 100000000 := by omega
      have FAL := Lib.hid (La.fal_bd hF' l0)
      have DEG := Lib.hid (La.deg_bd hF' l0)
      have NN : Hid (∀ W, LOwn w.heap.size W (.slice (some ⟨g, 0, none⟩) xs.length cap1) (xs.take (j + 1) ++ ys) → ∀ i a k, LOwn w.heap.size (((W.drewN k).setCell ⟨g, j * 7 + 1, none⟩ (.int .i64 i)).setCell ⟨g, j * 7 + 2, none⟩ (.int .i64 a)) (.slice (some ⟨g, 0, none⟩) xs.length cap1) (xs.take j ++ (⟨xs[j].fo, i, a, xs[j].de, xs[j].dg, xs[j].ha, xs[j].ag⟩ :: ys))) :=
          Lib.hid (fun W h i a k => by
            have h1 := (MID.out _ (h.belowAll (below_drewW _ k))).chg (mid_len hlt) 1 (by omega) i ⟨xs[j].fo, i, xs[j].wa, xs[j].de, xs[j].dg, xs[j].ha, xs[j].ag⟩ rfl
            have h3 := h1.chg (mid_len hlt) 2 (by omega) a ⟨xs[j].fo, i, a, xs[j].de, xs[j].dg, xs[j].ha, xs[j].ag⟩ rfl
            exact h3.mid_done hlt)
      have NM : Hid (∀ W, LOwn w.heap.size W (.slice (some ⟨g, 0, none⟩) xs.length cap1) (xs.take (j + 1) ++ ys) → ∀ i a d k k', LOwn w.heap.size (((((W.drewN k).setCell ⟨g, j * 7 + 1, none⟩ (.int .i64 i)).setCell ⟨g, j * 7 + 2, none⟩ (.int .i64 a)).drewN k').setCell ⟨g, j * 7 + 4, none⟩ (.int .i64 d)) (.slice (some ⟨g, 0, none⟩) xs.length cap1) (xs.take j ++ (⟨xs[j].fo, i, a, xs[j].de, d, xs[j].ha, xs[j].ag⟩ :: ys))) :=
          Lib.hid (fun W h i a d k k' => by
            have h1 := (MID.out _ (h.belowAll (below_drewW _ k))).chg (mid_len hlt) 1 (by omega) i ⟨xs[j].fo, i, xs[j].wa, xs[j].de, xs[j].dg, xs[j].ha, xs[j].ag⟩ rfl
            have h3 := h1.chg (mid_len hlt) 2 (by omega) a ⟨xs[j].fo, i, a, xs[j].de, xs[j].dg, xs[j].ha, xs[j].ag⟩ rfl
            have h4 := (h3.belowAll (below_drewW _ k')).chg (mid_len hlt) 4 (by omega) d ⟨xs[j].fo, i, a, xs[j].de, d, xs[j].ha, xs[j].ag⟩ rfl
            exact h4.mid_done hlt)
      have NB : Hid (∀ k u v, Below w.heap.size w (((wr.drewN k).setCell ⟨g, j * 7 + 1, none⟩ u).setCell ⟨g, j * 7 + 2, none⟩ v)) := Lib.hid (fun k u v => ((below_drewN hb.out k).setCell (p := ⟨g, j * 7 + 1, none⟩) hg u).setCell (p := ⟨g, j * 7 + 2, none⟩) hg v)
      have NC : Hid (∀ k u v k' t, Below w.heap.size w ((((wr.drewN k).setCell ⟨g, j * 7 + 1, none⟩ u).setCell ⟨g, j * 7 + 2, none⟩ v).drewN k' |>.setCell ⟨g, j * 7 + 4, none⟩ t)) := Lib.hid (fun k u v k' t => (below_drewN (NB.out k u v) k').setCell (p := ⟨g, j * 7 + 4, none⟩) hg t)
      by_cases hp : 0 < a
      · have hr := Lib.hid (coo_t hn.symm hi.symm ha.symm hl.symm hp)
        have HT := Lib.hid (La.top_off (by rw [HON.out, hr.out]))
        have ei : xs[j].ic + n = i := hi.symm
        have ea : xs[j].wa - n = a := ha.symm
        have el : l - n * 334 = lr := hl.symm
        clear hF hF' FAL DEG hr HW FX MID ht hI HON hfr hn NM NC hi ha hl
        generalize xs[j] = x at *
        go_wp2_with fail
        go_quiet ((first | (go_at_call 49; exact Calls.quiet_of_same ((l00Min_to (l / 334) _ n _ HN.out).mono fun _ _ ⟨h, h'⟩ => ⟨h, h'.symm⟩)) | (go_at_call 49; exact Calls.quiet_of_same ((l00Min_any _ _ _).mono fun _ _ ⟨h, h'⟩ => ⟨h, h'.symm⟩))))
        go_wp2_with fail
        go_ret2
        exact RLI.yes ⟨by rw [HT.out], by rw [HT.out]⟩ (NN.out _ ho.out _ _ _) (NB.out _ _ _)
      · obtain ⟨t1, t2, t3, t4, t5, t6, t7⟩ := FAL.out
        obtain ⟨u1, u2⟩ := DEG.out
        obtain ⟨f, hfq⟩ : ∃ f, f = La.fal ⟨xs[j].fo, i, a, xs[j].de, xs[j].dg, xs[j].ha, xs[j].ag⟩ lr := ⟨_, rfl⟩
        obtain ⟨t, htq⟩ : ∃ t, t = La.deg ⟨xs[j].fo, i, a, xs[j].de, xs[j].dg, xs[j].ha, xs[j].ag⟩ lr := ⟨_, rfl⟩
        have HFm : Hid (min t (xs[j].dg + 4000) = f) := Lib.hid (by rw [hfq, htq]; rfl)
        have htv : t = lr * 1000 / (21 * i) := htq
        obtain ⟨ct, hct⟩ : ∃ ct, ct = (f * 21 * i + 999) / 1000 := ⟨_, rfl⟩
        have hcc : (f * 21 * i + 999) / 1000 = ct := hct.symm
        rw [← hfq] at t1 t2 t3 t4 t5 t6 t7
        rw [← htq] at u1 u2
        have t3' : f ≤ xs[j].dg + 4000 := t3
        have t4' : 0 ≤ f * 21 * i := t4
        have t5' : f * 21 * i ≤ 84000000000 := t5
        have t7' : (f * 21 * i + 999) / 1000 ≤ lr := t7
        rw [← hct] at t7'
        have HM : Hid (min lr ct = ct) := Lib.hid (by omega)
        have hc0 : 0 ≤ ct := by omega
        have hr := Lib.hid (coo_f hn.symm hi.symm ha.symm hl.symm hp hfq.symm hcc)
        have ei : xs[j].ic + n = i := hi.symm
        have ea : xs[j].wa - n = a := ha.symm
        have el : l - n * 334 = lr := hl.symm
        have nt0 : (lr * 1000).tdiv (21 * i) = t := by rw [htv]; exact Int.tdiv_eq_ediv_of_nonneg (by omega)
        have nt1 : lr * 1000 / (21 * i) = t := htv.symm
        obtain ⟨z, hzz⟩ : ∃ z, z = 21 * i := ⟨_, rfl⟩
        have nw1 : IntKind.i64.wrap (lr * 1000) = lr * 1000 := IntWalk.i64_in _ (by omega)
        have nw2 : IntKind.i64.wrap (21 * i) = z := by rw [hzz]; exact IntWalk.i64_in _ (by omega)
        have nw3 : IntKind.i64.wrap t = t := IntWalk.i64_in _ (by omega)
        have nw5 : IntKind.i64.wrap (xs[j].dg - -4000) = xs[j].dg + 4000 := by rw [IntWalk.i64_in _ (by omega)]; omega
        have nw6 : IntKind.i64.wrap (xs[j].dg + 4000) = xs[j].dg + 4000 := IntWalk.i64_in _ (by omega)
        have hz0 : ¬ z = 0 := by omega
        have hz : (z == 0) = false := by rw [beq_eq_false_iff_ne]; exact hz0
        rw [← hzz] at nt0 nt1
        clear hzz t3 t4 t5 t6 t7 hct hfq htq htv u1 u2
        clear hF hF' FAL DEG HW FX MID ht hI hfr hn NN NB hi ha hl
        by_cases hm : -4000 < xs[j].dg - f
        · have hd : Hid (decide (xs[j].dg - f = -4000) = false) := Lib.hid (decide_eq_false (by omega))
          have HT := Lib.hid (La.top_off (by rw [HON.out, hr.out, hd.out]))
          clear HON hd hr
          generalize xs[j] = x at *
          go_wp2_with fail
          go_quiet ((first | (go_at_call 49; exact Calls.quiet_of_same ((l00Min_to (l / 334) _ n _ HN.out).mono fun _ _ ⟨h, h'⟩ => ⟨h, h'.symm⟩)) | (go_at_call 49; exact Calls.quiet_of_same ((l00Min_any _ _ _).mono fun _ _ ⟨h, h'⟩ => ⟨h, h'.symm⟩))))
          go_wp2_with fail
          go_quiet ((go_at_call 49; exact Calls.quiet_of_same ((l00Min_to t _ f _ HFm.out).mono fun _ _ ⟨h, h'⟩ => ⟨h, h'.symm⟩)))
          go_wp2_with fail
          refine (l00Min_to lr ct ct _ HM.out).mono ?_
          rintro e w3 ⟨rfl, rfl⟩
          go_wp2_with fail
          go_ret2
          exact RLI.yes ⟨by rw [HT.out], by rw [HT.out]⟩ (NM.out _ ho.out _ _ _ _ _) (NC.out _ _ _ _ _)
        · have hd : Hid (decide (xs[j].dg - f = -4000) = true) := Lib.hid (decide_eq_true (by omega))
          have HT := Lib.hid (HON.out.trans (by rw [hr.out, hd.out]))
          clear HON hd hr
          generalize xs[j] = x at *
          go_wp2_with fail
          go_quiet ((first | (go_at_call 49; exact Calls.quiet_of_same ((l00Min_to (l / 334) _ n _ HN.out).mono fun _ _ ⟨h, h'⟩ => ⟨h, h'.symm⟩)) | (go_at_call 49; exact Calls.quiet_of_same ((l00Min_any _ _ _).mono fun _ _ ⟨h, h'⟩ => ⟨h, h'.symm⟩))))
          go_wp2_with fail
          go_quiet ((go_at_call 49; exact Calls.quiet_of_same ((l00Min_to t _ f _ HFm.out).mono fun _ _ ⟨h, h'⟩ => ⟨h, h'.symm⟩)))
          go_wp2_with fail
          refine (l00Min_to lr ct ct _ HM.out).mono ?_
          rintro e w3 ⟨rfl, rfl⟩
          go_wp2_with fail
          exact ⟨⟨j, _, _, by omega, by go_num, rfl, HT, Lib.hid ⟨by omega, by omega⟩, Lib.hid (NC.out _ _ _ _ _), Lib.hid (NM.out _ ho.out _ _ _ _ _)⟩, by simp only [intOf]; omega⟩
end Go.Proofs.YtbdhdlgenfpjgaaDoor
