/-
  WithoutOdd of chapter 4, by the model and by the program. No condition of its own.
-/
import Derived.Test.YtakalehakdffiabObsI
namespace Go.Proofs.Ytakalehakdffiab
open Go.RowKit Go.Shelf
set_option linter.unusedVariables false
set_option maxRecDepth 100000

theorem Ob.left_mem {s d : Int} {xs : List Obs} {k : Nat} (hk : k ≤ xs.length) : ∀ x ∈ Ob.left s d xs k, x ∈ xs := by
  induction k with
  | zero => intro x hx; cases hx
  | succ k ih =>
    intro x hx
    rw [Ob.left, Ob.keep] at hx
    split at hx
    · exact ih (by omega) x hx
    · rw [List.mem_append] at hx
      rcases hx with hx | hx
      · exact ih (by omega) x hx
      · rw [List.mem_singleton] at hx
        rw [hx, Ob.nth_eq (show k < xs.length by omega)]; exact List.getElem_mem _
theorem Ob.nth_mem {l : List Obs} {i : Nat} (h : i < l.length) : Ob.nth l i ∈ l := by rw [Ob.nth_eq h]; exact List.getElem_mem _
theorem Ob.keep_t {s d : Int} {l : List Obs} {x : Obs} (h : 0 < l.length) (ho : Ob.odd s d (Ob.nth l (l.length - 1)) x = true) : Ob.keep s d l x = l := by unfold Ob.keep; rw [if_pos ⟨h, ho⟩]
theorem Ob.keep_f {s d : Int} {l : List Obs} {x : Obs} (h : l.length = 0 ∨ Ob.odd s d (Ob.nth l (l.length - 1)) x = false) : Ob.keep s d l x = l ++ [x] := by
  unfold Ob.keep; rw [if_neg]; rintro ⟨h1, h2⟩
  rcases h with h | h
  · omega
  · rw [h2] at h; cases h
theorem Ob.nth_snoc (l : List Obs) (x : Obs) : Ob.nth (l ++ [x]) ((l ++ [x]).length - 1) = x := by
  rw [Ob.nth_eq (by simp)]; simp
theorem fl_snocO (l : List Obs) (x : Obs) : iv (Ob.fl (l ++ [x])) = iv (Ob.fl l) ++ [.int .i64 x.ho, .int .i64 x.sn, .int .i64 x.dg, .int .i64 x.wi] := by
  rw [Ob.fl_app, Ob.fl_one, iv_append]; rfl
theorem oneO (x : Obs) : ∀ u ∈ [Value.int .i64 x.ho, .int .i64 x.sn, .int .i64 x.dg, .int .i64 x.wi], u.oneCell' = true := by
  intro u hu
  simp only [List.mem_cons, List.not_mem_nil, or_false] at hu
  rcases hu with rfl | rfl | rfl | rfl <;> rfl
def Ob.woL (xs : List Obs) (s d : Int) : List Obs := Ob.ls (Ob.okS xs) (Ob.lims s d) (Ob.left s d xs xs.length)
def Ob.woC (xs : List Obs) (s d : Int) : Int := Ob.cd (Ob.okS xs) (Ob.lims s d) 0
theorem Ob.woL_len {xs : List Obs} {s d : Int} (h : xs.length ≤ 1048576) : (Ob.woL xs s d).length ≤ 1048576 := by
  unfold Ob.woL Ob.ls
  have := Ob.left_len s d xs xs.length
  split <;> (try split) <;> simp <;> omega
/-- how a function ends that answers observations and a code -/
def RO (w : World) (l : List Obs) (c : Int) (e : Ending) (w' : World) : Prop := ∃ u, e = .returned (.tuple #[u, .int .i64 c]) ∧ ObOwn w.heap.size w' u l ∧ Below w.heap.size w w'
theorem RO.no {w w' : World} {c : Int} (hb : Below w.heap.size w w') : RO w [] c (.returned (.tuple #[.slice none 0 0, .int .i64 c])) w' := ⟨_, rfl, World.ownsRow_nil _ _ _ _, hb⟩
theorem RO.yes {w w' : World} {u : Value} {l l' : List Obs} {c c' : Int} (hl : l' = l) (hc : c = c') (ho : ObOwn w.heap.size w' u l) (hb : Below w.heap.size w w') : RO w l' c' (.returned (.tuple #[u, .int .i64 c])) w' := by
  subst hl hc; exact ⟨_, rfl, ho, hb⟩
set_option maxHeartbeats 3200000 in
theorem specWithoutOdd_any (w : World) (v : Value) (xs : List Obs) (s d : Int) (hv : ObSl w v xs) (hl : xs.length ≤ 1048576) :
    Calls Try.prog 51 #[v, .int .i64 s, .int .i64 d] w (RO w (Ob.woL xs s d) (Ob.woC xs s d)) := by
  obtain ⟨i0, hi, hz0, hz1, hz2⟩ := info_parts info_Observed
  have C := Lib.hid (l04Ok_any w v xs hv hl)
  obtain ⟨a, cap, rfl⟩ := hv.form
  have HV := Lib.hid hv
  clear hv
  unfold Ob.woL Ob.woC
  cases hq : Ob.okS xs with
  | false =>
    rw [hq] at C
    rw [ls_f, Ob.cd_f]
    clear hq
    go_enter Try.func51, Try.ntmps51
    go_wp2_with fail
    refine C.out.mono ?_
    rintro e w1 ⟨rfl, b1⟩
    have B1 := Lib.hid b1
    clear b1
    go_wp2_with fail
    go_ret2
    exact RO.no B1.out
  | true =>
    have h48 := Ob.len_ok hq
    have HF := Lib.hid ((Ob.okS_iff xs).1 hq).2.1
    rw [hq] at C
    clear hq
    cases hs : Ob.lims s d with
    | false =>
      rw [ls_tf, Ob.cd_tf]
      go_enter Try.func51, Try.ntmps51
      go_wp2_with fail
      refine C.out.mono ?_
      rintro e w1 ⟨rfl, b1⟩
      have B1 := Lib.hid b1
      clear b1
      go_wp2_with (go_at_call 100; refine (l04Limits_any _ _ _).mono ?_; rintro e w' ⟨rfl, rfl⟩)
      go_ret2
      exact RO.no B1.out
    | true =>
      obtain ⟨s1, s2, d1, d2⟩ := lims_of hs
      rw [ls_t, Ob.cd_t]
      go_enter Try.func51, Try.ntmps51
      go_wp2_with fail
      refine C.out.mono ?_
      rintro e w1 ⟨rfl, b1⟩
      have B1 := Lib.hid (b1.alloc b1.size (.cells #[] 30))
      have O1 : Hid (ObOwn w.heap.size (w1.alloc (.cells #[] 30)) (.slice (some ⟨w1.heap.size, 0, none⟩) 0 0) (Ob.left s d xs 0)) := Lib.hid (World.ownsRow_lit _ _ _ b1.size (by decide) (by decide))
      clear b1
      go_wp2_with (go_at_call 100; refine (l04Limits_any _ _ _).mono ?_; rintro e w' ⟨rfl, rfl⟩)
      go_loopw [8, 9] (fun u i wr => ∃ (k g n cap' : Nat), k ≤ xs.length ∧ i = .int .i64 k ∧ u = .slice (some ⟨g, 0, none⟩) n cap' ∧ n ≤ k ∧ Hid (n = (Ob.left s d xs k).length) ∧ Hid (wr.ownsRow w.heap.size 30 4 (.slice (some ⟨g, 0, none⟩) n cap') n (iv (Ob.fl (Ob.left s d xs k)))) ∧ Hid (Below w.heap.size w wr)) (fun _ i _ => xs.length - (intOf i).toNat)
      case atStart => exact ⟨0, w1.heap.size, 0, 0, by omega, rfl, rfl, by omega, Lib.hid rfl, Lib.hid O1.out, B1⟩
      case round =>
        obtain ⟨k, g, n, cap', hk, rfl, rfl, hnk, hn0, ho, hbw⟩ := hrel
        by_cases hlt : k < xs.length
        · obtain ⟨b, off, cap1, hn, hbl, hcc⟩ := (HV.out.below hbw.out).at_ hlt
          simp only [Value.slice.injEq] at hn
          obtain ⟨rfl, -, rfl⟩ := hn
          have HC := fun q => Lib.hid ((hcc k hlt).drewN q)
          obtain ⟨c0, c1, c2, c3⟩ := hcc k hlt
          clear hcc
          have hn := Lib.hid (show Ob.left s d xs (k + 1) = Ob.keep s d (Ob.left s d xs k) (Ob.nth xs k) from rfl)
          rw [Ob.nth_eq hlt] at hn
          have HW := fun q => Lib.hid (own_belowAll ho.out (below_drewW wr q))
          -- what an observation that is kept leads to
          have hfin : Hid (∀ (q : Nat) (v' : Value) (w3 : World), Ob.left s d xs (k + 1) = Ob.left s d xs k ++ [xs[k]] → w3.ownsRow w.heap.size 30 4 v' (n + 1) (iv (Ob.fl (Ob.left s d xs k)) ++ [.int .i64 xs[k].ho, .int .i64 xs[k].sn, .int .i64 xs[k].dg, .int .i64 xs[k].wi]) → ∀ o, ((wr.drewN q).alloc o).grownBy w3 (some g) →
              ∃ g' cap'', v' = .slice (some ⟨g', 0, none⟩) (n + 1) cap'' ∧ n + 1 = (Ob.left s d xs (k + 1)).length ∧ w3.ownsRow w.heap.size 30 4 (.slice (some ⟨g', 0, none⟩) (n + 1) cap'') (n + 1) (iv (Ob.fl (Ob.left s d xs (k + 1)))) ∧ Below w.heap.size w w3) := Lib.hid (by
            intro q v' w3 he hown o hg
            have hl1 : n + 1 = (Ob.left s d xs (k + 1)).length := by rw [he, List.length_append, ← hn0.out]; rfl
            have hbb := ((below_drewN hbw.out q).alloc hbw.out.size o).grown hg (by have := hbw.out.size; simp; omega) (fun j hj => by simp only [Option.some.injEq] at hj; have := (World.ownsRow.lt ho.out g rfl).1; omega)
            rcases Go.Joins.ownsRow_forms hown with ⟨rfl, h0⟩ | ⟨g', cap'', rfl⟩
            · omega
            · exact ⟨g', cap'', rfl, hl1, by rw [he, fl_snocO]; exact hown, hbb⟩)
          rcases Nat.eq_zero_or_pos n with h0 | h0
          · have hw : Hid (Ob.left s d xs (k + 1) = Ob.left s d xs k ++ [xs[k]]) := Lib.hid (by rw [hn.out, Ob.keep_f (Or.inl (by rw [← hn0.out]; exact h0))])
            subst h0
            go_wp2_with fail
            go_quiet (fail)
            go_wp2_with (at_builtin; refine wpList_append_own _ rfl _ _ 26 rfl w.heap.size 30 i0 _ 4 32 Try.underlying26 hi hz0 hz1 hz2 rfl (by decide) _ _ _ rfl ((HW _).out.alloc _) ⟨wr.heap.size, 0, none⟩ 1 1 [.int .i64 xs[k].ho, .int .i64 xs[k].sn, .int .i64 xs[k].dg, .int .i64 xs[k].wi] rfl rfl (row_new _ [_, _, _, _] _) (oneO xs[k]) ?c3 ?c4 ?c5 ?_)
            case c3 => unfold maxLen; omega
            case c4 => omega
            case c5 => have := hbw.out.size; first | omega | (simp; omega)
            intro v' w3 hown' hgrow _
            have HN := Lib.hid (hfin.out _ v' w3 hw.out hown' _ hgrow)
            clear hown' hgrow
            obtain ⟨g', cap'', rfl, hl1, ho1, hb1⟩ := HN.out
            have O3 := Lib.hid ho1
            have B3 := Lib.hid hb1
            have L3 := Lib.hid hl1
            clear HN ho1 hb1 hl1
            go_wp2
            exact ⟨⟨k + 1, g', _, cap'', by omega, by go_num, rfl, by omega, L3, O3, B3⟩, by simp only [intOf]; omega⟩
          · obtain ⟨m, rfl⟩ : ∃ m, n = m + 1 := ⟨n - 1, by omega⟩
            have hk0 : 0 < k := by omega
            have hz' : ((m : Int) + 1 == 0) = false := beq_eq_false_iff_ne.2 (by omega)
            have hwm : IntKind.i64.wrap (m : Int) = m := IntWalk.i64_in _ (by omega)
            have OL := Lib.hid (show ObOwn w.heap.size wr (.slice (some ⟨g, 0, none⟩) (Ob.left s d xs k).length cap') (Ob.left s d xs k) by unfold ObOwn; rw [← hn0.out]; exact ho.out)
            have FY := Lib.hid (show Ob.Fits (Ob.nth (Ob.left s d xs k) m) from HF.out _ (Ob.left_mem hk _ (Ob.nth_mem (by rw [← hn0.out]; omega))))
            have hcell : ∀ q, Hid (ObCells (wr.drewN q) g (m * 4) (Ob.nth (Ob.left s d xs k) m)) := fun q => Lib.hid (by
              obtain ⟨b', off', cap2, hn', _, hcc'⟩ := OL.out.sl.at_ (k := m) (by rw [← hn0.out]; omega)
              simp only [Value.slice.injEq, Option.some.injEq, Addr.mk.injEq] at hn'
              obtain ⟨⟨rfl, rfl, -⟩, -, rfl⟩ := hn'
              have := (hcc' m (by rw [← hn0.out]; omega)).drewN q
              rw [← Ob.nth_eq] at this
              rwa [Nat.zero_add] at this)
            have CO := fun q => Lib.hid (l04Odd_any (Ob.nth (Ob.left s d xs k) m) xs[k] g (m * 4) b (off + k * 4) s d (wr.drewN q) (hcell q).out (HC q).out FY.out (HF.out _ (List.getElem_mem hlt)) s1 s2 d1 d2)
            have hlen : Hid ((Ob.left s d xs k).length - 1 = m ∧ 0 < (Ob.left s d xs k).length) := Lib.hid (by rw [← hn0.out]; exact ⟨rfl, by omega⟩)
            cases ho' : Ob.odd s d (Ob.nth (Ob.left s d xs k) m) xs[k] with
            | true =>
              have hw : Hid (Ob.left s d xs k = Ob.left s d xs (k + 1)) := Lib.hid (by rw [hn.out, Ob.keep_t hlen.out.2 (by rw [hlen.out.1]; exact ho')])
              rw [ho'] at CO
              clear ho'
              go_wp2_with fail
              go_quiet ((go_at_call 101; exact Calls.quiet_of (CO _).out))
              go_wp2
              exact ⟨⟨k + 1, g, m + 1, cap', by omega, by go_num, rfl, by omega, Lib.hid (by rw [← hw.out]; exact hn0.out), Lib.hid (by rw [← hw.out]; exact (HW _).out), Lib.hid (below_drewN hbw.out _)⟩, by simp only [intOf]; omega⟩
            | false =>
              have hw : Hid (Ob.left s d xs (k + 1) = Ob.left s d xs k ++ [xs[k]]) := Lib.hid (by rw [hn.out, Ob.keep_f (Or.inr (by rw [hlen.out.1]; exact ho'))])
              rw [ho'] at CO
              clear ho'
              go_wp2_with fail
              go_quiet ((go_at_call 101; exact Calls.quiet_of (CO _).out))
              go_wp2_with (at_builtin; refine wpList_append_own _ rfl _ _ 26 rfl w.heap.size 30 i0 _ 4 32 Try.underlying26 hi hz0 hz1 hz2 rfl (by decide) _ _ _ rfl ((HW _).out.alloc _) ⟨wr.heap.size, 0, none⟩ 1 1 [.int .i64 xs[k].ho, .int .i64 xs[k].sn, .int .i64 xs[k].dg, .int .i64 xs[k].wi] rfl rfl (row_new _ [_, _, _, _] _) (oneO xs[k]) ?d3 ?d4 ?d5 ?_)
              case d3 => unfold maxLen; omega
              case d4 => omega
              case d5 => have := hbw.out.size; first | omega | (simp; omega)
              intro v' w3 hown' hgrow _
              have HN := Lib.hid (hfin.out _ v' w3 hw.out hown' _ hgrow)
              clear hown' hgrow
              obtain ⟨g', cap'', rfl, hl1, ho1, hb1⟩ := HN.out
              have O3 := Lib.hid ho1
              have B3 := Lib.hid hb1
              have L3 := Lib.hid hl1
              clear HN ho1 hb1 hl1
              go_wp2
              exact ⟨⟨k + 1, g', _, cap'', by omega, by go_num, rfl, by omega, L3, O3, B3⟩, by simp only [intOf]; omega⟩
        · have hkn : k = xs.length := by omega
          have HK : Hid (Ob.left s d xs xs.length = Ob.left s d xs k) := Lib.hid (by rw [hkn])
          clear hkn
          go_wp2
          go_ret2
          exact RO.yes HK.out rfl (by unfold ObOwn; rw [← hn0.out]; exact ho.out) hbw.out
set_option maxHeartbeats 800000 in
theorem latO_keepC (g : Nat) (y x : Obs) (ex : Bool) (w : World) (h : LatO w g y ex) :
    Calls Try.prog 83 #[.pointer (some ⟨g, 0, none⟩), .agg #[.int .i64 x.ho, .int .i64 x.sn, .int .i64 x.dg, .int .i64 x.wi]] w fun e w' => e = .returned (.tuple #[]) ∧ LatO w' g x true ∧ w.grownBy w' (some g) := by
  obtain ⟨c0, c1, c2, c3, c4⟩ := h.cells
  have hlt := h.lt
  have H := fun o => Lib.hid (Whole.alloc (h.set_ x) o)
  have G := fun o => Lib.hid (only_alloc (only_setO w g x) o)
  have n0 := World.new_ne w _ c0
  have f0 := h.free 0
  have f1 := h.free 1
  have f2 := h.free 2
  have f3 := h.free 3
  have f4 := h.free 4
  clear h
  go_enter Try.func83, Try.ntmps83
  go_wp2
  go_end0
  exact ⟨rfl, (H _).out, (G _).out⟩
set_option maxHeartbeats 3200000 in
theorem implWithoutOdd_any (w : World) (v : Value) (xs : List Obs) (s d : Int) (hv : ObSl w v xs) (hl : xs.length ≤ 1048576) :
    Calls Try.prog 33 #[v, .int .i64 s, .int .i64 d] w (RO w (Ob.woL xs s d) (Ob.woC xs s d)) := by
  obtain ⟨i0, hi, hz0, hz1, hz2⟩ := info_parts info_Observed
  have eg := enters_of Try.func121 (by kernel_rfl) rfl
  have C := fun t => Lib.hid (observedCode_any w v xs t hv hl)
  obtain ⟨a, cap, rfl⟩ := hv.form
  have HV := Lib.hid hv
  clear hv
  unfold Ob.woL Ob.woC
  cases hq : Ob.okS xs with
  | false =>
    rw [hq] at C
    rw [ls_f, Ob.cd_f]
    clear hq
    go_enter Try.func33, Try.ntmps33
    go_wp2_with (go_at_call 81; refine (areHourlyChanges_any _ _ _).mono ?_; rintro e w' ⟨rfl, rfl⟩)
    refine (C _).out.mono ?_
    rintro e w1 ⟨rfl, b1⟩
    have B1 := Lib.hid b1
    clear b1
    simp only [Ob.cd_f]
    go_wp2_with fail
    go_ret2
    exact RO.no B1.out
  | true =>
    have h48 := Ob.len_ok hq
    have HF := Lib.hid ((Ob.okS_iff xs).1 hq).2.1
    rw [hq] at C
    clear hq
    cases hs : Ob.lims s d with
    | false =>
      rw [ls_tf, Ob.cd_tf]
      go_enter Try.func33, Try.ntmps33
      go_wp2_with (go_at_call 81; refine (areHourlyChanges_any _ _ _).mono ?_; rintro e w' ⟨rfl, rfl⟩)
      refine (C _).out.mono ?_
      rintro e w1 ⟨rfl, b1⟩
      have B1 := Lib.hid b1
      clear b1
      simp only [Ob.cd_tf]
      go_wp2_with fail
      go_ret2
      exact RO.no B1.out
    | true =>
      obtain ⟨s1, s2, d1, d2⟩ := lims_of hs
      rw [ls_t, Ob.cd_t]
      go_enter Try.func33, Try.ntmps33
      go_wp2_with (go_at_call 81; refine (areHourlyChanges_any _ _ _).mono ?_; rintro e w' ⟨rfl, rfl⟩)
      refine (C _).out.mono ?_
      rintro e w1 ⟨rfl, b1⟩
      have B1 := Lib.hid b1
      have hs1 := b1.size
      clear b1
      simp only [Ob.cd_t]
      go_wp2_with fail
      refine (oddBeyond_any s d w1).mono ?_
      rintro e w2 ⟨rfl, rfl⟩
      go_wp2_with (at_make; refine wpList_make_own _ rfl _ _ 26 rfl (w1.heap.size + 3) 30 i0 _ 4 Try.underlying26 hi hz0 hz1 .i64 .i64 _ xs.length rfl rfl rfl ?c1 ?c2 ?c3 ?_)
      case c1 => rw [hz2]; omega
      case c2 => unfold maxLen; omega
      case c3 => simp
      intro w3 hown hg
      have S0 := Lib.hid (St.start B1.out hg hown)
      clear hown hg
      go_wp2_with fail
      generalize w1.heap.size = g1 at *
      go_loopw [11, 30] (fun u i wr => ∃ (k n : Nat) (y : Obs) (ex : Bool), k ≤ xs.length ∧ i = .int .i64 k ∧ n ≤ k ∧ Hid (n = (Ob.left s d xs k).length) ∧ Hid (St w wr g1 (g1 + 1) (g1 + 2) s d y ex 30 4 u n (iv (Ob.fl (Ob.left s d xs k)))) ∧ Hid ((ex = false ∧ k = 0) ∨ (ex = true ∧ 0 < k ∧ y = Ob.nth (Ob.left s d xs k) ((Ob.left s d xs k).length - 1)))) (fun _ i _ => xs.length - (intOf i).toNat)
      case atStart => exact ⟨0, 0, ⟨0, 0, 0, 0⟩, false, Nat.zero_le _, rfl, by omega, Lib.hid rfl, S0, Lib.hid (Or.inl ⟨rfl, rfl⟩)⟩
      case round =>
        obtain ⟨k, n, y, ex, hk, rfl, hnk, hn0, hS, hx⟩ := hrel
        by_cases hlt : k < xs.length
        · have hltz : (k : Int) < (xs.length : Int) := by omega
          obtain ⟨b, off, cap1, hn, hbl, hcc⟩ := (HV.out.below hS.out.hb).at_ hlt
          simp only [Value.slice.injEq] at hn
          obtain ⟨rfl, -, rfl⟩ := hn
          obtain ⟨c0, c1, c2, c3⟩ := hcc k hlt
          obtain ⟨l0, l1, l2, l3, l4⟩ := hS.out.hl.cells
          have hgl := hS.out.lt
          have hn := Lib.hid (show Ob.left s d xs (k + 1) = Ob.keep s d (Ob.left s d xs k) (Ob.nth xs k) from rfl)
          rw [Ob.nth_eq hlt] at hn
          have XB : Hid (Whole (boxObs wr xs[k] 30) wr.heap.size 30 #[.int .i64 xs[k].ho, .int .i64 xs[k].sn, .int .i64 xs[k].dg, .int .i64 xs[k].wi]) := Lib.hid (Whole.new _ _ _)
          have SB : Hid (St w (boxObs wr xs[k] 30) g1 (g1 + 1) (g1 + 2) s d y ex 30 4 _ n (iv (Ob.fl (Ob.left s d xs k)))) := Lib.hid (hS.out.alloc _)
          clear hcc
          rcases hx.out with ⟨rfl, rfl⟩ | ⟨rfl, h0, hy⟩
          · have hw : Hid (Ob.left s d xs (0 + 1) = Ob.left s d xs 0 ++ [xs[0]]) := Lib.hid (by rw [hn.out, Ob.keep_f (Or.inl rfl)])
            clear hx
            simp only [Nat.zero_mul, Nat.add_zero] at c0 c1 c2 c3
            go_wp2_with fail
            refine (latO_keepC (g1 + 2) _ xs[0] _ _ SB.out.hl).mono ?_
            rintro e w6 ⟨rfl, h2, g2⟩
            have S3 := Lib.hid (SB.out.pass h2 g2)
            have X3 := XB.out.far g2 (by omega)
            have e0 : w6.cell? ⟨wr.heap.size, 0, none⟩ = some (.int .i64 xs[0].ho) := X3.at_ 0
            have e1 : w6.cell? ⟨wr.heap.size, 1, none⟩ = some (.int .i64 xs[0].sn) := X3.at_ 1
            have e2 : w6.cell? ⟨wr.heap.size, 2, none⟩ = some (.int .i64 xs[0].dg) := X3.at_ 2
            have e3 : w6.cell? ⟨wr.heap.size, 3, none⟩ = some (.int .i64 xs[0].wi) := X3.at_ 3
            have ne0 := X3.lt
            clear h2 g2 X3
            go_wp2_with (at_builtin; refine wpList_append_own _ rfl _ _ 26 rfl (g1 + 2 + 1) 30 i0 _ 4 32 Try.underlying26 hi hz0 hz1 hz2 rfl (by decide) _ _ _ rfl (S3.out.alloc _).ho ⟨w6.heap.size, 0, none⟩ 1 1 [.int .i64 xs[0].ho, .int .i64 xs[0].sn, .int .i64 xs[0].dg, .int .i64 xs[0].wi] rfl rfl (row_new _ [_, _, _, _] _) (oneO xs[0]) ?e3 ?e4 ?e5 ?_)
            case e3 => unfold maxLen; omega
            case e4 => omega
            case e5 => have := S3.out.lt; first | omega | (simp; omega)
            intro v' w5 hown' hgrow _
            have S5 : Hid (St w w5 g1 (g1 + 1) (g1 + 2) s d xs[0] true 30 4 v' (n + 1) (iv (Ob.fl (Ob.left s d xs (0 + 1))))) := Lib.hid (by rw [hw.out, fl_snocO]; exact (S3.out.alloc _).app hown' hgrow)
            have L5 : Hid (n + 1 = (Ob.left s d xs (0 + 1)).length) := Lib.hid (by rw [hw.out, List.length_append, ← hn0.out]; rfl)
            have Y5 : Hid (xs[0] = Ob.nth (Ob.left s d xs (0 + 1)) ((Ob.left s d xs (0 + 1)).length - 1)) := Lib.hid (by rw [hw.out, Ob.nth_snoc])
            clear hown' hgrow
            go_wp2
            exact ⟨⟨0 + 1, n + 1, xs[0], true, by omega, by go_num, by omega, L5, S5, Lib.hid (Or.inr ⟨rfl, by omega, Y5.out⟩)⟩, by simp only [intOf]; omega⟩
          · have FX := Lib.hid (HF.out _ (List.getElem_mem hlt))
            have hlp := Ob.left_pos s d xs k h0
            have FY := Lib.hid (show Ob.Fits y by rw [hy]; exact HF.out _ (Ob.left_mem hk _ (Ob.nth_mem (by omega))))
            have HY := Lib.hid hy
            have HLP := Lib.hid hlp
            clear hx hy hlp
            cases ho' : Ob.odd s d y xs[k] with
            | true =>
              have hw : Hid (Ob.left s d xs k = Ob.left s d xs (k + 1)) := Lib.hid (by rw [hn.out, Ob.keep_t HLP.out (by rw [← HY.out]; exact ho')])
              have CO := fun W e1 e2 => Lib.hid (oddLit_any y xs[k] g1 (g1 + 1) s d W e1 e2 FY.out FX.out s1 s2 d1 d2)
              rw [ho'] at CO
              clear ho' hn
              go_wp2_with fail
              refine (CO _ (SB.out.h1.at_ 0) (SB.out.h2.at_ 0)).out.mono ?_
              rintro e w4 ⟨rfl, b4⟩
              have S4 := Lib.hid (SB.out.all b4)
              clear b4
              go_wp2_with fail
              exact ⟨⟨k + 1, n, y, true, by omega, by go_num, by omega, Lib.hid (by rw [← hw.out]; exact hn0.out), Lib.hid (by rw [← hw.out]; exact S4.out), Lib.hid (Or.inr ⟨rfl, by omega, by rw [← hw.out]; exact HY.out⟩)⟩, by simp only [intOf]; omega⟩
            | false =>
              have hw : Hid (Ob.left s d xs (k + 1) = Ob.left s d xs k ++ [xs[k]]) := Lib.hid (by rw [hn.out, Ob.keep_f (Or.inr (by rw [← HY.out]; exact ho'))])
              have CO := fun W e1 e2 => Lib.hid (oddLit_any y xs[k] g1 (g1 + 1) s d W e1 e2 FY.out FX.out s1 s2 d1 d2)
              rw [ho'] at CO
              clear ho' hn
              go_wp2_with fail
              refine (CO _ (SB.out.h1.at_ 0) (SB.out.h2.at_ 0)).out.mono ?_
              rintro e w4 ⟨rfl, b4⟩
              have S4 := Lib.hid (SB.out.all b4)
              have X4 := Lib.hid (XB.out.all b4)
              have q0 : w4.cell? ⟨wr.heap.size, 0, none⟩ = some (.int .i64 xs[k].ho) := X4.out.at_ 0
              have q1 : w4.cell? ⟨wr.heap.size, 1, none⟩ = some (.int .i64 xs[k].sn) := X4.out.at_ 1
              have q2 : w4.cell? ⟨wr.heap.size, 2, none⟩ = some (.int .i64 xs[k].dg) := X4.out.at_ 2
              have q3 : w4.cell? ⟨wr.heap.size, 3, none⟩ = some (.int .i64 xs[k].wi) := X4.out.at_ 3
              clear b4
              go_wp2_with fail
              refine (latO_keepC (g1 + 2) _ xs[k] _ _ S4.out.hl).mono ?_
              rintro e w6 ⟨rfl, h2, g2⟩
              have S3 := Lib.hid (S4.out.pass h2 g2)
              have X3 := X4.out.far g2 (by omega)
              have e0 : w6.cell? ⟨wr.heap.size, 0, none⟩ = some (.int .i64 xs[k].ho) := X3.at_ 0
              have e1 : w6.cell? ⟨wr.heap.size, 1, none⟩ = some (.int .i64 xs[k].sn) := X3.at_ 1
              have e2 : w6.cell? ⟨wr.heap.size, 2, none⟩ = some (.int .i64 xs[k].dg) := X3.at_ 2
              have e3 : w6.cell? ⟨wr.heap.size, 3, none⟩ = some (.int .i64 xs[k].wi) := X3.at_ 3
              have ne0 := X3.lt
              clear h2 g2 X3
              clear q0 q1 q2 q3
              go_wp2_with (at_builtin; refine wpList_append_own _ rfl _ _ 26 rfl (g1 + 2 + 1) 30 i0 _ 4 32 Try.underlying26 hi hz0 hz1 hz2 rfl (by decide) _ _ _ rfl (S3.out.alloc _).ho ⟨w6.heap.size, 0, none⟩ 1 1 [.int .i64 xs[k].ho, .int .i64 xs[k].sn, .int .i64 xs[k].dg, .int .i64 xs[k].wi] rfl rfl (row_new _ [_, _, _, _] _) (oneO xs[k]) ?d3 ?d4 ?d5 ?_)
              case d3 => unfold maxLen; omega
              case d4 => omega
              case d5 => have := S3.out.lt; first | omega | (simp; omega)
              intro v' w5 hown' hgrow _
              have S5 : Hid (St w w5 g1 (g1 + 1) (g1 + 2) s d xs[k] true 30 4 v' (n + 1) (iv (Ob.fl (Ob.left s d xs (k + 1))))) := Lib.hid (by rw [hw.out, fl_snocO]; exact (S3.out.alloc _).app hown' hgrow)
              have L5 : Hid (n + 1 = (Ob.left s d xs (k + 1)).length) := Lib.hid (by rw [hw.out, List.length_append, ← hn0.out]; rfl)
              have Y5 : Hid (xs[k] = Ob.nth (Ob.left s d xs (k + 1)) ((Ob.left s d xs (k + 1)).length - 1)) := Lib.hid (by rw [hw.out, Ob.nth_snoc])
              clear hown' hgrow
              go_wp2
              exact ⟨⟨k + 1, n + 1, xs[k], true, by omega, by go_num, by omega, L5, S5, Lib.hid (Or.inr ⟨rfl, by omega, Y5.out⟩)⟩, by simp only [intOf]; omega⟩
        · have hltz : ¬ (k : Int) < (xs.length : Int) := by omega
          have hkn : k = xs.length := by omega
          have HK : Hid (Ob.left s d xs xs.length = Ob.left s d xs k) := Lib.hid (by rw [hkn])
          clear hkn
          go_wp2
          go_ret2
          exact RO.yes HK.out rfl (by unfold ObOwn; rw [← hn0.out]; exact Go.Joins.ownsRow_le hS.out.ho (by have := hS.out.a1; omega)) hS.out.hb
end Go.Proofs.Ytakalehakdffiab
