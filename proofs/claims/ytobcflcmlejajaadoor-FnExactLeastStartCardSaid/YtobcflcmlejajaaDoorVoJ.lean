/-
  LargestMass (chapter 12), by the model and by the program; slices.Max at int64. The condition, of the program's side: the variable errTooGreat holds a sentinel as errors.New makes it.
-/
import Derived.Test.YtobcflcmlejajaaDoorVoF
import Derived.Test.YtobcflcmlejajaaDoorFoHi
import Derived.OwnWalk
namespace Go.Proofs.YtobcflcmlejajaaDoor
open Go.RowKit Go.Shelf
set_option linter.unusedVariables false
set_option maxRecDepth 100000

namespace Vm
noncomputable def lmI (xs : List Pat) (t s : Int) : Int := if gC xs t s = 0 then (if xs.length = 0 then 0 else (mx (up xs t s) xs.length : Int)) else 0
noncomputable def lmM (xs : List Pat) (t s : Int) : Int := if gC xs t s = 0 then (if xs.length = 0 then 0 else up xs t s (mx (up xs t s) xs.length)) else 0
def lmC (xs : List Pat) (t s : Int) : Int := if gC xs t s = 0 then (if xs.length = 0 then 3 else 0) else gC xs t s
theorem lm_code {xs : List Pat} {t s c : Int} (h : gC xs t s = c) (hc : c ≠ 0) : lmI xs t s = 0 ∧ lmM xs t s = 0 ∧ lmC xs t s = c := by
  unfold lmI lmM lmC; rw [if_neg (by rw [h]; exact hc), if_neg (by rw [h]; exact hc), if_neg (by rw [h]; exact hc), h]; exact ⟨rfl, rfl, rfl⟩
theorem lm_none {xs : List Pat} {t s : Int} (h : gC xs t s = 0) (hn : xs.length = 0) : lmI xs t s = 0 ∧ lmM xs t s = 0 ∧ lmC xs t s = 3 := by
  unfold lmI lmM lmC; rw [if_pos h, if_pos h, if_pos h, if_pos hn, if_pos hn, if_pos hn]; exact ⟨rfl, rfl, rfl⟩
theorem lm_ok {xs : List Pat} {t s : Int} (h : gC xs t s = 0) (hn : ¬ xs.length = 0) : lmI xs t s = (mx (up xs t s) xs.length : Int) ∧ lmM xs t s = up xs t s (mx (up xs t s) xs.length) ∧ lmC xs t s = 0 := by
  unfold lmI lmM lmC; rw [if_pos h, if_pos h, if_pos h, if_neg hn, if_neg hn, if_neg hn]; exact ⟨rfl, rfl, rfl⟩
theorem gC_ask {xs : List Pat} {t s : Int} (h : askC xs t s ≠ 0) : gC xs t s = askC xs t s := by
  unfold askC gC at *
  cases h1 : okS xs <;> cases h2 : lim t s <;> rw [h1, h2] at h <;> first | rfl | exact absurd rfl h
theorem ask_0 {xs : List Pat} {t s : Int} (h : askC xs t s = 0) : okS xs = true ∧ lim t s = true := by
  unfold askC at h
  cases h1 : okS xs <;> cases h2 : lim t s <;> rw [h1, h2] at h <;> simp [Cd.cd] at h ⊢
theorem gC_fit {xs : List Pat} {t s : Int} (h1 : okS xs = true) (h2 : lim t s = true) : gC xs t s = fitC xs t s := by unfold gC; rw [h1, h2]; rfl
theorem fit_nil {xs : List Pat} {t s : Int} (h : lim t s = true) (hn : xs.length = 0) : fit xs t s = true := by
  have := lim_of h
  exact fit_t (k := 0) hn.symm (by rw [ma_0]; omega)
end Vm
theorem ret_3 {a b c a' b' c' : Int} (h : a = a' ∧ b = b' ∧ c = c') : Ending.returned (.tuple #[.int .i64 a', .int .i64 b', .int .i64 c']) = .returned (.tuple #[.int .i64 a, .int .i64 b, .int .i64 c]) := by
  rw [h.1, h.2.1, h.2.2]
set_option maxHeartbeats 1600000 in
theorem maxS_any (f : Nat → Int) (b : Nat) (w : World) (v : Value) (zs : List Int) (hz : ∀ k (h : k < zs.length), zs[k] = f k) (hW : Vm.Mx f zs.length b) (hv : Sl w v zs) (hl : zs.length ≤ 1048576) :
    Calls Tryd.prog 56 #[v] w fun e w' => e = .returned (.int .i64 (f b)) ∧ Below w.heap.size w w' := by
  obtain ⟨a, cap, rfl⟩ := hv.form
  have hn : 1 ≤ zs.length := by have := hW.lt; omega
  have hn' : ¬ ((zs.length : Int) < 1) := by omega
  have HW := Lib.hid hW
  obtain ⟨b0, off, cap1, hn1, hbl, hcc⟩ : ∃ b0 off cap1, Value.slice a zs.length cap = .slice (some ⟨b0, off, none⟩) zs.length cap1 ∧ b0 < w.heap.size ∧ ∀ k, k < zs.length → w.cell? ⟨b0, off + k, none⟩ = some (.int .i64 (f k)) := by
    rcases hv with ⟨h0, _⟩ | ⟨b0, off, cap1, h1, h2, h3⟩
    · rw [h0] at hn; simp at hn
    · exact ⟨b0, off, cap1, h1, h2, fun k h => h3 k _ (by rw [List.getElem?_eq_getElem h, hz k h])⟩
  simp only [Value.slice.injEq] at hn1
  obtain ⟨rfl, -, rfl⟩ := hn1
  have c0 : w.cell? ⟨b0, off, none⟩ = some (.int .i64 (f 0)) := hcc 0 (by omega)
  have HC := Lib.hid hcc
  have h0 : 0 < zs.length := by omega
  clear hv hz hW hcc
  go_enter Tryd.func56, Tryd.ntmps56
  go_wp2
  go_loopw [3, 4] (fun m i wr => ∃ (k c : Nat) (z : Int), 1 ≤ k ∧ k ≤ zs.length ∧ i = .int .i64 k ∧ m = .int .i64 z ∧ Hid (z = f c ∧ Vm.Mx f k c) ∧ ∃ q, wr = w.drewN q) (fun _ i _ => zs.length - (intOf i).toNat)
  case atStart => exact ⟨1, 0, f 0, by omega, by omega, rfl, rfl, Lib.hid ⟨rfl, Vm.Mx.one f⟩, 0, rfl⟩
  case round =>
    obtain ⟨k, c, z, hk1, hk, rfl, rfl, hp, q, rfl⟩ := hrel
    by_cases hlt : k < zs.length
    · have ck := HC.out k hlt
      obtain ⟨y, hy⟩ : ∃ y, f k = y := ⟨_, rfl⟩
      rw [hy] at ck
      by_cases ht : z < y
      · have HN : Hid (y = f k ∧ Vm.Mx f (k + 1) k) := Lib.hid ⟨hy.symm, hp.out.2.new (by rw [← hp.out.1, hy]; exact ht)⟩
        clear hp hy
        go_wp2
        all_goals first
          | exact ⟨⟨k + 1, k, _, by omega, by omega, by go_num, rfl, HN, _, rfl⟩, by simp only [intOf]; omega⟩
          | (exfalso; omega)
      · have HN : Hid (z = f c ∧ Vm.Mx f (k + 1) c) := Lib.hid ⟨hp.out.1, hp.out.2.keep (by rw [← hp.out.1, hy]; exact ht)⟩
        clear hp hy
        go_wp2
        all_goals first
          | exact ⟨⟨k + 1, c, _, by omega, by omega, by go_num, rfl, HN, _, rfl⟩, by simp only [intOf]; omega⟩
          | (exfalso; omega)
    · have hkn : k = zs.length := by omega
      have HR : Hid (z = f b) := Lib.hid (by
        have e : c = b := Vm.Mx.uniq (f := f) (k := zs.length) (by rw [← hkn]; exact hp.out.2) HW.out
        rw [hp.out.1, e])
      clear hkn hp
      go_wp2
      go_ret
      exact ⟨ret_int HR.out, below_drewW _ _⟩
set_option maxHeartbeats 3200000 in
theorem implLargestMass_any {a : Addr} (w : World) (v : Value) (xs : List Pat) (t s : Int) (hv : PaSl w v xs) (hl : xs.length ≤ 1048576) (hT : Tg a w) :
    Calls Tryd.prog 24 #[v, .int .i64 t, .int .i64 s] w fun e w' => e = .returned (.tuple #[.int .i64 (Vm.lmI xs t s), .int .i64 (Vm.lmM xs t s), .int .i64 (Vm.lmC xs t s)]) ∧ Below w.heap.size w w' := by
  have M := Lib.hid (massesOf_any a w v xs t s hv hl hT)
  obtain ⟨a', cap, rfl⟩ := hv.form
  clear hv hT
  by_cases hc : Vm.gC xs t s = 0
  · have HG := Lib.hid hc
    obtain ⟨h1, h2, h3⟩ := Vm.gC_0 hc
    have h24 := Vm.okS_len h1
    have hM : Vm.mL xs t s = Vm.ms xs t s xs.length := by unfold Vm.mL; rw [h1, h2, Cd.ls_t, Vm.msL_t h3]
    rw [hM, hc] at M
    clear hM hc
    by_cases hn : xs.length = 0
    · have HR := Lib.hid (Vm.lm_none HG.out hn)
      have hnb : ((xs.length : Int) == 0) = true := by rw [beq_iff_eq]; omega
      clear hn h1 h2 h3
      go_enter Tryd.func24, Tryd.ntmps24
      go_wp2_with fail
      refine M.out.mono ?_
      rintro e w1 ⟨u, rfl, o1, b1⟩
      have B1 := Lib.hid b1
      clear o1 b1
      go_wp2_with fail
      go_ret3
      exact ⟨ret_3 HR.out, B1.out⟩
    · have HR := Lib.hid (Vm.lm_ok HG.out hn)
      have hnb : ((xs.length : Int) == 0) = false := beq_eq_false_iff_ne.2 (by omega)
      have HX := Lib.hid (Vm.mx_is (Vm.up xs t s) (show 0 < xs.length by omega))
      have HB : Hid (∀ k, k ≤ xs.length → -1000000000 ≤ Vm.ma xs t s k ∧ Vm.ma xs t s k ≤ 1000000000) := Lib.hid (fun k hk => by
        have := Vm.lim_of h2
        have := Vm.fit_all h1 this.1.1 this.2.1 this.2.2 h3 hk
        omega)
      clear hn h1 h2 h3
      go_enter Tryd.func24, Tryd.ntmps24
      go_wp2_with fail
      refine M.out.mono ?_
      rintro e w1 ⟨u, rfl, o1, b1⟩
      have B1 := Lib.hid b1
      have I := Lib.hid (increases_any (Vm.ma xs t s) xs.length w.heap.size w1 u (Vm.ms xs t s xs.length) (Vm.ms_length _ _ _ _) (fun k hk => Vm.ms_at hk) HB.out o1 (by omega))
      clear o1 b1 M
      go_wp2_with fail
      refine I.out.mono ?_
      rintro e w2 ⟨u2, rfl, o2, b2⟩
      have B2 := Lib.hid (bt B1.out b2)
      have SL := Lib.hid o2.sl
      have hdl := Vm.dfs_length (Vm.ma xs t s) xs.length
      have X := Lib.hid (maxS_any (Vm.up xs t s) (Vm.mx (Vm.up xs t s) xs.length) w2 u2 (Vm.dfs (Vm.ma xs t s) xs.length) (fun k hk => Vm.dfs_at hk) (by rw [hdl]; exact HX.out) o2.sl (by omega))
      clear o2 b2 I
      go_wp2_with fail
      refine X.out.mono ?_
      rintro e w3 ⟨rfl, b3⟩
      have B3 := Lib.hid (bt B2.out b3)
      have Y := Lib.hid (indexS_any (Vm.up xs t s) (Vm.mx (Vm.up xs t s) xs.length) _ w3 u2 (Vm.dfs (Vm.ma xs t s) xs.length) (fun k hk => Vm.dfs_at hk) (by rw [hdl]; exact HX.out.lt) rfl (fun j hj => by have := HX.out.first j hj; omega) (SL.out.below b3) (by omega))
      clear b3 X SL hdl
      go_wp2_with fail
      refine Y.out.mono ?_
      rintro e w4 ⟨rfl, b4⟩
      have B4 := Lib.hid (bt B3.out b4)
      clear b4 Y
      go_wp2_with fail
      go_ret3
      exact ⟨ret_3 HR.out, B4.out⟩
  · have HR := Lib.hid (Vm.lm_code rfl hc)
    have hcb : (Vm.gC xs t s != 0) = true := by rw [bne_iff_ne]; exact hc
    generalize Vm.gC xs t s = c at *
    clear hc
    go_enter Tryd.func24, Tryd.ntmps24
    go_wp2_with fail
    refine M.out.mono ?_
    rintro e w1 ⟨u, rfl, o1, b1⟩
    have B1 := Lib.hid b1
    clear o1 b1
    go_wp2_with fail
    go_ret3
    exact ⟨ret_3 HR.out, B1.out⟩
set_option maxHeartbeats 6400000 in
theorem specLargestMass_any (w : World) (v : Value) (xs : List Pat) (t s : Int) (hv : PaSl w v xs) (hl : xs.length ≤ 1048576) :
    Calls Tryd.prog 23 #[v, .int .i64 t, .int .i64 s] w fun e w' => e = .returned (.tuple #[.int .i64 (Vm.lmI xs t s), .int .i64 (Vm.lmM xs t s), .int .i64 (Vm.lmC xs t s)]) ∧ Below w.heap.size w w' := by
  have C := Lib.hid (l12Ask_any w v xs t s hv hl)
  have G := Lib.hid (l12Growth_any w v xs t s hv hl)
  obtain ⟨a, cap, rfl⟩ := hv.form
  clear hv
  by_cases hc : Vm.askC xs t s = 0
  · obtain ⟨h1, h2⟩ := Vm.ask_0 hc
    have h24 := Vm.okS_len h1
    have hG := Vm.gC_fit h1 h2
    obtain ⟨⟨t1, t2⟩, s1, s2⟩ := Vm.lim_of h2
    rw [hc] at C
    clear hc
    by_cases hn : xs.length = 0
    · have HR := Lib.hid (Vm.lm_none (by rw [hG, Vm.fitC_t (Vm.fit_nil h2 hn)]) hn)
      have hnb : ((xs.length : Int) == 0) = true := by rw [beq_iff_eq]; omega
      clear hn h1 h2 hG G
      go_enter Tryd.func23, Tryd.ntmps23
      go_wp2_with fail
      refine C.out.mono ?_
      rintro e w1 ⟨rfl, rfl⟩
      go_wp2_with fail
      go_ret3
      exact ⟨ret_3 HR.out, Below.refl _ _⟩
    · have hnb : ((xs.length : Int) == 0) = false := beq_eq_false_iff_ne.2 (by omega)
      have G := Lib.hid (G.out h1 t1 t2 s1 s2)
      cases hf : Vm.fit xs t s with
      | false =>
        have HR := Lib.hid (Vm.lm_code (by rw [hG, Vm.fitC_f hf]) (by decide))
        rw [hf] at G
        clear hf hn h1 h2 hG
        go_enter Tryd.func23, Tryd.ntmps23
        go_wp2_with fail
        refine C.out.mono ?_
        rintro e w1 ⟨rfl, rfl⟩
        go_wp2_with fail
        refine G.out.mono ?_
        rintro e w2 ⟨u, rfl, o2, b2⟩
        have B2 := Lib.hid b2
        clear b2 o2
        go_wp2_with fail
        go_ret3
        exact ⟨ret_3 HR.out, B2.out⟩
      | true =>
        have HR := Lib.hid (Vm.lm_ok (by rw [hG, Vm.fitC_t hf]) hn)
        have HF : Hid (∀ k, k ≤ xs.length → 0 ≤ Vm.ma xs t s k ∧ Vm.ma xs t s k ≤ 100000000) := Lib.hid (fun k hk => Vm.fit_all h1 t1 s1 s2 hf hk)
        have HX := Lib.hid (Vm.mx_is (Vm.up xs t s) (show 0 < xs.length by omega))
        rw [hf, Vm.grL_t hf] at G
        clear hf h1 h2 hG
        have hn1 : 1 ≤ xs.length := by omega
        clear hn
        go_enter Tryd.func23, Tryd.ntmps23
        go_wp2_with fail
        refine C.out.mono ?_
        rintro e w1 ⟨rfl, rfl⟩
        go_wp2_with fail
        refine G.out.mono ?_
        rintro e w2 ⟨u, rfl, o2, b2⟩
        have B2 := Lib.hid b2
        obtain ⟨g, c1, rfl, -, hg2, hnc, hcm, hcc⟩ := own_open o2 (by rw [Vm.gr_length]; omega)
        have HC : Hid (∀ k, k < xs.length → w2.cell? ⟨g, k, none⟩ = some (.int .i64 (Vm.ma xs t s (k + 1)))) := Lib.hid (fun k hk => by rw [hcc k (by rw [Vm.gr_length]; omega), Vm.gr_at])
        have hcm' : c1 ≤ 9223372036854775807 := by unfold maxLen at hcm; omega
        rw [Vm.gr_length] at hnc ⊢
        have e0 := HC.out 0 (by omega)
        obtain ⟨m1, m2⟩ := HF.out 1 (by omega)
        have hU0 : Hid (Vm.ma xs t s (0 + 1) - t = Vm.up xs t s 0) := Lib.hid rfl
        rw [show (0 : Nat) + 1 = 1 from rfl] at e0 hU0
        generalize Vm.ma xs t s 1 = y at *
        clear b2 o2 hcc hcm C G
        go_wp2_with fail
        go_loopw [12, 13, 14] (fun bb m i wr => ∃ (k c : Nat) (z : Int), 1 ≤ k ∧ k ≤ xs.length ∧ i = .int .i64 k ∧ bb = .int .i64 c ∧ m = .int .i64 z ∧ -100000000 ≤ z ∧ z ≤ 100000000 ∧ Hid (z = Vm.up xs t s c ∧ Vm.Mx (Vm.up xs t s) k c) ∧ ∃ q, wr = w2.drewN q) (fun _ _ i _ => xs.length - (intOf i).toNat)
        case atStart => exact ⟨1, 0, y - t, by omega, by omega, rfl, rfl, rfl, by omega, by omega, Lib.hid ⟨hU0.out, Vm.Mx.one _⟩, 0, rfl⟩
        case round =>
          obtain ⟨k, c, z, hk1, hk, rfl, rfl, rfl, z1, z2, hp, q, rfl⟩ := hrel
          by_cases hlt : k < xs.length
          · obtain ⟨j, rfl⟩ : ∃ j, k = j + 1 := ⟨k - 1, by omega⟩
            have hltz : ((j + 1 : Nat) : Int) < (xs.length : Int) := by omega
            have ck := HC.out (j + 1) hlt
            have cj := HC.out j (by omega)
            obtain ⟨p1, p2⟩ := HF.out (j + 1) (by omega)
            obtain ⟨p3, p4⟩ := HF.out (j + 1 + 1) (by omega)
            have hU : Hid (Vm.ma xs t s (j + 1 + 1) - Vm.ma xs t s (j + 1) = Vm.up xs t s (j + 1)) := Lib.hid rfl
            generalize Vm.ma xs t s (j + 1 + 1) = p at *
            generalize Vm.ma xs t s (j + 1) = o at *
            by_cases ht : z < p - o
            · have HN : Hid (p - o = Vm.up xs t s (j + 1) ∧ Vm.Mx (Vm.up xs t s) (j + 1 + 1) (j + 1)) := Lib.hid ⟨hU.out, hp.out.2.new (by rw [← hp.out.1, ← hU.out]; exact ht)⟩
              clear hp hU
              go_wp2_with fail
              go_quiet (fail)
              go_wp2_with fail
              go_quiet (fail)
              go_wp2_with fail
              exact ⟨⟨j + 1 + 1, j + 1, p - o, by omega, by omega, by go_num, by go_num, rfl, by omega, by omega, HN, _, rfl⟩, by simp only [intOf]; omega⟩
            · have ht' : ¬ p - o > z := by omega
              have HN : Hid (z = Vm.up xs t s c ∧ Vm.Mx (Vm.up xs t s) (j + 1 + 1) c) := Lib.hid ⟨hp.out.1, hp.out.2.keep (by rw [← hp.out.1, ← hU.out]; exact ht)⟩
              clear hp hU
              go_wp2_with fail
              go_quiet (fail)
              go_wp2_with fail
              exact ⟨⟨j + 1 + 1, c, z, by omega, by omega, by go_num, rfl, rfl, by omega, by omega, HN, _, rfl⟩, by simp only [intOf]; omega⟩
          · have hkn : k = xs.length := by omega
            have hltz : ¬ (k : Int) < (xs.length : Int) := by omega
            have e : c = Vm.mx (Vm.up xs t s) xs.length := Vm.Mx.uniq (f := Vm.up xs t s) (k := xs.length) (by rw [← hkn]; exact hp.out.2) HX.out
            have HE : Hid (Vm.lmI xs t s = (c : Int) ∧ Vm.lmM xs t s = z ∧ Vm.lmC xs t s = 0) := Lib.hid ⟨by rw [e]; exact HR.out.1, by rw [hp.out.1, e]; exact HR.out.2.1, HR.out.2.2⟩
            clear hkn hp e
            go_wp2_with fail
            go_ret3
            exact ⟨ret_3 HE.out, below_drewN B2.out _⟩
  · have HR := Lib.hid (Vm.lm_code (Vm.gC_ask hc) hc)
    have hcb : (Vm.askC xs t s != 0) = true := by rw [bne_iff_ne]; exact hc
    generalize Vm.askC xs t s = c at *
    clear hc G
    go_enter Tryd.func23, Tryd.ntmps23
    go_wp2_with fail
    refine C.out.mono ?_
    rintro e w1 ⟨rfl, rfl⟩
    go_wp2_with fail
    go_ret3
    exact ⟨ret_3 HR.out, Below.refl _ _⟩
end Go.Proofs.YtobcflcmlejajaaDoor
