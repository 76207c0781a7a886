/-
  How masses grow (chapter 12), by the model. No condition of its own.
-/
import Derived.Test.YtobcflcmlejajaaDoorVoH
namespace Go.Proofs.YtobcflcmlejajaaDoor
open Go.RowKit Go.Shelf
set_option linter.unusedVariables false
set_option maxRecDepth 100000

namespace Vm
def askC (xs : List Pat) (t s : Int) : Int := Cd.cd (okS xs) (lim t s) 0
def fitC (xs : List Pat) (t s : Int) : Int := if fit xs t s then 0 else 6
def grL (xs : List Pat) (t s : Int) : List Int := if fit xs t s then gr xs t s xs.length else []
theorem grL_f {xs : List Pat} {t s : Int} (h : fit xs t s = false) : grL xs t s = [] := by unfold grL; rw [h]; rfl
theorem grL_t {xs : List Pat} {t s : Int} (h : fit xs t s = true) : grL xs t s = gr xs t s xs.length := by unfold grL; rw [h]; rfl
theorem fitC_f {xs : List Pat} {t s : Int} (h : fit xs t s = false) : fitC xs t s = 6 := by unfold fitC; rw [h]; rfl
theorem fitC_t {xs : List Pat} {t s : Int} (h : fit xs t s = true) : fitC xs t s = 0 := by unfold fitC; rw [h]; rfl
def gC (xs : List Pat) (t s : Int) : Int := Cd.cd (okS xs) (lim t s) (fitC xs t s)
def gL (xs : List Pat) (t s : Int) : List Int := Cd.ls (okS xs) (lim t s) (grL xs t s)
theorem gL_len {xs : List Pat} {t s : Int} : (gL xs t s).length ≤ xs.length := by
  unfold gL
  refine Cd.ls_len ?_
  unfold grL
  split
  · rw [gr_length]; exact Nat.le_refl _
  · exact Nat.zero_le _
end Vm
set_option maxHeartbeats 1600000 in
theorem l12Ask_any (w : World) (v : Value) (xs : List Pat) (t s : Int) (hv : PaSl w v xs) (hl : xs.length ≤ 1048576) :
    Calls Tryd.prog 52 #[v, .int .i64 t, .int .i64 s] w fun e w' => e = .returned (.int .i64 (Vm.askC xs t s)) ∧ w = w' := by
  have C := Lib.hid (l12Ok_any w v xs hv hl)
  obtain ⟨a, cap, rfl⟩ := hv.form
  clear hv
  unfold Vm.askC Vm.lim Vm.ton
  cases hq : Vm.okS xs with
  | false =>
    rw [hq] at C
    rw [Cd.cd_f]
    clear hq
    go_enter Tryd.func52, Tryd.ntmps52
    go_wp2_with fail
    refine C.out.mono ?_
    rintro e w1 ⟨rfl, rfl⟩
    go_wp2_with fail
    go_ret
    exact ⟨rfl, rfl⟩
  | true =>
    rw [hq] at C
    clear hq
    rcases in_cases 0 t 100000000 with ⟨h1, h2, hi⟩ | ⟨hn, hi⟩ <;> rcases in_cases 0 s 1000 with ⟨k1, k2, ki⟩ | ⟨kn, ki⟩
    all_goals rw [hi, ki]
    all_goals (
      try clear hn
      try clear kn
      go_enter Tryd.func52, Tryd.ntmps52
      go_wp2_with fail
      refine C.out.mono ?_
      rintro e w1 ⟨rfl, rfl⟩
      go_wp2_with (first | (go_at_call 47; refine (l12Tonnes_any2 _ _).mono ?_; rintro e w' ⟨rfl, rfl⟩) | (go_at_call 87; refine (l00In_any _ _ _ _).mono ?_; rintro e w' ⟨rfl, rfl⟩))
      go_ret
      exact ⟨rfl, rfl⟩)
set_option maxHeartbeats 3200000 in
theorem l12Taken_any (x : Pat) (t s : Int) (b o : Nat) (w : World) (h : PaCells w b o x) (hf : Vm.Fits x) (t1 : 0 ≤ t) (t2 : t ≤ 100000000) (s1 : 0 ≤ s) (s2 : s ≤ 1000) :
    Calls Tryd.prog 89 #[.pointer (some ⟨b, o, none⟩), .int .i64 t, .int .i64 s] w fun e w' => e = .returned (.int .i64 (Vm.tk x t s)) ∧ ∃ q, w' = w.drewN q := by
  obtain ⟨c0, c1, c2, c3⟩ := h
  obtain ⟨a1, a2⟩ := Vm.area_bd hf
  obtain ⟨b1, b2⟩ := Vm.has_mul hf s1 s2
  have CM := Lib.hid (fun W => l12Mass_any (x.le * x.wi) x.de x.dn W a1 a2 hf.d1 (by have := hf.d2; omega) (by have := hf.n1; omega) hf.n2)
  have CD := Lib.hid (fun W => l01Div_any (Vm.slab (x.le * x.wi) x.de x.dn * s) 1000 W (by omega) (by omega) (by omega) (by omega) (Or.inr (by omega)))
  have CN := Lib.hid (fun W => mn_any t (Vm.has x s) (Vm.tk x t s) W rfl)
  have e1 : Hid (Ar.dr (Vm.slab (x.le * x.wi) x.de x.dn * s) 1000 = Vm.has x s) := Lib.hid rfl
  rw [e1.out] at CD
  generalize Vm.slab (x.le * x.wi) x.de x.dn = m at *
  have l1 := hf.l1; have l2 := hf.l2; have w1 := hf.w1; have w2 := hf.w2
  clear e1 hf
  generalize Vm.has x s = hh at *
  generalize Vm.tk x t s = r at *
  obtain ⟨x0, x1, x2, x3⟩ := x
  dsimp only at *
  obtain ⟨p, hp⟩ : ∃ p, x0 * x1 = p := ⟨_, rfl⟩
  have hw : IntKind.i64.wrap (x0 * x1) = p := by rw [hp]; exact IntWalk.i64_in _ ⟨by omega, by omega⟩
  have hw2 : wrap64 (x0 * x1) = p := by rw [hp]; exact IntWalk.wrap64_in _ ⟨by omega, by omega⟩
  have hm : IntKind.i64.wrap (m * s) = m * s := IntWalk.i64_in _ ⟨by omega, by omega⟩
  rw [hp] at CM
  clear hp
  go_enter Tryd.func89, Tryd.ntmps89
  go_wp2_with fail
  go_quiet ((first
    | (go_at_call 114; exact Calls.quiet_of_same ((CM.out _).mono fun _ _ ⟨h, h'⟩ => ⟨h, h'.symm⟩))
    | (go_at_call 113; exact Calls.quiet_of_same ((CD.out _).mono fun _ _ ⟨h, h'⟩ => ⟨h, h'.symm⟩))
    | (go_at_call 112; exact Calls.quiet_of_same ((CN.out _).mono fun _ _ ⟨h, h'⟩ => ⟨h, h'.symm⟩))))
  go_wp2
  go_ret
  exact ⟨rfl, _, rfl⟩
set_option maxHeartbeats 3200000 in
theorem l12Growth_any (w : World) (v : Value) (xs : List Pat) (t s : Int) (hv : PaSl w v xs) (hl : xs.length ≤ 1048576) (hk : Vm.okS xs = true) (t1 : 0 ≤ t) (t2 : t ≤ 100000000) (s1 : 0 ≤ s) (s2 : s ≤ 1000) :
    Calls Tryd.prog 53 #[v, .int .i64 t, .int .i64 s] w (RVb w (Vm.grL xs t s) (Vm.fit xs t s)) := by
  obtain ⟨i0, hi0, hz0, hz1, hz2⟩ := info_parts info_i64
  obtain ⟨a, cap, rfl⟩ := hv.form
  have HV := Lib.hid hv
  have HK := Lib.hid hk
  have h24 := Vm.okS_len hk
  have BA := Lib.hid ((Below.refl w.heap.size w).alloc (Nat.le_refl _) (.cells #[] 2))
  have O1 : Hid (Own w.heap.size (w.alloc (.cells #[] 2)) (.slice (some ⟨w.heap.size, 0, none⟩) 0 0) (Vm.gr xs t s 0)) := Lib.hid (World.ownsRow_lit _ _ _ (Nat.le_refl _) (by decide) (by decide))
  clear hv hk
  go_enter Tryd.func53, Tryd.ntmps53
  go_wp2
  go_loopw [1, 8, 9] (fun tt u i wr => ∃ (k : Nat) (z : Int), k ≤ xs.length ∧ i = .int .i64 k ∧ tt = .int .i64 z ∧ 0 ≤ z ∧ z ≤ 100000000 ∧ Hid (z = Vm.ma xs t s k) ∧ Hid (Own w.heap.size wr u (Vm.gr xs t s k)) ∧ Hid (Below w.heap.size w wr)) (fun _ _ i _ => xs.length - (intOf i).toNat)
  case atStart => exact ⟨0, t, Nat.zero_le _, rfl, rfl, t1, t2, Lib.hid rfl, O1, BA⟩
  case round =>
    obtain ⟨k, z, hkn, rfl, rfl, z1, z2, hz, ho, hbw⟩ := hrel
    by_cases hlt : k < xs.length
    · obtain ⟨b, off, cap1, hn, hbl, hcc⟩ := (HV.out.below hbw.out).at_ hlt
      simp only [Value.slice.injEq] at hn
      obtain ⟨rfl, -, rfl⟩ := hn
      have hf := Vm.okS_at HK.out hlt
      have P := Lib.hid (l12Taken_any xs[k] z s b (off + k * 4) wr (hcc k hlt) hf z1 z2 s1 s2)
      have hb := Vm.tk_bd hf z1 s1 s2
      have hz' : Hid (z + Vm.tk xs[k] z s = Vm.ma xs t s (k + 1)) := Lib.hid (by rw [Vm.ma_succ hlt, hz.out])
      have hlen := Vm.gr_length xs t s k
      clear hcc hf hz
      obtain ⟨q, hq⟩ : ∃ q, Vm.tk xs[k] z s = q := ⟨_, rfl⟩
      rw [hq] at P hz' hb
      clear hq
      obtain ⟨b1, b2, b3⟩ := hb
      have T := fun W => Lib.hid (l12Tonnes_any2 (z + q) W)
      by_cases hg : z + q ≤ 100000000
      · have hi : Ar.inB 0 (z + q) 100000000 = true := Ar.inB_t (by omega) hg
        have hg2 := Vm.gr_succ xs t s k
        rw [hi] at T
        clear hi
        go_wp2_with fail
        refine P.out.mono ?_
        rintro e _ ⟨rfl, q2, rfl⟩
        have O2 := Lib.hid (own_belowAll ho.out (below_drewW _ q2))
        have B2 := Lib.hid (bt hbw.out (below_drewW _ q2))
        generalize wr.drewN q2 = w2 at *
        clear ho hbw P
        go_wp2_with fail
        refine (T _).out.mono ?_
        rintro e w' ⟨rfl, rfl⟩
        go_wp2_with (at_builtin; refine wpList_append_own _ rfl _ _ 27 rfl w.heap.size 2 i0 (.int .i64 0) 1 8 Tryd.underlying27 hi0 hz0 hz1 hz2 rfl (by decide) _ _ _ rfl (own_belowAll O2.out ((Below.refl _ _).alloc (Nat.le_refl _) _)) ⟨w2.heap.size, 0, none⟩ 1 1 [.int .i64 (z + q)] rfl rfl (row_new _ [_] _) (iv_cell [z + q]) ?c3 ?c4 ?c5 ?_)
        case c3 => unfold maxLen; omega
        case c4 => omega
        case c5 => have := B2.out.size; first | omega | (simp; omega)
        intro v' w3 hown' hgrow _
        have hnx : Hid (Own w.heap.size w3 v' (Vm.gr xs t s (k + 1))) := Lib.hid (by rw [hg2, ← hz'.out]; unfold Own; rw [iv_append, List.length_append, hlen]; exact hown')
        have hnb : Hid (Below w.heap.size w w3) := Lib.hid ((B2.out.alloc B2.out.size _).grown hgrow (by have := B2.out.size; simp; omega) (fun j hj => (O2.out.lt j hj).1))
        clear hown' hgrow O2 B2 hg2
        go_wp2
        exact ⟨⟨k + 1, z + q, by omega, by go_num, rfl, by omega, hg, hz', hnx, hnb⟩, by simp only [intOf]; omega⟩
      · have hi : Ar.inB 0 (z + q) 100000000 = false := Ar.inB_f (by omega)
        have hff : Hid (Vm.fit xs t s = false) := Lib.hid (Vm.fit_f HK.out t1 s1 s2 (show k + 1 ≤ xs.length by omega) (by rw [← hz'.out]; exact hg))
        rw [hi] at T
        clear hi
        go_wp2_with fail
        refine P.out.mono ?_
        rintro e _ ⟨rfl, q2, rfl⟩
        have B2 := Lib.hid (bt hbw.out (below_drewW _ q2))
        generalize wr.drewN q2 = w2 at *
        clear ho hbw P
        go_wp2_with fail
        refine (T _).out.mono ?_
        rintro e w' ⟨rfl, rfl⟩
        go_wp2_with fail
        go_ret2
        rw [hff.out, Vm.grL_f hff.out]
        exact ⟨_, rfl, World.ownsRow_nil _ _ _ _, B2.out⟩
    · have hkz : k = xs.length := by omega
      have hff : Hid (Vm.fit xs t s = true) := Lib.hid (Vm.fit_t hkz (by rw [← hz.out]; exact z2))
      rw [hkz] at ho
      clear hkz
      go_wp2
      go_ret2
      rw [hff.out, Vm.grL_t hff.out]
      exact ⟨_, rfl, ho.out, hbw.out⟩
set_option maxHeartbeats 1600000 in
theorem specGrowthOf_any (w : World) (v : Value) (xs : List Pat) (t s : Int) (hv : PaSl w v xs) (hl : xs.length ≤ 1048576) :
    Calls Tryd.prog 15 #[v, .int .i64 t, .int .i64 s] w (RVs w (Vm.gL xs t s) (Vm.gC xs t s)) := by
  have C := Lib.hid (l12Ask_any w v xs t s hv hl)
  have G := Lib.hid (l12Growth_any w v xs t s hv hl)
  obtain ⟨a, cap, rfl⟩ := hv.form
  clear hv
  unfold Vm.askC at C
  unfold Vm.gL Vm.gC
  cases hq : Vm.okS xs with
  | false =>
    rw [hq, Cd.cd_f] at C
    rw [Cd.cd_f, Cd.ls_f]
    clear hq G
    go_enter Tryd.func15, Tryd.ntmps15
    go_wp2_with fail
    refine C.out.mono ?_
    rintro e w1 ⟨rfl, rfl⟩
    go_wp2_with fail
    go_ret2
    exact RVs.no (Below.refl _ _)
  | true =>
    cases hs : Vm.lim t s with
    | false =>
      rw [hq, hs, Cd.cd_tf] at C
      rw [Cd.cd_tf, Cd.ls_tf]
      clear hq hs G
      go_enter Tryd.func15, Tryd.ntmps15
      go_wp2_with fail
      refine C.out.mono ?_
      rintro e w1 ⟨rfl, rfl⟩
      go_wp2_with fail
      go_ret2
      exact RVs.no (Below.refl _ _)
    | true =>
      obtain ⟨⟨t1, t2⟩, s1, s2⟩ := Vm.lim_of hs
      rw [hq, hs, Cd.cd_t] at C
      rw [Cd.cd_t, Cd.ls_t]
      have G := Lib.hid (G.out hq t1 t2 s1 s2)
      clear hq hs
      cases hf : Vm.fit xs t s with
      | false =>
        rw [hf, Vm.grL_f hf] at G
        rw [Vm.grL_f hf, Vm.fitC_f hf]
        clear hf
        go_enter Tryd.func15, Tryd.ntmps15
        go_wp2_with fail
        refine C.out.mono ?_
        rintro e w1 ⟨rfl, rfl⟩
        go_wp2_with fail
        refine G.out.mono ?_
        rintro e w2 ⟨u, rfl, o2, b2⟩
        have B2 := Lib.hid b2
        clear b2 o2
        go_wp2_with fail
        go_ret2
        exact RVs.no B2.out
      | true =>
        rw [hf, Vm.grL_t hf] at G
        rw [Vm.grL_t hf, Vm.fitC_t hf]
        clear hf
        go_enter Tryd.func15, Tryd.ntmps15
        go_wp2_with fail
        refine C.out.mono ?_
        rintro e w1 ⟨rfl, rfl⟩
        go_wp2_with fail
        refine G.out.mono ?_
        rintro e w2 ⟨u, rfl, o2, b2⟩
        have B2 := Lib.hid b2
        have O2 := Lib.hid o2
        clear b2 o2
        go_wp2_with fail
        go_ret2
        exact RVs.yes rfl rfl O2.out B2.out
end Go.Proofs.YtobcflcmlejajaaDoor
