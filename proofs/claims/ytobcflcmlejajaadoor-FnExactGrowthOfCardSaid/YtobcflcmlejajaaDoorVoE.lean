/-
  How masses grow (chapter 12), by the program: a part's share, the masses along a path, and GrowthOf. The condition: the variable errTooGreat holds a sentinel as errors.New makes it.
-/
import Derived.Test.YtobcflcmlejajaaDoorVoD
import Derived.Test.YtobcflcmlejajaaDoorPatM
namespace Go.Proofs.YtobcflcmlejajaaDoor
open Go.RowKit Go.Shelf
set_option linter.unusedVariables false
set_option maxRecDepth 100000

set_option maxHeartbeats 3200000 in
theorem takenUp_any (x : Pat) (t s : Int) (w : World) (hf : Vm.Fits x) (t1 : 0 ≤ t) (t2 : t ≤ 100000000) (s1 : 0 ≤ s) (s2 : s ≤ 1000) :
    Calls Tryd.prog 93 #[.agg #[.int .i64 x.le, .int .i64 x.wi, .int .i64 x.de, .int .i64 x.dn], .int .i64 t, .int .i64 s] w fun e w' => e = .returned (.int .i64 (Vm.tk x t s)) ∧ Below w.heap.size w w' := by
  obtain ⟨a1, a2⟩ := Vm.area_bd hf
  obtain ⟨b1, b2⟩ := Vm.has_mul hf s1 s2
  have CM := Lib.hid (fun W => slabTonnes_any (x.le * x.wi) x.de x.dn W a1 a2 hf.d1 (by have := hf.d2; omega) (by have := hf.n1; omega) hf.n2)
  have CD := Lib.hid (fun W => divR_any (Vm.slab (x.le * x.wi) x.de x.dn * s) 1000 W (by omega) (by omega) (by omega) (by omega))
  have e1 : Hid (Ar.dr (Vm.slab (x.le * x.wi) x.de x.dn * s) 1000 = Vm.has x s) := Lib.hid rfl
  rw [e1.out] at CD
  have hr : Hid (min t (Vm.has x s) = Vm.tk x t s) := Lib.hid rfl
  generalize Vm.slab (x.le * x.wi) x.de x.dn = m at *
  have l1 := hf.l1; have l2 := hf.l2; have w1 := hf.w1; have w2 := hf.w2
  clear e1 hf
  generalize Vm.has x s = hh at *
  generalize Vm.tk x t s = r at *
  obtain ⟨x0, x1, x2, x3⟩ := x
  dsimp only at *
  by_cases hlt : t < hh
  · have hr' : Hid (t = r) := Lib.hid (by have := hr.out; omega)
    clear hr
    go_enter Tryd.func93, Tryd.ntmps93
    go_wp2_with (first | (go_at_call 71; refine (CM.out _).mono ?_; rintro e w' ⟨rfl, rfl⟩) | (go_at_call 72; refine (CD.out _).mono ?_; rintro e w' ⟨rfl, rfl⟩))
    all_goals first
      | (exfalso; omega)
      | (go_ret; exact ⟨ret_int (by have := hr'.out; omega), (Below.refl _ _).alloc (Nat.le_refl _) _⟩)
  · have hr' : Hid (hh = r) := Lib.hid (by have := hr.out; omega)
    clear hr
    go_enter Tryd.func93, Tryd.ntmps93
    go_wp2_with (first | (go_at_call 71; refine (CM.out _).mono ?_; rintro e w' ⟨rfl, rfl⟩) | (go_at_call 72; refine (CD.out _).mono ?_; rintro e w' ⟨rfl, rfl⟩))
    all_goals first
      | (exfalso; omega)
      | (go_ret; exact ⟨ret_int (by have := hr'.out; omega), (Below.refl _ _).alloc (Nat.le_refl _) _⟩)
/-- the world with a path in a new block -/
def boxM (w : World) (v : Value) (s : Int) (t : TypeId) : World := w.alloc (.cells #[v, .int .i64 s] t)
theorem boxM_below (w : World) (v : Value) (s : Int) (t : TypeId) : Below w.heap.size w (boxM w v s t) := (Below.refl _ _).alloc (Nat.le_refl _) _
theorem boxM_kept {w W : World} {v : Value} {s : Int} {t : TypeId} (h : Below (boxM w v s t).heap.size (boxM w v s t) W) : W.cell? ⟨w.heap.size, 0, none⟩ = some v ∧ W.cell? ⟨w.heap.size, 1, none⟩ = some (.int .i64 s) :=
  ⟨((Whole.new w t #[v, .int .i64 s]).all h).at_ 0, ((Whole.new w t #[v, .int .i64 s]).all h).at_ 1⟩
/-- two numbers that have just been laid one after the other -/
theorem sl_two (w : World) (a b : Int) (t : TypeId) : Sl (w.alloc (.cells #[.int .i64 a, .int .i64 b] t)) (.slice (some ⟨w.heap.size, 0, none⟩) 2 2) [a, b] := by
  refine Or.inr ⟨w.heap.size, 0, 2, rfl, by simp, ?_⟩
  have h := Whole.new w t #[.int .i64 a, .int .i64 b]
  intro j x hj
  match j, hj with
  | 0, hj => cases hj; exact h.at_ 0
  | 1, hj => cases hj; exact h.at_ 1
  | k + 2, hj => simp at hj
/-- what the masses along a path leave -/
def RMs (a : Addr) (w : World) (l : List Int) (ok : Bool) (e : Ending) (w' : World) : Prop :=
  ((ok = true ∧ ∃ u, e = .returned (.tuple #[u, .nilIface]) ∧ Own w.heap.size w' u l) ∨ (ok = false ∧ e = .returned (.tuple #[.slice none 0 0, .iface 191 (.pointer (some a))]))) ∧ Below w.heap.size w w'
set_option maxHeartbeats 6400000 in
theorem masses_any (a : Addr) (w : World) (v : Value) (xs : List Pat) (t s : Int) (hv : PaSl w v xs) (hk : Vm.okS xs = true) (t1 : 0 ≤ t) (t2 : t ≤ 100000000) (s1 : 0 ≤ s) (s2 : s ≤ 1000) (hT : Tg a w) :
    Calls Tryd.prog 60 #[.agg #[v, .int .i64 s], .int .i64 t] w (RMs a w (Vm.ms xs t s xs.length) (Vm.fit xs t s)) := by
  obtain ⟨i0, hi0, hz0, hz1, hz2⟩ := info_parts info_i64
  obtain ⟨a', cap, rfl⟩ := hv.form
  have h24 := Vm.okS_len hk
  have HV := Lib.hid hv
  have HK := Lib.hid hk
  have HT := Lib.hid hT
  have B0 := Lib.hid (boxM_below w (.slice a' xs.length cap) s 75)
  have K0 := Lib.hid (fun W (h : Below (boxM w (.slice a' xs.length cap) s 75).heap.size (boxM w (.slice a' xs.length cap) s 75) W) => boxM_kept h)
  have hbx : boxM w (.slice a' xs.length cap) s 75 = w.alloc (.cells #[.slice a' xs.length cap, .int .i64 s] 75) := rfl
  have hs1 : (boxM w (.slice a' xs.length cap) s 75).heap.size = w.heap.size + 1 := by simp [boxM]
  generalize boxM w (.slice a' xs.length cap) s 75 = w1 at *
  have B1 := Lib.hid ((Below.refl w1.heap.size w1).alloc (Nat.le_refl _) (.cells #[.int .i64 t] 2))
  have O1 : Hid (Own w1.heap.size (w1.alloc (.cells #[.int .i64 t] 2)) (.slice (some ⟨w.heap.size + 1, 0, none⟩) 1 1) (Vm.ms xs t s 0)) := Lib.hid (by rw [← hs1]; exact World.ownsRow_lit _ _ _ (Nat.le_refl _) (by decide) rfl)
  clear hs1
  clear hv hk hT
  obtain ⟨y0, y1⟩ := K0.out _ B1.out
  go_enter Tryd.func60, Tryd.ntmps60
  go_wp2_with fail
  rw [← hbx]
  clear hbx
  go_wp2_with fail
  go_loopw [1, 6, 16] (fun tt u i wr => ∃ (k : Nat) (z : Int), k ≤ xs.length ∧ i = .int .i64 k ∧ tt = .int .i64 z ∧ 0 ≤ z ∧ z ≤ 100000000 ∧ Hid (z = Vm.ma xs t s k) ∧ Hid (Own w1.heap.size wr u (Vm.ms xs t s k)) ∧ Hid (Below w1.heap.size w1 wr)) (fun _ _ i _ => xs.length - (intOf i).toNat)
  case atStart => exact ⟨0, t, Nat.zero_le _, rfl, rfl, t1, t2, Lib.hid rfl, O1, B1⟩
  case round =>
    obtain ⟨k, z, hkn, rfl, rfl, z1, z2, hz, ho, hbw⟩ := hrel
    have hB := Lib.hid (bt B0.out hbw.out)
    by_cases hlt : k < xs.length
    · have hltz : (k : Int) < (xs.length : Int) := by omega
      obtain ⟨b, off, cap1, hn, hbl, hcc⟩ := (HV.out.below hB.out).at_ hlt
      simp only [Value.slice.injEq] at hn
      obtain ⟨rfl, -, rfl⟩ := hn
      obtain ⟨c0, c1, c2, c3⟩ := hcc k hlt
      have hf := Vm.okS_at HK.out hlt
      have P := Lib.hid (fun W => takenUp_any xs[k] z s W hf z1 z2 s1 s2)
      have hb := Vm.tk_bd hf z1 s1 s2
      have hz' : Hid (z + Vm.tk xs[k] z s = Vm.ma xs t s (k + 1)) := Lib.hid (by rw [Vm.ma_succ hlt, hz.out])
      have hlen := Vm.ms_length xs t s k
      clear hcc hf hz
      obtain ⟨q, hq⟩ : ∃ q, Vm.tk xs[k] z s = q := ⟨_, rfl⟩
      rw [hq] at P hz' hb
      clear hq
      obtain ⟨b1, b2, b3⟩ := hb
      have KX := Lib.hid (fun W (h : Below (boxPat wr xs[k] 59).heap.size (boxPat wr xs[k] 59) W) => boxPat_kept h)
      have BX := Lib.hid (boxPat_below wr xs[k] 59)
      have hbp : boxPat wr xs[k] 59 = wr.alloc (.cells #[.int .i64 xs[k].le, .int .i64 xs[k].wi, .int .i64 xs[k].de, .int .i64 xs[k].dn] 59) := rfl
      have J := Lib.hid (fun W u (hs : Sl W u [z, q]) (h : Below w.heap.size w W) => joined_any a W u [z, q] (by simp) hs (by
        intro j hj
        match j, hj with
        | 0, _ => exact ⟨z1, by show z ≤ _; omega⟩
        | 1, _ => exact ⟨b1, by show q ≤ _; omega⟩
        | j + 2, hj => simp at hj; omega) (HT.out.below h))
      have hsum : ([z, q] : List Int).sum = z + q := by simp
      rw [hsum] at J
      clear hsum
      generalize boxPat wr xs[k] 59 = w2 at *
      obtain ⟨d0, d1, d2, d3⟩ := (KX.out w2 (Below.refl _ _)).zero
      obtain ⟨e0, e1⟩ := K0.out w2 (bt hbw.out BX.out)
      have BW := Lib.hid (bt hbw.out BX.out)
      have OW := Lib.hid (own_belowAll ho.out BX.out)
      subst hbp
      go_wp2_with fail
      refine (P.out _).mono ?_
      rintro e w3 ⟨rfl, b3⟩
      have BW3 := Lib.hid (bt BW.out b3)
      have OW3 := Lib.hid (own_belowAll OW.out b3)
      clear b3 BW OW ho hbw hB c0 c1 c2 c3 d0 d1 d2 d3 e0 e1 y0 y1 P
      have BL := Lib.hid ((Below.refl w3.heap.size w3).alloc (Nat.le_refl _) (.cells #[.int .i64 z, .int .i64 q] 2))
      have J1 := Lib.hid (J.out _ _ (sl_two w3 z q 2) (bt (bt B0.out BW3.out) BL.out))
      by_cases hg : z + q ≤ 100000000
      · have hg2 := Vm.ms_succ xs t s k
        go_wp2_with fail
        refine J1.out.mono ?_
        rintro e w4 ⟨he, q4, hw4⟩
        rcases he with ⟨_, rfl⟩ | ⟨hno, _⟩
        case inr => exact absurd hg hno
        have b4 : Below w3.heap.size w3 w4 := by rw [hw4]; exact bt BL.out (below_drewW _ _)
        have B4 := Lib.hid (bt BW3.out b4)
        have O4 := Lib.hid (own_belowAll OW3.out b4)
        clear hw4 b4 BW3 OW3 BL J1
        go_wp2_with (at_builtin; refine wpList_append_own _ rfl _ _ 27 rfl w1.heap.size 2 i0 (.int .i64 0) 1 8 Tryd.underlying27 hi0 hz0 hz1 hz2 rfl (by decide) _ _ _ rfl (own_belowAll O4.out ((Below.refl _ _).alloc (Nat.le_refl _) _)) ⟨w4.heap.size, 0, none⟩ 1 1 [.int .i64 (z + q)] rfl rfl (row_new _ [_] _) (iv_cell [z + q]) ?c3 ?c4 ?c5 ?_)
        case c3 => unfold maxLen; omega
        case c4 => omega
        case c5 => have := B4.out.size; first | omega | (simp; omega)
        intro v' w5 hown' hgrow _
        have hnx : Hid (Own w1.heap.size w5 v' (Vm.ms xs t s (k + 1))) := Lib.hid (by rw [hg2, ← hz'.out]; unfold Own; rw [iv_append, List.length_append, hlen]; exact hown')
        have hnb1 : Hid (Below w1.heap.size w1 w5) := Lib.hid ((B4.out.alloc B4.out.size _).grown hgrow (by have := B4.out.size; simp; omega) (fun j hj => (O4.out.lt j hj).1))
        clear hown' hgrow O4 B4 hg2
        go_wp2
        exact ⟨⟨k + 1, z + q, by omega, by go_num, rfl, by omega, hg, hz', hnx, hnb1⟩, by simp only [intOf]; omega⟩
      · have hff : Hid (Vm.fit xs t s = false) := Lib.hid (Vm.fit_f HK.out t1 s1 s2 (show k + 1 ≤ xs.length by omega) (by rw [← hz'.out]; exact hg))
        go_wp2_with fail
        refine J1.out.mono ?_
        rintro e w4 ⟨he, q4, hw4⟩
        rcases he with ⟨hyes, _⟩ | ⟨_, rfl⟩
        case inl => exfalso; omega
        have b4 : Below w3.heap.size w3 w4 := by rw [hw4]; exact bt BL.out (below_drewW _ _)
        have B4 := Lib.hid (bt (bt B0.out BW3.out) b4)
        clear hw4 b4 BW3 OW3 BL J1
        go_wp2_with fail
        go_ret2
        exact ⟨Or.inr ⟨hff.out, rfl⟩, B4.out⟩
    · have hltz : ¬ (k : Int) < (xs.length : Int) := by omega
      have hkz : k = xs.length := by omega
      have hff : Hid (Vm.fit xs t s = true) := Lib.hid (Vm.fit_t hkz (by rw [← hz.out]; exact z2))
      rw [hkz] at ho
      clear hkz
      go_wp2
      go_ret2
      exact ⟨Or.inl ⟨hff.out, _, rfl, Go.Joins.ownsRow_le ho.out B0.out.size⟩, hB.out⟩
end Go.Proofs.YtobcflcmlejajaaDoor
