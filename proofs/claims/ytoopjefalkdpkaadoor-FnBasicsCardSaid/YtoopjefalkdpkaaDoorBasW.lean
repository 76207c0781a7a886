import Derived.Test.YtoopjefalkdpkaaDoorBasM
import Derived.Test.YtoopjefalkdpkaaDoorSrc
namespace Go.Proofs.YtoopjefalkdpkaaDoor
open Go.RowKit
set_option linter.unusedVariables false

/-- bytes that came in, as the source reads them -/
theorem Bs.of_row {w : World} {a : Option Addr} {len cap : Nat} {zs : List Int}
    (h : (a = none ∧ len = 0 ∧ cap = 0 ∧ zs = []) ∨ ∃ x, a = some x ∧ len ≤ cap ∧ cap ≤ maxLen ∧ zs.length = cap ∧ (∀ i, i < zs.length → w.cell? (x.add i) = some (.int .u8 (zs.getD i 0))) ∧ ∀ n ∈ zs, (Lit.int .u8 n).wf = true) :
    Bs w.heap.size w (.slice a len cap) len := by
  rcases h with ⟨rfl, rfl, rfl, rfl⟩ | ⟨x, rfl, hl, hm, hz, hc, hw⟩
  · exact Or.inl ⟨rfl, _, _, rfl⟩
  · rcases Nat.eq_zero_or_pos len with h0 | h0
    · subst h0; exact Or.inl ⟨rfl, _, _, rfl⟩
    · obtain ⟨b, off, rfl, hc'⟩ := ints_at hc (by omega)
      have c0 := hc' 0 (by omega)
      refine Or.inr ⟨b, off, cap, rfl, World.block_lt_of_cell? w _ c0, fun j hj => ?_⟩
      have hr := range_u8 hw j
      refine ⟨zs[j]?.getD 0, hr.1, hr.2, ?_⟩
      rw [hc' j (by omega), List.getD_eq_getElem?_getD]
set_option maxHeartbeats 1600000 in
theorem r8Same_any (w : World) (v u : Value) (zs ys : List Int) (hv : Sl w v zs) (hu : Sl w u ys) (hl : zs.length ≤ 1048576) (hl2 : ys.length ≤ 1048576) :
    Calls Tryd.prog 30 #[v, u] w fun e w' => e = .returned (.bool (zs == ys)) ∧ Below w.heap.size w w' := by
  by_cases hlen : zs.length = ys.length
  · by_cases hz : zs.length = 0
    · obtain ⟨a, cap, rfl⟩ := hv.nil_of hz
      obtain ⟨a', cap', rfl⟩ := hu.nil_of (by omega)
      have he : Hid ((zs == ys) = true) := Lib.hid (by rw [List.eq_nil_of_length_eq_zero hz, List.eq_nil_of_length_eq_zero (show ys.length = 0 by omega)]; rfl)
      clear hz hlen
      go_enter Tryd.func30, Tryd.ntmps30
      go_wp2
      refine wp_loop_rounds 1 ?_
      rw [rounds_succ]
      go_wp2
      go_ret
      exact ⟨ret_bool he.out.symm, Below.refl _ _⟩
    · rcases hv with ⟨rfl, -⟩ | ⟨b, off, cap, rfl, hlt, hc⟩
      · exact absurd rfl hz
      · rcases hu with ⟨rfl, -⟩ | ⟨b', off', cap', rfl, hlt', hc'⟩
        · exact absurd hlen hz
        · have hll : ((zs.length : Int) != (ys.length : Int)) = false := by simp; omega
          have hle : zs.length ≤ ys.length := by omega
          have HL := Lib.hid hlen
          have HC := Lib.hid hc
          have HC' := Lib.hid hc'
          clear hlen hc hc' hz
          go_enter Tryd.func30, Tryd.ntmps30
          go_wp2
          go_loopw [5] (fun i wr => ∃ k : Nat, k ≤ zs.length ∧ i = .int .i64 k ∧ (∃ n, wr = w.drewN n) ∧ Hid (zs.take k = ys.take k)) (fun i _ => zs.length - (intOf i).toNat)
          case atStart => exact ⟨0, Nat.zero_le _, rfl, ⟨0, rfl⟩, Lib.hid rfl⟩
          case round =>
            obtain ⟨k, hk, rfl, ⟨n, rfl⟩, hp⟩ := hrel
            by_cases hlt2 : k < zs.length
            · have hlt3 : k < ys.length := by omega
              have c1 := HC.out k zs[k] (List.getElem?_eq_getElem hlt2)
              have c2 := HC'.out k ys[k] (List.getElem?_eq_getElem hlt3)
              by_cases he : zs[k] = ys[k]
              · have hx : (zs[k] != ys[k]) = false := by rw [he]; exact bne_self_eq_false' _
                have hn := Lib.hid (take_eq hlt2 hlt3 hp.out he)
                clear he
                go_wp2
                go_quiet (fail)
                go_wp2
                exact ⟨⟨k + 1, by omega, by go_num, ⟨_, rfl⟩, hn⟩, by simp only [intOf]; omega⟩
              · have hx : (zs[k] != ys[k]) = true := by rw [bne_iff_ne]; exact he
                have hn := Lib.hid (ne_of_at hlt2 hlt3 he)
                clear he
                go_wp2
                go_quiet (fail)
                go_wp2
                go_ret
                exact ⟨ret_bool hn.out.symm, below_drewN (below_drewN (Below.refl _ _) _) _⟩
            · have hkz : k = zs.length := by omega
              have hn : Hid ((zs == ys) = true) := Lib.hid (eq_of_take HL.out (by rw [← hkz]; exact hp.out))
              clear hkz
              go_wp2
              go_ret
              exact ⟨ret_bool hn.out.symm, below_drewN (Below.refl _ _) _⟩
  · obtain ⟨a, cap, rfl⟩ := hv.form
    obtain ⟨a', cap', rfl⟩ := hu.form
    have hll : ((zs.length : Int) != (ys.length : Int)) = true := by rw [bne_iff_ne]; omega
    have hn : Hid ((zs == ys) = false) := Lib.hid (by rw [beq_eq_false_iff_ne]; intro e; exact hlen (by rw [e]))
    clear hlen
    go_enter Tryd.func30, Tryd.ntmps30
    go_wp2
    go_ret
    exact ⟨ret_bool hn.out.symm, Below.refl _ _⟩
theorem r8Long_no (w : World) (a b : Option Addr) (n m cn cm : Nat) (h1 : n ≤ 1048576) (h2 : m ≤ 1048576) :
    Calls Tryd.prog 23 #[.slice a n cn, .slice b m cm] w fun e w' => e = .returned (.bool false) ∧ w = w' := by
  have h3 : ¬ (1048576 : Int) < n := by omega
  have h4 : ¬ (1048576 : Int) < m := by omega
  go_enter Tryd.func23, Tryd.ntmps23
  go_wp2
  go_ret
  exact ⟨rfl, rfl⟩
theorem r8Long_yes (w : World) (a b : Option Addr) (n m cn cm : Nat) (h : 1048576 < n ∨ 1048576 < m) :
    Calls Tryd.prog 23 #[.slice a n cn, .slice b m cm] w fun e w' => e = .returned (.bool true) ∧ w = w' := by
  by_cases h1 : 1048576 < n
  · have h3 : (1048576 : Int) < n := by omega
    clear h
    go_enter Tryd.func23, Tryd.ntmps23
    go_wp2
    go_ret
    exact ⟨rfl, rfl⟩
  · have h3 : ¬ (1048576 : Int) < n := by omega
    have h4 : (1048576 : Int) < m := by omega
    clear h
    go_enter Tryd.func23, Tryd.ntmps23
    go_wp2
    go_ret
    exact ⟨rfl, rfl⟩
set_option maxHeartbeats 800000 in
theorem r8At_any (B : Nat) (w : World) (v : Value) (n : Nat) (k : Int) (hv : Bs B w v n) (hk0 : 0 ≤ k) (hk1 : k ≤ 100000) (hl : n ≤ 1048576) :
    Calls Tryd.prog 48 #[v, .int .i64 k, .int .i64 256] w fun e w' => ∃ x : Int, e = .returned (.int .i64 x) ∧ 0 ≤ x ∧ x ≤ 255 ∧ Below B w w' := by
  obtain ⟨a, cap, rfl⟩ := hv.form
  obtain ⟨j, rfl⟩ := Int.eq_ofNat_of_zero_le hk0
  by_cases hj : j < n
  · obtain ⟨b, off, rfl, hb, x, x0, x1, hc⟩ := hv.byte hj
    have hj2 : ¬ (n : Int) ≤ j := by omega
    clear hv
    have t0 := Int.emod_nonneg x (b := 256) (by omega)
    have t1 := Int.emod_lt_of_pos x (b := 256) (by omega)
    go_enter Tryd.func48, Tryd.ntmps48
    go_wp2
    go_ret
    exact ⟨_, rfl, t0, by omega, by first | exact Below.refl _ _ | exact below_drewN (Below.refl _ _) _⟩
  · have hj2 : (n : Int) ≤ j := by omega
    clear hv
    go_enter Tryd.func48, Tryd.ntmps48
    go_wp2
    go_ret
    exact ⟨_, rfl, by omega, by omega, by first | exact Below.refl _ _ | exact below_drewN (Below.refl _ _) _⟩
set_option maxHeartbeats 800000 in
theorem r8Wide_any (B : Nat) (w : World) (v : Value) (n : Nat) (k m : Int) (hv : Bs B w v n) (hk0 : 0 ≤ k) (hk1 : k ≤ 90000) (hm0 : 1 ≤ m) (hm1 : m ≤ 1000000) (hl : n ≤ 1048576) :
    Calls Tryd.prog 28 #[v, .int .i64 k, .int .i64 m] w fun e w' => ∃ x : Int, e = .returned (.int .i64 x) ∧ 0 ≤ x ∧ x ≤ m - 1 ∧ Below B w w' := by
  obtain ⟨a, cap, rfl⟩ := hv.form
  have HV := Lib.hid hv
  have C := Lib.hid (fun (W : World) (j : Int) (h : Bs B W (.slice a n cap) n) (h0 : 0 ≤ j) (h1 : j ≤ 100000) => r8At_any B W (.slice a n cap) n j h h0 h1 hl)
  clear hv
  go_enter Tryd.func28, Tryd.ntmps28
  go_wp2_with fail
  refine (C.out w k HV.out hk0 (by omega)).mono ?_
  rintro e w1 ⟨x, rfl, x0, x1, b1⟩
  have B1 := Lib.hid b1
  clear b1
  go_wp2_with fail
  refine (C.out w1 (k + 1) (HV.out.below B1.out) (by omega) (by omega)).mono ?_
  rintro e w2 ⟨y, rfl, y0, y1, b2⟩
  have B2 := Lib.hid (B1.out.trans b2)
  clear b2
  have t0 := Int.emod_nonneg (256 * x + y) (b := m) (by omega)
  have t1 := Int.emod_lt_of_pos (256 * x + y) (b := m) (by omega)
  go_wp2_with fail
  go_ret
  exact ⟨_, rfl, t0, by omega, B2.out⟩
theorem r8Abs_any (x : Int) (w : World) (h1 : -1000000000000 ≤ x) (h2 : x ≤ 1000000000000) :
    Calls Tryd.prog 27 #[.int .i64 x] w fun e w' => e = .returned (.int .i64 (Ar.ab x)) ∧ w = w' := by
  have ha : Hid (Ar.ab x = max x (-x)) := Lib.hid (by unfold Ar.ab; split <;> omega)
  go_enter Tryd.func27, Tryd.ntmps27
  go_wp2
  go_ret
  exact ⟨ret_int (by rw [ha.out]), rfl⟩
theorem five_sl (w : World) (a b c d e : Int) :
    Hid (∀ t, Sl (w.alloc (.cells #[.int .i64 a, .int .i64 b, .int .i64 c, .int .i64 d, .int .i64 e] t)) (.slice (some ⟨w.heap.size, 0, none⟩) 5 5) [a, b, c, d, e]) := by
  refine Lib.hid (fun t => Or.inr ⟨w.heap.size, 0, 5, rfl, by simp, fun j x hx => ?_⟩)
  match j, hx with
  | 0, hx => simp at hx; subst hx; simp
  | 1, hx => simp at hx; subst hx; simp
  | 2, hx => simp at hx; subst hx; simp
  | 3, hx => simp at hx; subst hx; simp
  | 4, hx => simp at hx; subst hx; simp
  | j + 5, hx => simp at hx
theorem ltext_size {zs : List Int} (h : fitB zs = true) : (ltext zs).length ≤ 1344 := by
  unfold ltext
  rw [if_pos h]
  have h1 := fit_len h
  have h2 := pre_len (fit_bd h) zs.length (Nat.le_refl _)
  unfold lt
  split
  · simp
  · omega
end Go.Proofs.YtoopjefalkdpkaaDoor
