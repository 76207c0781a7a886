/-
  slices.IndexFunc and slices.ContainsFunc at layers, at a function value that may lay blocks and change what it captured; and when profiles are valid, by the program and by the model. No condition of its own.
-/
import Derived.Test.YtaldmdammipfjaaDoorLayers
import Derived.StillTailTactics
import Derived.Shelf.Abstract
namespace Go.Proofs.YtaldmdammipfjaaDoor
open Go.RowKit Go.Shelf
set_option linter.unusedVariables false
set_option maxRecDepth 100000

set_option maxHeartbeats 1600000 in
theorem eqLayerS_any (w : World) (v u : Value) (xs ys : List Lay) (hv : LSl w v xs) (hu : LSl w u ys) (hl : xs.length ≤ 1048576) (hl2 : ys.length ≤ 1048576) :
    Calls Tryd.prog 37 #[v, u] w fun e w' => e = .returned (.bool (La.eqP xs ys)) ∧ Below w.heap.size w w' := by
  obtain ⟨a, cap, rfl⟩ := hv.form
  obtain ⟨a', cap', rfl⟩ := hu.form
  by_cases hlen : xs.length = ys.length
  · have hll : ((xs.length : Int) != (ys.length : Int)) = false := by simp; omega
    have hle : xs.length ≤ ys.length := by omega
    have HL := Lib.hid hlen
    have HV := Lib.hid hv
    have HU := Lib.hid hu
    clear hlen hv hu
    go_enter Tryd.func37, Tryd.ntmps37
    go_wp2
    go_loopw [5] (fun i wr => ∃ k : Nat, k ≤ xs.length ∧ i = .int .i64 k ∧ Hid (Below w.heap.size w wr) ∧ Hid (xs.take k = ys.take k)) (fun i _ => xs.length - (intOf i).toNat)
    case atStart => exact ⟨0, Nat.zero_le _, rfl, Lib.hid (Below.refl _ _), Lib.hid rfl⟩
    case round =>
      obtain ⟨k, hk, rfl, hb, hp⟩ := hrel
      by_cases hlt : k < xs.length
      · have hlt3 : k < ys.length := by omega
        obtain ⟨b, off, cap1, hn, hbl, hc⟩ := HV.out.at_ hlt
        simp only [Value.slice.injEq] at hn
        obtain ⟨rfl, -, rfl⟩ := hn
        obtain ⟨c0, c1, c2, c3, c4, c5, c6⟩ := (hc k hlt).below hb.out hbl
        obtain ⟨b', off', cap1', hn', hbl', hc'⟩ := HU.out.at_ hlt3
        simp only [Value.slice.injEq] at hn'
        obtain ⟨rfl, -, rfl⟩ := hn'
        obtain ⟨d0, d1, d2, d3, d4, d5, d6⟩ := (hc' k hlt3).below hb.out hbl'
        clear hc hc'
        have C := fun W => (Lib.hid (eqLayer_any xs[k] ys[k] W))
        cases hq : La.eqL xs[k] ys[k] with
        | true =>
          have hn := Lib.hid (La.take_eqL hlt hlt3 hp.out hq)
          rw [hq] at C
          clear hq
          go_wp2_with fail
          go_still_tail 8, (by kernel_rfl)
          go_wp2_with fail
          refine (C _).out.mono ?_
          rintro e w2 ⟨rfl, b2⟩
          have hb2 := Lib.hid (hb.out.trans ((drew_below b2).mono hb.out.size))
          clear b2 hb c0 c1 c2 c3 c4 c5 c6 d0 d1 d2 d3 d4 d5 d6
          go_wp2_with fail
          exact ⟨⟨k + 1, by omega, by go_num, hb2, hn⟩, by simp only [intOf]; omega⟩
        | false =>
          have hn := Lib.hid (La.eqP_at hlt hlt3 hq)
          rw [hq] at C
          clear hq
          go_wp2_with fail
          go_still_tail 8, (by kernel_rfl)
          go_wp2_with fail
          refine (C _).out.mono ?_
          rintro e w2 ⟨rfl, b2⟩
          have hb2 := Lib.hid (hb.out.trans ((drew_below b2).mono hb.out.size))
          clear b2 hb c0 c1 c2 c3 c4 c5 c6 d0 d1 d2 d3 d4 d5 d6
          go_wp2_with fail
          go_ret
          exact ⟨ret_bool hn.out.symm, hb2.out⟩
      · have hkz : k = xs.length := by omega
        have hn : Hid (La.eqP xs ys = true) := Lib.hid (La.eqP_take HL.out (by rw [← hkz]; exact hp.out))
        clear hkz
        go_wp2
        go_ret
        exact ⟨ret_bool hn.out.symm, hb.out⟩
  · have hll : ((xs.length : Int) != (ys.length : Int)) = true := by rw [bne_iff_ne]; omega
    have hn := Lib.hid (La.eqP_len hlen)
    clear hlen hv hu
    go_enter Tryd.func37, Tryd.ntmps37
    go_wp2
    go_ret
    exact ⟨ret_bool hn.out.symm, Below.refl _ _⟩
set_option maxHeartbeats 1600000 in
theorem l03Ok_any (w : World) (v : Value) (xs : List Lay) (hv : LSl w v xs) (hl : xs.length ≤ 1048576) :
    Calls Tryd.prog 100 #[v] w fun e w' => e = .returned (.bool (La.okP xs)) ∧ w = w' := by
  obtain ⟨a, cap, rfl⟩ := hv.form
  have HV := Lib.hid hv
  clear hv
  go_enter Tryd.func100, Tryd.ntmps100
  go_wp2
  go_loop [3] (fun i => ∃ k : Nat, k ≤ xs.length ∧ i = .int .i64 k ∧ Hid ((xs.take k).all La.okL = true)) (fun i => xs.length - (intOf i).toNat)
  case atStart => exact ⟨0, Nat.zero_le _, rfl, Lib.hid rfl⟩
  case round =>
    obtain ⟨k, hk, rfl, hp⟩ := hrel
    by_cases hlt : k < xs.length
    · obtain ⟨b, off, cap1, hn, hbl, hc⟩ := HV.out.at_ hlt
      simp only [Value.slice.injEq] at hn
      obtain ⟨rfl, -, rfl⟩ := hn
      have C := Lib.hid (l03One_any xs[k] b (off + k * 7) w (hc k hlt))
      clear hc
      cases hq : La.okL xs[k] with
      | true =>
        have hn := Lib.hid (La.all_snoc hlt hp.out hq)
        rw [hq] at C
        clear hq
        go_wp2_with fail
        refine C.out.mono ?_
        rintro e w2 ⟨rfl, rfl⟩
        go_wp2_with fail
        exact ⟨⟨k + 1, by omega, by go_num, hn⟩, by simp only [intOf]; omega⟩
      | false =>
        have hn := Lib.hid (La.okP_bad hlt hq)
        rw [hq] at C
        clear hq
        go_wp2_with fail
        refine C.out.mono ?_
        rintro e w2 ⟨rfl, rfl⟩
        go_wp2_with fail
        go_ret
        exact ⟨ret_bool hn.out.symm, rfl⟩
    · have hkz : k = xs.length := by omega
      have hn : Hid (La.okP xs = decide (xs.length ≤ 16)) := Lib.hid (La.okP_all (by rw [← hkz]; exact hp.out))
      clear hkz
      by_cases h16 : xs.length ≤ 16
      · have hd : Hid (La.okP xs = true) := Lib.hid (by rw [hn.out]; exact decide_eq_true h16)
        go_wp2
        go_ret
        exact ⟨ret_bool (by rw [hd.out]; exact decide_eq_true (by omega)), rfl⟩
      · have hd : Hid (La.okP xs = false) := Lib.hid (by rw [hn.out]; exact decide_eq_false h16)
        go_wp2
        go_ret
        exact ⟨ret_bool (by rw [hd.out]; exact decide_eq_false (by omega)), rfl⟩

/-- how a search for the first element of which q holds ends; I k: what holds of the world when k elements have been asked -/
def Found (q : Nat → Bool) (n : Nat) (I : Nat → World → Prop) (e : Ending) (w' : World) : Prop :=
  (∃ k, k < n ∧ q k = true ∧ (∀ j, j < k → q j = false) ∧ e = .returned (.int .i64 (k : Int)) ∧ I (k + 1) w') ∨ ((∀ j, j < n → q j = false) ∧ e = .returned (.int .i64 (-1)) ∧ I n w')
set_option maxHeartbeats 2000000 in
theorem indexFunc_any (g : Nat) (lb : Array Value) (eg : ∀ args w, (callFunc g args).run Tryd.prog w = .ok (.enter g args) w) (I : Nat → World → Prop) (q : Nat → Bool) (w : World) (v : Value) (xs : List Lay) (hl : xs.length ≤ 1048576) (h0 : I 0 w) (hv0 : LSl w v xs)
    (hv : ∀ k W, I k W → LSl W v xs)
    (hc : ∀ k (hk : k < xs.length) W, I k W → Calls Tryd.prog g (#[.agg #[.int .i64 xs[k].fo, .int .i64 xs[k].ic, .int .i64 xs[k].wa, .int .i64 xs[k].de, .int .i64 xs[k].dg, .int .i64 xs[k].ha, .int .i64 xs[k].ag]] ++ lb) W fun e w' => e = .returned (.bool (q k)) ∧ I (k + 1) w') :
    Calls Tryd.prog 168 #[v, .func (.func g) #[] lb] w (Found q xs.length I) := by
  obtain ⟨a, cap, rfl⟩ := hv0.form
  have HV := Lib.hid hv
  have HC := Lib.hid hc
  have H0 := Lib.hid h0
  clear hv hc h0 hv0
  go_enter Tryd.func168, Tryd.ntmps168
  go_wp2
  go_loopw [5, 8] (fun _ s8 wr => ∃ k : Nat, k ≤ xs.length ∧ s8 = .int .i64 k ∧ Hid (I k wr) ∧ Hid (∀ j, j < k → q j = false)) (fun _ s8 _ => xs.length - (intOf s8).toNat)
  case atStart => exact ⟨0, Nat.zero_le _, rfl, H0, Lib.hid (fun j hj => absurd hj (Nat.not_lt_zero _))⟩
  case round =>
    obtain ⟨k, hk, rfl, hI, hp⟩ := hrel
    by_cases hlt : k < xs.length
    · have hltz : (k : Int) < (xs.length : Int) := by omega
      obtain ⟨b, off, cap1, hn, hbl, hcc⟩ := (HV.out k wr hI.out).at_ hlt
      simp only [Value.slice.injEq] at hn
      obtain ⟨rfl, -, rfl⟩ := hn
      obtain ⟨c0, c1, c2, c3, c4, c5, c6⟩ := hcc k hlt
      have C := Lib.hid (HC.out k hlt wr hI.out)
      clear hcc
      cases hq : q k with
      | true =>
        have Q := Lib.hid hq
        rw [hq] at C
        clear hq
        go_wp2_with (go_at_fn g; refine C.out.mono ?_; rintro e w' ⟨rfl, hI'⟩)
        go_ret
        exact Or.inl ⟨k, hlt, Q.out, hp.out, rfl, hI'⟩
      | false =>
        have Q : Hid (∀ j, j < k + 1 → q j = false) := Lib.hid (fun j hj => by
          by_cases e : j = k
          · rw [e]; exact hq
          · exact hp.out j (by omega))
        rw [hq] at C
        clear hq
        go_wp2_with (go_at_fn g; refine C.out.mono ?_; rintro e w' ⟨rfl, hI'⟩; have HI := Lib.hid hI'; clear hI')
        exact ⟨⟨k + 1, by omega, by go_num, HI, Q⟩, by simp only [intOf]; omega⟩
    · have hltz : ¬ (k : Int) < (xs.length : Int) := by omega
      have hkn : k = xs.length := by omega
      have HP : Hid (∀ j, j < xs.length → q j = false) := Lib.hid (by rw [← hkn]; exact hp.out)
      have HI : Hid (I xs.length wr) := Lib.hid (by rw [← hkn]; exact hI.out)
      clear hkn hp hI
      go_wp2
      go_ret
      exact Or.inr ⟨HP.out, rfl, HI.out⟩
theorem any_of {p : Lay → Bool} {xs : List Lay} {k : Nat} (hk : k < xs.length) (h : p xs[k] = true) : xs.any p = true := List.any_eq_true.2 ⟨_, List.getElem_mem hk, h⟩
theorem any_no {p : Lay → Bool} {xs : List Lay} (h : ∀ j (hj : j < xs.length), p xs[j] = false) : xs.any p = false := by
  rw [List.any_eq_false]
  intro x hx
  obtain ⟨j, hj, rfl⟩ := List.getElem_of_mem hx
  rw [h j hj]; decide
set_option maxHeartbeats 800000 in
theorem containsFunc_any (g : Nat) (lb : Array Value) (eg : ∀ args w, (callFunc g args).run Tryd.prog w = .ok (.enter g args) w) (p : Lay → Bool) (w : World) (v : Value) (xs : List Lay) (hl : xs.length ≤ 1048576) (hv : LSl w v xs)
    (hc : ∀ x W, Below w.heap.size w W → Calls Tryd.prog g (#[.agg #[.int .i64 x.fo, .int .i64 x.ic, .int .i64 x.wa, .int .i64 x.de, .int .i64 x.dg, .int .i64 x.ha, .int .i64 x.ag]] ++ lb) W fun e w' => e = .returned (.bool (p x)) ∧ Below w.heap.size w w') :
    Calls Tryd.prog 135 #[v, .func (.func g) #[] lb] w fun e w' => e = .returned (.bool (xs.any p)) ∧ Below w.heap.size w w' := by
  have C := Lib.hid (indexFunc_any g lb eg (fun _ W => Below w.heap.size w W) (fun k => if h : k < xs.length then p xs[k] else false) w v xs hl (Below.refl _ _) hv (fun _ W hW => hv.below hW)
    (fun k hk W hW => by simp only [dif_pos hk]; exact hc _ W hW))
  clear hc hv
  go_enter Tryd.func135, Tryd.ntmps135
  go_wp2_with fail
  refine C.out.mono ?_
  rintro e w1 (⟨k, hk, h1, -, rfl, hb⟩ | ⟨h1, rfl, hb⟩)
  · have hq : Hid (xs.any p = true) := Lib.hid (any_of hk (by simpa only [dif_pos hk] using h1))
    have HB := Lib.hid hb
    clear h1 hb
    go_wp2_with fail
    go_ret
    exact ⟨ret_bool (by rw [hq.out]), HB.out⟩
  · have hq : Hid (xs.any p = false) := Lib.hid (any_no (fun j hj => by have := h1 j hj; simpa only [dif_pos hj] using this))
    have HB := Lib.hid hb
    clear h1 hb
    go_wp2_with fail
    go_ret
    exact ⟨ret_bool (by rw [hq.out]), HB.out⟩
theorem not_any (xs : List Lay) : (!xs.any fun x => !La.okL x) = xs.all La.okL := by
  induction xs with
  | nil => rfl
  | cons x xs ih => rw [List.any_cons, List.all_cons, ← ih]; cases La.okL x <;> simp
set_option maxHeartbeats 800000 in
theorem validLit_any (x : Lay) (W0 W : World) (hb : Below W0.heap.size W0 W) :
    Calls Tryd.prog 136 #[.agg #[.int .i64 x.fo, .int .i64 x.ic, .int .i64 x.wa, .int .i64 x.de, .int .i64 x.dg, .int .i64 x.ha, .int .i64 x.ag]] W fun e w' => e = .returned (.bool (!La.okL x)) ∧ Below W0.heap.size W0 w' := by
  have HB := Lib.hid hb
  have C := fun w => Lib.hid (implValidLayer_any x w)
  clear hb
  go_enter Tryd.func136, Tryd.ntmps136
  go_wp2_with fail
  refine (C _).out.mono ?_
  rintro e w1 ⟨rfl, b1⟩
  have B1 : Hid (Below W0.heap.size W0 w1) := Lib.hid ((HB.out.alloc HB.out.size _).trans (b1.mono (by have := HB.out.size; simp; omega)))
  clear b1
  go_wp2_with fail
  go_ret
  exact ⟨rfl, B1.out⟩
set_option maxHeartbeats 800000 in
theorem implValidProfile_any (w : World) (v : Value) (xs : List Lay) (hv : LSl w v xs) (hl : xs.length ≤ 1048576) :
    Calls Tryd.prog 104 #[v] w fun e w' => e = .returned (.bool (La.okP xs)) ∧ Below w.heap.size w w' := by
  obtain ⟨a, cap, rfl⟩ := hv.form
  have C := Lib.hid (containsFunc_any 136 #[] (enters_of Tryd.func136 (by kernel_rfl) rfl) (fun x => !La.okL x) w _ xs hl hv (fun x W hW => validLit_any x w W hW))
  by_cases h16 : xs.length ≤ 16
  · have h : ¬ 16 < xs.length := by omega
    have hn : Hid ((!xs.any fun x => !La.okL x) = La.okP xs) := Lib.hid (by rw [not_any, La.okP_short h16])
    clear hv
    go_enter Tryd.func104, Tryd.ntmps104
    go_wp2_with fail
    refine C.out.mono ?_
    rintro e w1 ⟨rfl, b1⟩
    generalize (xs.any fun x => !La.okL x) = t at *
    have HB := Lib.hid b1
    clear b1
    go_wp2_with fail
    go_ret
    exact ⟨ret_bool hn.out, HB.out⟩
  · have h : 16 < xs.length := by omega
    have hn := Lib.hid (La.okP_long h)
    clear hv
    go_enter Tryd.func104, Tryd.ntmps104
    go_wp2_with fail
    go_ret
    exact ⟨ret_bool hn.out.symm, Below.refl _ _⟩
set_option maxHeartbeats 800000 in
theorem szLayerS_in (w : World) (a : Option Addr) (n cap : Nat) (z : Int) (h : (n : Int) ≤ z) (h2 : z ≤ 1048576) :
    Calls Tryd.prog 33 #[.slice a n cap, .int .i64 z] w fun e w' => e = .returned (.int .i64 (z - n)) ∧ w = w' := by
  have hz : ¬ z - n < 0 := by omega
  go_enter Tryd.func33, Tryd.ntmps33
  go_wp2
  go_ret
  exact ⟨rfl, rfl⟩
set_option maxHeartbeats 800000 in
theorem szLayerS_out (w : World) (a : Option Addr) (n cap : Nat) (z : Int) (hn : n ≤ 9223372036854775807) (h : z < (n : Int)) (h1 : 0 ≤ z) :
    Calls Tryd.prog 33 #[.slice a n cap, .int .i64 z] w fun e w' => e = .returned (.int .i64 (-1)) ∧ w = w' := by
  have hz : z - n < 0 := by omega
  go_enter Tryd.func33, Tryd.ntmps33
  go_wp2
  go_ret
  exact ⟨rfl, rfl⟩
end Go.Proofs.YtaldmdammipfjaaDoor
