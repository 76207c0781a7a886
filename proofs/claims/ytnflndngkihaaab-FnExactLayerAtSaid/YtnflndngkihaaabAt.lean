/-
  LayerAt of chapter 3, by the program and by the model. No condition of its own.
-/
import Derived.Test.YtnflndngkihaaabLoad
import Derived.Deep.RegionWith
namespace Go.Proofs.Ytnflndngkihaaab
open Go.RowKit Go.Shelf
set_option linter.unusedVariables false

theorem grown_set {w W0 w1 : World} {c : Nat} (h0 : Below w.heap.size w W0) (h1 : Below W0.heap.size W0 w1) (v : Value) : w.grownBy (w1.setCell ⟨c, 0, none⟩ v) (some c) :=
  ⟨h1.os.trans h0.os, h1.tape.trans h0.tape, h1.output.trans h0.output, by have := h0.size; have := h1.size; simp; omega, fun i hi hne =>
    (Below.heap_setCell w1 ⟨c, 0, none⟩ v i (fun e => hne (by rw [e]))).trans ((h1.block i (Nat.lt_of_lt_of_le hi h0.size)).trans (h0.block i hi))⟩
/-- how one step up a profile ends: the height that is left lies in block c -/
def Ends (w : World) (c : Nat) (z : Int) (b : Bool) (e : Ending) (w' : World) : Prop := e = .returned (.bool b) ∧ w'.heap[c]? = some (.cells #[.int .i64 z] 60 (0, 0)) ∧ w.grownBy w' (some c)
set_option maxHeartbeats 3200000 in
theorem endsIn_any (x : Lay) (w : World) (c : Nat) (z : Int) (hc : w.heap[c]? = some (.cells #[.int .i64 z] 60 (0, 0))) (hf : La.Fits x) (z1 : -10000000000 ≤ z) (z2 : z ≤ 10000000000) :
    Calls Try.prog 55 #[.pointer (some ⟨c, 0, none⟩), .agg #[.int .i64 x.fo, .int .i64 x.ic, .int .i64 x.wa, .int .i64 x.de, .int .i64 x.dg, .int .i64 x.ha, .int .i64 x.ag]] w (Ends w c (z - La.thick x) (decide (z - La.thick x < 0))) := by
  obtain ⟨t1, t2⟩ := La.thick_bd hf
  have C := fun W => Lib.hid (thickness_any x W hf)
  have hlt : c < w.heap.size := by
    rcases Nat.lt_or_ge c w.heap.size with h | h
    · exact h
    · rw [Array.getElem?_eq_none h] at hc; cases hc
  have hB := boxed_below w x 32
  have hc0 : (boxed w x 32).heap[c]? = some (.cells #[.int .i64 z] 60 (0, 0)) := (hB.block c hlt).trans hc
  have c0 : (boxed w x 32).cell? ⟨c, 0, none⟩ = some (.int .i64 z) := cell_of_row _ c 0 _ _ _ hc0
  have f0 := frozen_of_row _ c 0 _ _ hc0
  have hlt0 : c < (boxed w x 32).heap.size := by rw [boxed_size]; omega
  obtain ⟨d0, d1, d2, d3, d4, d5, d6⟩ := (boxed_cells w x 32).zero
  have hne : w.heap.size ≠ c := by omega
  have HC := Lib.hid hc0
  have HBB := Lib.hid hB
  have hw : IntKind.i64.wrap (z - La.thick x) = z - La.thick x := IntWalk.i64_in _ (by omega)
  clear hf hc hB hc0
  go_enter Try.func55, Try.ntmps55
  go_wp2_with fail
  have hbx : boxed w x 32 = w.alloc (.cells #[.int .i64 x.fo, .int .i64 x.ic, .int .i64 x.wa, .int .i64 x.de, .int .i64 x.dg, .int .i64 x.ha, .int .i64 x.ag] 32) := rfl
  rw [← hbx]
  clear hbx
  generalize boxed w x 32 = W0 at *
  go_region_with (refine (C _).out.mono ?_; rintro e w1 ⟨rfl, b1⟩; have e1 := (b1.cell (p := ⟨c, 0, none⟩) (by first | assumption | simpa using hlt0)).trans (by first | exact c0 | simpa using c0); have e2 := (b1.frozen (p := ⟨c, 0, none⟩) (by first | assumption | simpa using hlt0)).trans (by first | exact f0 | simpa using f0))
  all_goals
    have b2 : Below W0.heap.size W0 w1 := drew_below b1
    have hE := Lib.hid ((b2.block c hlt0).trans HC.out)
    have hB2 := Lib.hid b2
    clear b1 b2 d0 d1 d2 d3 d4 d5 d6
    go_wp2
    go_ret
    exact ⟨rfl, heap_setCell_same _ c 0 _ _ _ hE.out, grown_set HBB.out hB2.out _⟩
set_option maxHeartbeats 2000000 in
theorem indexFuncM_any (g : Nat) (pv : Value) (eg : ∀ args w, (callFunc g args).run Try.prog w = .ok (.enter g args) w) (I : Nat → World → Prop) (q : Nat → Bool) (w : World) (v : Value) (xs : List Lay) (hl : xs.length ≤ 1048576) (h0 : I 0 w) (hv0 : LSl w v xs)
    (hv : ∀ k W, I k W → LSl W v xs)
    (hc : ∀ k (hk : k < xs.length) W, I k W → Calls Try.prog g #[pv, .agg #[.int .i64 xs[k].fo, .int .i64 xs[k].ic, .int .i64 xs[k].wa, .int .i64 xs[k].de, .int .i64 xs[k].dg, .int .i64 xs[k].ha, .int .i64 xs[k].ag]] W fun e w' => e = .returned (.bool (q k)) ∧ I (k + 1) w') :
    Calls Try.prog 54 #[v, .func (.func g) #[pv] #[]] w (Found q xs.length I) := by
  obtain ⟨a, cap, rfl⟩ := hv0.form
  have HV := Lib.hid hv
  have HC := Lib.hid hc
  have H0 := Lib.hid h0
  clear hv hc h0 hv0
  go_enter Try.func54, Try.ntmps54
  go_wp2
  go_loopw [5, 8] (fun _ s8 wr => ∃ k : Nat, k ≤ xs.length ∧ s8 = .int .i64 k ∧ Hid (I k wr) ∧ Hid (∀ j, j < k → q j = false)) (fun _ s8 _ => xs.length - (intOf s8).toNat)
  case atStart => exact ⟨0, Nat.zero_le _, rfl, H0, Lib.hid (fun j hj => absurd hj (Nat.not_lt_zero _))⟩
  case round =>
    obtain ⟨k, hk, rfl, hI, hp⟩ := hrel
    by_cases hlt : k < xs.length
    · have hltz : (k : Int) < (xs.length : Int) := by omega
      obtain ⟨b, off, cap1, hn, hbl, hcc⟩ := (HV.out k wr hI.out).at_ hlt
      simp only [Value.slice.injEq] at hn
      obtain ⟨rfl, -, rfl⟩ := hn
      obtain ⟨c0, c1, c2, c3, c4, c5, c6⟩ := hcc k hlt
      have C := Lib.hid (HC.out k hlt wr hI.out)
      clear hcc
      cases hq : q k with
      | true =>
        have Q := Lib.hid hq
        rw [hq] at C
        clear hq
        go_wp2_with (go_at_fn g; refine C.out.mono ?_; rintro e w' ⟨rfl, hI'⟩)
        go_ret
        exact Or.inl ⟨k, hlt, Q.out, hp.out, rfl, hI'⟩
      | false =>
        have Q : Hid (∀ j, j < k + 1 → q j = false) := Lib.hid (fun j hj => by
          by_cases e : j = k
          · rw [e]; exact hq
          · exact hp.out j (by omega))
        rw [hq] at C
        clear hq
        go_wp2_with (go_at_fn g; refine C.out.mono ?_; rintro e w' ⟨rfl, hI'⟩; have HI := Lib.hid hI'; clear hI')
        exact ⟨⟨k + 1, by omega, by go_num, HI, Q⟩, by simp only [intOf]; omega⟩
    · have hltz : ¬ (k : Int) < (xs.length : Int) := by omega
      have hkn : k = xs.length := by omega
      have HP : Hid (∀ j, j < xs.length → q j = false) := Lib.hid (by rw [← hkn]; exact hp.out)
      have HI : Hid (I xs.length wr) := Lib.hid (by rw [← hkn]; exact hI.out)
      clear hkn hp hI
      go_wp2
      go_ret
      exact Or.inr ⟨HP.out, rfl, HI.out⟩
theorem lat_of : ∀ (xs : List Lay) (h : Int) (k : Nat), k < xs.length → h < La.sm La.thick (xs.take (k + 1)) → (∀ j, j < k → ¬ h < La.sm La.thick (xs.take (j + 1))) → La.lat xs h = k
  | [], _, _, hk, _, _ => by cases hk
  | x :: xs, h, 0, hk, h1, h2 => by
    rw [List.take_succ_cons, List.take_zero, La.sm_cons, La.sm_nil] at h1
    rw [La.lat, if_pos (by omega)]
  | x :: xs, h, k + 1, hk, h1, h2 => by
    have h0 := h2 0 (by omega)
    rw [List.take_succ_cons, List.take_zero, La.sm_cons, La.sm_nil] at h0
    rw [List.take_succ_cons, La.sm_cons] at h1
    rw [La.lat, if_neg (by omega), lat_of xs (h - La.thick x) k (by simpa using hk) (by omega) (fun j hj => by
      have := h2 (j + 1) (by omega)
      rw [List.take_succ_cons, La.sm_cons] at this; omega)]
/-- where a height lies, and the code -/
def latV (xs : List Lay) (h : Int) : Int := if La.okP xs && Ar.inB 0 h (La.sm La.thick xs - 1) then (La.lat xs h : Int) else 0
def latC (xs : List Lay) (h : Int) : Int := if La.okP xs then (if Ar.inB 0 h (La.sm La.thick xs - 1) then 0 else 2) else 1
theorem lat_0 {xs : List Lay} {h : Int} (a : La.okP xs = true) (b : Ar.inB 0 h (La.sm La.thick xs - 1) = true) : latV xs h = La.lat xs h ∧ latC xs h = 0 := by unfold latV latC; rw [a, b]; exact ⟨rfl, rfl⟩
theorem lat_1 {xs : List Lay} {h : Int} (a : La.okP xs = false) : latV xs h = 0 ∧ latC xs h = 1 := by unfold latV latC; rw [a]; exact ⟨rfl, rfl⟩
theorem lat_2 {xs : List Lay} {h : Int} (a : La.okP xs = true) (b : Ar.inB 0 h (La.sm La.thick xs - 1) = false) : latV xs h = 0 ∧ latC xs h = 2 := by unfold latV latC; rw [a, b]; exact ⟨rfl, rfl⟩
theorem thick_sum {xs : List Lay} (h : ∀ x ∈ xs, La.Fits x) : 0 ≤ La.sm La.thick xs ∧ La.sm La.thick xs ≤ 1000001 * xs.length := La.sm_bd (fun x hx => La.thick_bd (h x hx))
set_option maxHeartbeats 3200000 in
theorem specLayerAt_any (w : World) (v : Value) (xs : List Lay) (h : Int) (hv : LSl w v xs) (hl : xs.length ≤ 1048576) :
    Calls Try.prog 25 #[v, .int .i64 h] w fun e w' => e = .returned (.tuple #[.int .i64 (latV xs h), .int .i64 (latC xs h)]) ∧ Below w.heap.size w w' := by
  have C1 := Lib.hid (l03Ok_any w v xs hv hl)
  cases hq : La.okP xs with
  | true =>
    obtain ⟨h16, hfit⟩ := (La.okP_iff xs).1 hq
    obtain ⟨t1, t2⟩ := thick_sum hfit
    have t3 : La.sm La.thick xs ≤ 100000000 := by omega
    clear t2
    have C2 := Lib.hid (l03Height_any w v xs hq hv)
    have C3 := fun W => Lib.hid (l00In_any h 0 (La.sm La.thick xs - 1) W)
    rw [hq] at C1
    obtain ⟨a, cap, rfl⟩ := hv.form
    cases hi : Ar.inB 0 h (La.sm La.thick xs - 1) with
    | true =>
      have hr := Lib.hid (lat_0 hq hi)
      obtain ⟨i1, i2⟩ := La.inB_iff.1 hi
      have HV := Lib.hid hv
      have HF := Lib.hid hfit
      have HT := Lib.hid (rfl : La.sm La.thick xs = La.sm La.thick xs)
      rw [hi] at C3
      clear hq hi hv hfit
      generalize hT : La.sm La.thick xs = T at C2 C3 t1 t3 i2
      have HTT := Lib.hid hT
      clear hT HT
      go_enter Try.func25, Try.ntmps25
      go_wp2_with fail
      refine C1.out.mono ?_
      rintro e w1 ⟨rfl, rfl⟩
      go_wp2_with fail
      refine C2.out.mono ?_
      rintro e w1 ⟨rfl, b1⟩
      have B1 := Lib.hid b1
      clear b1
      go_wp2_with fail
      refine (C3 _).out.mono ?_
      rintro e w2 ⟨rfl, rfl⟩
      go_wp2_with fail
      go_loopw [1, 6] (fun hh i wr => ∃ (k : Nat) (z : Int), k ≤ xs.length ∧ i = .int .i64 k ∧ hh = .int .i64 z ∧ 0 ≤ z ∧ z ≤ 100000000 ∧ Hid (z < La.sm La.thick (xs.drop k)) ∧ Hid (La.lat xs h = La.lat (xs.drop k) z + k) ∧ (∃ n, wr = w1.drewN n)) (fun _ i _ => xs.length - (intOf i).toNat)
      case atStart => exact ⟨0, h, Nat.zero_le _, rfl, rfl, by omega, by omega, Lib.hid (by rw [List.drop_zero, HTT.out]; omega), Lib.hid (by simp), 0, rfl⟩
      case round =>
        obtain ⟨k, z, hk, rfl, rfl, z1, z2, hz, hlat, n, rfl⟩ := hrel
        have hlt : k < xs.length := by
          rcases Nat.lt_or_ge k xs.length with h' | h'
          · exact h'
          · have := hz.out
            rw [List.drop_eq_nil_of_le h', La.sm_nil] at this; omega
        obtain ⟨b, off, cap1, hn, hbl, hcc⟩ := ((HV.out.below B1.out).drewN n).at_ hlt
        simp only [Value.slice.injEq] at hn
        obtain ⟨rfl, -, rfl⟩ := hn
        have LC := Lib.hid (hcc k hlt)
        have C := fun m => Lib.hid (l03Thick_any xs[k] b (off + k * 7) (w1.drewN (n + m)) (by rw [← World.drewN_drewN]; exact LC.out.drewN m) (HF.out _ (List.getElem_mem hlt)))
        have C' := Lib.hid (l03Thick_any xs[k] b (off + k * 7) (w1.drewN n) LC.out (HF.out _ (List.getElem_mem hlt)))
        obtain ⟨f1, f2⟩ := La.thick_bd (HF.out _ (List.getElem_mem hlt))
        clear hcc
        by_cases hh : z < La.thick xs[k]
        · have hres : Hid (latV xs h = k ∧ latC xs h = 0) := Lib.hid ⟨by rw [hr.out.1, hlat.out, La.lat_hit hlt hh]; simp, hr.out.2⟩
          clear hlat hz
          generalize La.thick xs[k] = y at *
          go_wp2_with fail
          refine C'.out.mono ?_
          rintro e w2 ⟨rfl, n1, rfl⟩
          go_wp2_with fail
          go_ret2
          exact ⟨ret_ii hres.out.1.symm hres.out.2.symm, bt B1.out (below_drewW _ _)⟩
        · have hz' : Hid (z - La.thick xs[k] < La.sm La.thick (xs.drop (k + 1))) := Lib.hid (by have := hz.out; rw [La.sm_drop _ hlt] at this; omega)
          have hlat' : Hid (La.lat xs h = La.lat (xs.drop (k + 1)) (z - La.thick xs[k]) + (k + 1 : Nat)) := Lib.hid (by rw [hlat.out, La.lat_miss hlt hh]; omega)
          clear hlat hz
          generalize La.thick xs[k] = y at *
          go_wp2_with fail
          refine C'.out.mono ?_
          rintro e w2 ⟨rfl, n1, rfl⟩
          go_wp2_with fail
          refine (C n1).out.mono ?_
          rintro e w2 ⟨rfl, n2, rfl⟩
          go_wp2_with fail
          exact ⟨⟨k + 1, z - y, by omega, by go_num, rfl, by omega, by omega, hz', hlat', _, rfl⟩, by simp only [intOf]; omega⟩
    | false =>
      have hr := Lib.hid (lat_2 hq hi)
      rw [hi] at C3
      clear hq hi hv hfit
      generalize La.sm La.thick xs = T at C2 C3 t1 t3
      go_enter Try.func25, Try.ntmps25
      go_wp2_with fail
      refine C1.out.mono ?_
      rintro e w1 ⟨rfl, rfl⟩
      go_wp2_with fail
      refine C2.out.mono ?_
      rintro e w1 ⟨rfl, b1⟩
      have B1 := Lib.hid b1
      clear b1
      go_wp2_with fail
      refine (C3 _).out.mono ?_
      rintro e w2 ⟨rfl, rfl⟩
      go_wp2_with fail
      go_ret2
      exact ⟨ret_ii hr.out.1.symm hr.out.2.symm, B1.out⟩
  | false =>
    have hr := Lib.hid (lat_1 (h := h) hq)
    rw [hq] at C1
    clear hq hv
    go_enter Try.func25, Try.ntmps25
    go_wp2_with fail
    refine C1.out.mono ?_
    rintro e w1 ⟨rfl, rfl⟩
    go_wp2_with fail
    go_ret2
    exact ⟨ret_ii hr.out.1.symm hr.out.2.symm, Below.refl _ _⟩
set_option maxHeartbeats 3200000 in
theorem implLayerAt_any (w : World) (v : Value) (xs : List Lay) (h : Int) (hv : LSl w v xs) (hl : xs.length ≤ 1048576) :
    Calls Try.prog 26 #[v, .int .i64 h] w fun e w' => e = .returned (.tuple #[.int .i64 (latV xs h), .int .i64 (latC xs h)]) ∧ Below w.heap.size w w' := by
  have C1 := Lib.hid (implHeightOf_any w v xs hv hl)
  cases hq : La.okP xs with
  | true =>
    obtain ⟨h16, hfit⟩ := (La.okP_iff xs).1 hq
    obtain ⟨t1, t2⟩ := thick_sum hfit
    have t3 : La.sm La.thick xs ≤ 100000000 := by omega
    clear t2
    have C3 := fun W => Lib.hid (within_any h 0 (La.sm La.thick xs - 1) W)
    rw [hq, rv_t, rc_t] at C1
    cases hi : Ar.inB 0 h (La.sm La.thick xs - 1) with
    | true =>
      have hr := Lib.hid (lat_0 hq hi)
      obtain ⟨i1, i2⟩ := La.inB_iff.1 hi
      have I : Hid (∀ (W : World) (c : Nat), Below w.heap.size w W → w.heap.size ≤ c → W.heap[c]? = some (.cells #[.int .i64 h] 60 (0, 0)) →
          Calls Try.prog 54 #[v, .func (.func 55) #[.pointer (some ⟨c, 0, none⟩)] #[]] W fun e w' => e = .returned (.int .i64 (latV xs h)) ∧ Below w.heap.size w w') := Lib.hid (fun W c hW hcw hc => by
        refine (indexFuncM_any 55 (.pointer (some ⟨c, 0, none⟩)) (enters_of Try.func55 (by kernel_rfl) rfl)
          (fun k W' => Below w.heap.size w W' ∧ W'.heap[c]? = some (.cells #[.int .i64 (h - La.sm La.thick (xs.take k))] 60 (0, 0)))
          (fun k => decide (h - La.sm La.thick (xs.take (k + 1)) < 0)) W v xs hl ⟨hW, by rw [List.take_zero, La.sm_nil, Int.sub_zero]; exact hc⟩ (hv.below hW) (fun k W' hk => hv.below hk.1) (fun k hk W' hI => ?_)).mono ?_
        · have hs := La.sm_snoc La.thick hk
          obtain ⟨q1, q2⟩ := thick_sum (xs := xs.take k) (fun x hx => hfit x (La.mem_take hx))
          have hlen : (xs.take k).length ≤ 16 := by rw [List.length_take]; omega
          refine (endsIn_any xs[k] W' c _ hI.2 (hfit _ (List.getElem_mem hk)) (by omega) (by omega)).mono ?_
          rintro e w' ⟨he, hcc, hg⟩
          have e1 : h - La.sm La.thick (xs.take k) - La.thick xs[k] = h - La.sm La.thick (xs.take (k + 1)) := by rw [hs]; omega
          rw [e1] at he hcc
          exact ⟨he, hI.1.grown hg hI.1.size (fun i hi => by cases hi; exact hcw), hcc⟩
        · rintro e w' (⟨k, hk, hq1, hq2, rfl, hI, -⟩ | ⟨hq2, rfl, hI, -⟩)
          · refine ⟨?_, hI⟩
            rw [hr.out.1, lat_of xs h k hk (by have := of_decide_eq_true hq1; omega) (fun j hj => by have := of_decide_eq_false (hq2 j hj); omega)]
          · exfalso
            rcases Nat.eq_zero_or_pos xs.length with h0 | h0
            · have := List.eq_nil_of_length_eq_zero h0
              rw [this, La.sm_nil] at i2; omega
            · have := of_decide_eq_false (hq2 (xs.length - 1) (by omega))
              rw [show xs.length - 1 + 1 = xs.length by omega, List.take_length] at this
              omega)
      rw [hi] at C3
      clear hq hi hv hfit
      have hcode := Lib.hid hr.out.2
      clear hr
      generalize La.sm La.thick xs = T at C1 C3 t1 t3 i2
      generalize latV xs h = V at *
      go_enter Try.func26, Try.ntmps26
      go_wp2_with fail
      refine C1.out.mono ?_
      rintro e w1 ⟨rfl, b1⟩
      have B1 := Lib.hid b1
      clear b1
      go_wp2_with fail
      refine (C3 _).out.mono ?_
      rintro e w2 ⟨rfl, rfl⟩
      go_wp2_with fail
      refine (I.out _ w1.heap.size (B1.out.alloc B1.out.size _) B1.out.size (heap_alloc_new _ _)).mono ?_
      rintro e w3 ⟨rfl, b3⟩
      have B3 := Lib.hid b3
      clear b3
      go_wp2_with fail
      go_ret2
      exact ⟨ret_ii rfl hcode.out.symm, B3.out⟩
    | false =>
      have hr := Lib.hid (lat_2 hq hi)
      rw [hi] at C3
      clear hq hi hv hfit
      generalize La.sm La.thick xs = T at C1 C3 t1 t3
      go_enter Try.func26, Try.ntmps26
      go_wp2_with fail
      refine C1.out.mono ?_
      rintro e w1 ⟨rfl, b1⟩
      have B1 := Lib.hid b1
      clear b1
      go_wp2_with fail
      refine (C3 _).out.mono ?_
      rintro e w2 ⟨rfl, rfl⟩
      go_wp2_with fail
      go_ret2
      exact ⟨ret_ii hr.out.1.symm hr.out.2.symm, B1.out⟩
  | false =>
    have hr := Lib.hid (lat_1 (h := h) hq)
    rw [hq, rv_f, rc_f] at C1
    clear hq hv
    go_enter Try.func26, Try.ntmps26
    go_wp2_with fail
    refine C1.out.mono ?_
    rintro e w1 ⟨rfl, b1⟩
    have B1 := Lib.hid b1
    clear b1
    go_wp2_with fail
    go_ret2
    exact ⟨ret_ii hr.out.1.symm hr.out.2.symm, B1.out⟩
end Go.Proofs.Ytnflndngkihaaab
