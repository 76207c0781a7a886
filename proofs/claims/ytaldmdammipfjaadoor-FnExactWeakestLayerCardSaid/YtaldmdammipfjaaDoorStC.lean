/-
  Chapter 7 by the program, its small parts: strength, stress, index, the least of a row of numbers. Its condition: impl.strengthFactors holds what the program's text lays.
-/
import Derived.Test.YtaldmdammipfjaaDoorStF
import Derived.Test.YtaldmdammipfjaaDoorIntF
import Derived.Lib.LaidTab
import Derived.LaidSub
namespace Go.Proofs.YtaldmdammipfjaaDoor
open Go.RowKit Go.Shelf
set_option linter.unusedVariables false
set_option maxRecDepth 100000

set_option maxHeartbeats 1600000 in
theorem stressUnder_any (l ri ru : Int) (w : World) (hs : Sb.Slo ri ru) (h0 : 0 ≤ l) (h1 : l ≤ 40000000) :
    Calls Tryd.prog 172 #[.agg #[.int .i64 ri, .int .i64 ru], .int .i64 l] w fun e w' => e = .returned (.int .i64 (Sb.st l ri ru)) ∧ Below w.heap.size w w' := by
  obtain ⟨n0, n1, n2, n3, n4, n5⟩ := Sb.num_bd hs h0 h1
  obtain ⟨d0, d1, d2, d3, d4, d5⟩ := Sb.den_bd hs
  have CD := fun W => Lib.hid (nearest_any (Sb.num l ri ru) (100000 * Sb.den ri ru) W (by omega) (by omega) (by omega) (by omega) (by omega))
  rw [show Ar.dr (Sb.num l ri ru) (100000 * Sb.den ri ru) = Sb.st l ri ru from rfl] at CD
  have hn : Sb.num l ri ru = 981 * l * ri * ru := rfl
  have hd : Sb.den ri ru = ri * ri + ru * ru := rfl
  rw [hn] at CD n4 n5
  rw [hd] at CD d4 d5
  have p1 : wrap64 (981 * l * ri) = 981 * l * ri := IntWalk.wrap64_in _ (by omega)
  have p2 : wrap64 (981 * l * ri * ru) = 981 * l * ri * ru := IntWalk.wrap64_in _ (by omega)
  have p3 : wrap64 (ri * ri) = ri * ri := IntWalk.wrap64_in _ (by omega)
  have p4 : wrap64 (ru * ru) = ru * ru := IntWalk.wrap64_in _ (by omega)
  clear hs hn hd
  generalize Sb.st l ri ru = q at *
  go_enter Tryd.func172, Tryd.ntmps172
  go_wp2_with fail
  refine (CD _).out.mono ?_
  rintro e w1 ⟨rfl, rfl⟩
  go_wp2_with fail
  go_ret
  exact ⟨rfl, (Below.refl _ _).alloc (Nat.le_refl _) _⟩
theorem whole_new1 (w : World) (o : Obj) (t : TypeId) (cs : Array Value) : Whole ((w.alloc o).alloc (.cells cs t)) (w.heap.size + 1) t cs := by
  have := Whole.new (w.alloc o) t cs
  rwa [show (w.alloc o).heap.size = w.heap.size + 1 by simp] at this
theorem below_two (w : World) (o o' : Obj) : Below w.heap.size w ((w.alloc o).alloc o') := ((Below.refl _ _).alloc (Nat.le_refl _) o).alloc (by simp) o'
theorem below_put2 {w w1 : World} {b : Nat} (h : Below w.heap.size w w1) (hb : w.heap.size ≤ b) (u v : Value) : Below w.heap.size w ((w1.setCell ⟨b, 0, none⟩ u).setCell ⟨b, 1, none⟩ v) :=
  (h.setCell (p := ⟨b, 0, none⟩) hb u).setCell (p := ⟨b, 1, none⟩) hb v
def factors : List Int := [20, 22, 30, 12, 8, 35]
def FactorsAt (w : World) : Prop := ∀ (i : Nat) (z : Int), factors[i]? = some z → w.cell? ⟨2, i, none⟩ = some (.int .i64 z)
theorem FactorsAt.below {w w1 : World} (h : FactorsAt w) (hb : Below w.heap.size w w1) : FactorsAt w1 := fun i z hz =>
  (hb.cell (p := ⟨2, i, none⟩) (World.block_lt_of_cell? w _ (h i z hz))).trans (h i z hz)
theorem FactorsAt.all {w : World} (h : FactorsAt w) {x : Lay} (hf : La.Fits x) : ∃ j : Nat, x.fo = (j : Int) + 1 ∧ j < 6 ∧ w.cell? ⟨2, j, none⟩ = some (.int .i64 (Sb.fac x.fo)) := by
  rcases Sb.form_cases hf with e | e | e | e | e | e <;> rw [e]
  · exact ⟨0, rfl, by omega, h 0 _ rfl⟩
  · exact ⟨1, rfl, by omega, h 1 _ rfl⟩
  · exact ⟨2, rfl, by omega, h 2 _ rfl⟩
  · exact ⟨3, rfl, by omega, h 3 _ rfl⟩
  · exact ⟨4, rfl, by omega, h 4 _ rfl⟩
  · exact ⟨5, rfl, by omega, h 5 _ rfl⟩
set_option maxHeartbeats 3200000 in
theorem strength_any (x : Lay) (d : Int) (w : World) (hf : La.Fits x) (h0 : 0 ≤ d) (h1 : d ≤ 1000) (hw : FactorsAt w) :
    Calls Tryd.prog 140 #[.agg #[.int .i64 x.fo, .int .i64 x.ic, .int .i64 x.wa, .int .i64 x.de, .int .i64 x.dg, .int .i64 x.ha, .int .i64 x.ag], .int .i64 d] w fun e w' => e = .returned (.agg #[.int .i64 (Sb.lo x d), .int .i64 (Sb.hi x d)]) ∧ Below w.heap.size w w' := by
  obtain ⟨s0, s1⟩ := Sb.sq_bd hf
  obtain ⟨r0, r1⟩ := Sb.raw_bd hf
  have g0 := (Sb.base_bd hf).1
  have L := Lib.hid (Sb.lo_in hf h0 h1)
  have U := Lib.hid (Sb.hi_in hf h0 h1)
  obtain ⟨j, hj, hj6, hcg⟩ := hw.all hf
  have e1 : Hid (Sb.lo x d = Sb.base x * (1000 - d) / 1000) := Lib.hid rfl
  have e2 : Hid (Sb.hi x d = (Sb.base x * (1000 + d) + 1000 - 1) / 1000) := Lib.hid rfl
  have CD := fun W => Lib.hid (implDivRound_any (Sb.raw x) 1000 W)
  rw [show Ar.dR (Sb.raw x) 1000 = Sb.base x by unfold Ar.dR; rw [if_neg (by omega)]; rfl] at CD
  have CQ := Lib.hid (fun W => quotientUp_any (Sb.base x * (1000 + d)) 1000 W U.out.1 (by have := U.out.2; omega) (by omega) (by omega))
  obtain ⟨de, hde⟩ : ∃ z, z = x.de := ⟨_, rfl⟩
  obtain ⟨sq, hsq⟩ : ∃ z, z = x.de * x.de := ⟨_, rfl⟩
  have p1 : wrap64 (de * de) = sq := by rw [hde, hsq]; exact IntWalk.wrap64_in _ (by omega)
  have p2 : wrap64 (sq * Sb.fac x.fo) = Sb.raw x := by rw [hsq]; exact IntWalk.wrap64_in _ (by unfold Sb.raw at r0 r1; omega)
  have q1 : IntKind.i64.wrap (de * de) = sq := by rw [hde, hsq]; exact IntWalk.i64_in _ (by omega)
  have q2 : IntKind.i64.wrap (sq * Sb.fac x.fo) = Sb.raw x := by rw [hsq]; exact IntWalk.i64_in _ (by unfold Sb.raw at r0 r1; omega)
  have hlt := World.block_lt_of_cell? w _ hcg
  simp only at hlt
  have hjz : (j : Int) + 1 - 1 = j := by omega
  clear hf s0 s1 r0 r1 g0 hsq hw
  rw [← hde]
  generalize Sb.base x = bs at *
  generalize Sb.raw x = rw at *
  generalize Sb.fac x.fo = fc at *
  generalize Sb.lo x d = lo at *
  generalize Sb.hi x d = hi at *
  rw [hj]
  clear hj hde
  go_enter Tryd.func140, Tryd.ntmps140
  go_wp2_with fail
  have KW := Lib.hid (fun q => (whole_new1 w (.cells #[.int .i64 ((j : Int) + 1), .int .i64 x.ic, .int .i64 x.wa, .int .i64 de, .int .i64 x.dg, .int .i64 x.ha, .int .i64 x.ag] 96) 143 #[.int .i64 0, .int .i64 0]).drewN q)
  have KB := Lib.hid (fun q => bt (below_two w (.cells #[.int .i64 ((j : Int) + 1), .int .i64 x.ic, .int .i64 x.wa, .int .i64 de, .int .i64 x.dg, .int .i64 x.ha, .int .i64 x.ag] 96) (.cells #[.int .i64 0, .int .i64 0] 143)) (below_drewW _ q))
  go_quiet ((go_at_call 170; exact Calls.quiet_of_same ((CD _).out.mono fun _ _ ⟨h, h'⟩ => ⟨h, h'.symm⟩)))
  have KQ := KW.out nq
  have BQ := Lib.hid (KB.out nq)
  clear KW KB
  generalize ((w.alloc (.cells #[.int .i64 ((j : Int) + 1), .int .i64 x.ic, .int .i64 x.wa, .int .i64 de, .int .i64 x.dg, .int .i64 x.ha, .int .i64 x.ag] 96)).alloc (.cells #[.int .i64 0, .int .i64 0] 143)).drewN nq = wq at *
  have k0 := KQ.at_ 0
  have k1 := KQ.at_ 1
  simp at k0 k1
  have f0 := KQ.free 0
  have f1 := KQ.free 1
  obtain ⟨l0, l1⟩ := L.out
  obtain ⟨u0, u1⟩ := U.out
  go_wp2_with fail
  refine (CQ.out _).mono ?_
  rintro e w1 ⟨rfl, rfl⟩
  have HP := Lib.hid ((KQ.put 0 (.int .i64 (bs * (1000 - d) / 1000))).put 1 (.int .i64 ((bs * (1000 + d) + 1000 - 1) / 1000)))
  have HS := Lib.hid (below_put2 BQ.out (show w.heap.size ≤ w.heap.size + 1 by omega) (.int .i64 (bs * (1000 - d) / 1000)) (.int .i64 ((bs * (1000 + d) + 1000 - 1) / 1000)))
  clear KQ
  go_wp2_with fail
  rw [e1.out, e2.out]
  have d0 := HP.out.at_ 0
  have d1 := HP.out.at_ 1
  simp at d0 d1
  exact bodyPost_ret (v := .agg #[.int .i64 (bs * (1000 - d) / 1000), .int .i64 ((bs * (1000 + d) + 1000 - 1) / 1000)]) (by simp [results, Tryd.results140, go_sem, d0, d1]) rfl ⟨rfl, HS.out⟩
set_option maxHeartbeats 3200000 in
theorem indexUnder_any (l u s : Int) (w : World) (l0 : 0 ≤ l) (l1 : l ≤ 100000) (u0 : 0 ≤ u) (u1 : u ≤ 100000) (s0 : 0 ≤ s) (s1 : s ≤ 200000) :
    Calls Tryd.prog 141 #[.agg #[.int .i64 l, .int .i64 u], .int .i64 s] w fun e w' => e = .returned (.agg #[.int .i64 (Sb.ixl s l), .int .i64 (Sb.ixh s u)]) ∧ Below w.heap.size w w' := by
  by_cases hs : s = 0
  · have e1 : Hid (Sb.ixl s l = 1000000) := Lib.hid (by unfold Sb.ixl; rw [if_pos hs])
    have e2 : Hid (Sb.ixh s u = 1000000) := Lib.hid (by unfold Sb.ixh; rw [if_pos hs])
    rw [e1.out, e2.out]
    subst hs
    clear e1 e2
    go_enter Tryd.func141, Tryd.ntmps141
    go_wp2_with fail
    exact bodyPost_ret (v := .agg #[.int .i64 1000000, .int .i64 1000000]) (by simp [results, Tryd.results141, go_sem]) rfl ⟨rfl, ((Below.refl _ _).alloc (Nat.le_refl _) _).alloc (by simp) _⟩
  · have e1 : Hid (Sb.ixl s l = min 1000000 (1000 * l / s)) := Lib.hid (by unfold Sb.ixl; rw [if_neg hs])
    have e2 : Hid (Sb.ixh s u = min 1000000 ((1000 * u + s - 1) / s)) := Lib.hid (by unfold Sb.ixh; rw [if_neg hs])
    have hsb : (s == 0) = false := by simpa using hs
    obtain ⟨q, hq⟩ : ∃ z, z = 1000 * l / s := ⟨_, rfl⟩
    obtain ⟨p, hp⟩ : ∃ z, z = (1000 * u + s - 1) / s := ⟨_, rfl⟩
    obtain ⟨L, hL⟩ : ∃ z, z = 1000 * l := ⟨_, rfl⟩
    obtain ⟨U, hU⟩ : ∃ z, z = 1000 * u := ⟨_, rfl⟩
    have hq1 : 0 ≤ q := by rw [hq]; exact Int.ediv_nonneg (by omega) s0
    have hp1 : 0 ≤ p := by rw [hp]; exact Int.ediv_nonneg (by omega) s0
    have hq2 : q ≤ 1000000000 := by have := Int.ediv_le_self s (show 0 ≤ 1000 * l by omega); omega
    have CQ := Lib.hid (fun W => quotientUp_any (1000 * u) s W (by omega) (by omega) (by omega) (by omega))
    rw [← hp, ← hU] at CQ
    have g1 : IntKind.i64.wrap (1000 * l) = L := by rw [hL]; exact IntWalk.i64_in _ (by omega)
    have g2 : L.tdiv s = q := by rw [hL, hq]; exact Int.tdiv_eq_ediv_of_nonneg (by omega)
    have g3 : IntKind.i64.wrap q = q := IntWalk.i64_in _ (by omega)
    have g4 : IntKind.i64.wrap (1000 * u) = U := by rw [hU]; exact IntWalk.i64_in _ (by omega)
    rw [e1.out, e2.out, ← hq, ← hp]
    clear e1 e2 hq hp hL hU
    by_cases hq9 : q < 1000000
    · have M1 : Hid (min 1000000 q = q) := Lib.hid (by omega)
      by_cases hp9 : p < 1000000
      · have M2 : Hid (min 1000000 p = p) := Lib.hid (by omega)
        rw [M1.out, M2.out]
        go_enter Tryd.func141, Tryd.ntmps141
        go_wp2_with fail
        go_region_held3 (fun w' => w'.cell? ⟨w.heap.size, 0, none⟩ = some (.int .i64 l) ∧ w'.cell? ⟨w.heap.size, 1, none⟩ = some (.int .i64 u)) (go_keep)
          (first
            | (go_at_call 171; refine (CQ.out _).mono ?_; rintro e wA ⟨rfl, rfl⟩))
        all_goals (
          go_wp2_with fail
          exact bodyPost_ret (v := .agg #[.int .i64 q, .int .i64 p]) (by simp [results, Tryd.results141, go_sem]) rfl ⟨rfl, bt (below_two _ _ _) (below_drewW _ 1)⟩)
      · have M2 : Hid (min 1000000 p = 1000000) := Lib.hid (by omega)
        rw [M1.out, M2.out]
        go_enter Tryd.func141, Tryd.ntmps141
        go_wp2_with fail
        go_region_held3 (fun w' => w'.cell? ⟨w.heap.size, 0, none⟩ = some (.int .i64 l) ∧ w'.cell? ⟨w.heap.size, 1, none⟩ = some (.int .i64 u)) (go_keep)
          (first
            | (go_at_call 171; refine (CQ.out _).mono ?_; rintro e wA ⟨rfl, rfl⟩))
        all_goals (
          go_wp2_with fail
          exact bodyPost_ret (v := .agg #[.int .i64 q, .int .i64 1000000]) (by simp [results, Tryd.results141, go_sem]) rfl ⟨rfl, bt (below_two _ _ _) (below_drewW _ 1)⟩)
    · have M1 : Hid (min 1000000 q = 1000000) := Lib.hid (by omega)
      by_cases hp9 : p < 1000000
      · have M2 : Hid (min 1000000 p = p) := Lib.hid (by omega)
        rw [M1.out, M2.out]
        go_enter Tryd.func141, Tryd.ntmps141
        go_wp2_with fail
        go_region_held3 (fun w' => w'.cell? ⟨w.heap.size, 0, none⟩ = some (.int .i64 l) ∧ w'.cell? ⟨w.heap.size, 1, none⟩ = some (.int .i64 u)) (go_keep)
          (first
            | (go_at_call 171; refine (CQ.out _).mono ?_; rintro e wA ⟨rfl, rfl⟩))
        all_goals (
          go_wp2_with fail
          exact bodyPost_ret (v := .agg #[.int .i64 1000000, .int .i64 p]) (by simp [results, Tryd.results141, go_sem]) rfl ⟨rfl, bt (below_two _ _ _) (below_drewW _ 1)⟩)
      · have M2 : Hid (min 1000000 p = 1000000) := Lib.hid (by omega)
        rw [M1.out, M2.out]
        go_enter Tryd.func141, Tryd.ntmps141
        go_wp2_with fail
        go_region_held3 (fun w' => w'.cell? ⟨w.heap.size, 0, none⟩ = some (.int .i64 l) ∧ w'.cell? ⟨w.heap.size, 1, none⟩ = some (.int .i64 u)) (go_keep)
          (first
            | (go_at_call 171; refine (CQ.out _).mono ?_; rintro e wA ⟨rfl, rfl⟩))
        all_goals (
          go_wp2_with fail
          exact bodyPost_ret (v := .agg #[.int .i64 1000000, .int .i64 1000000]) (by simp [results, Tryd.results141, go_sem]) rfl ⟨rfl, bt (below_two _ _ _) (below_drewW _ 1)⟩)
theorem getD_take {zs : List Int} {b k : Nat} (hb : b < k) : (zs.take k).getD b 0 = zs.getD b 0 := by
  rw [List.getD_eq_getElem?_getD, List.getD_eq_getElem?_getD, List.getElem?_take, if_pos hb]
set_option maxHeartbeats 1600000 in
theorem sliceMin_any (w : World) (v : Value) (zs : List Int) (hv : Sl w v zs) (hl : zs.length ≤ 1048576) (hn : zs ≠ []) :
    Calls Tryd.prog 106 #[v] w fun e w' => e = .returned (.int .i64 (Sb.wkL zs)) ∧ w = w' := by
  obtain ⟨a, cap, rfl⟩ := hv.form
  have HN := Lib.hid hn
  have hp : 0 < zs.length := by cases zs with
    | nil => exact absurd rfl hn
    | cons => simp
  obtain ⟨b, off, cap1, hn', hbl, hcc⟩ := Sl.atI hv hp
  simp only [Value.slice.injEq] at hn'
  obtain ⟨rfl, -, rfl⟩ := hn'
  have c0 := hcc 0 hp
  rw [Nat.add_zero] at c0
  have HC := Lib.hid hcc
  have W0 : Hid (Sb.Wp (zs.take 1) 0 zs[0]) := Lib.hid (Or.inr ⟨0, by rw [List.take_one]; cases zs with
    | nil => exact absurd rfl hn
    | cons z zs => exact Sb.Wk.one z, rfl, by cases zs with
      | nil => exact absurd rfl hn
      | cons z zs => rfl⟩)
  have hlz : ¬ (zs.length : Int) < 1 := by omega
  clear hv hn hcc
  go_enter Tryd.func106, Tryd.ntmps106
  go_wp2
  go_loop [3, 4] (fun s3 s4 => ∃ (k : Nat) (m : Int), 1 ≤ k ∧ k ≤ zs.length ∧ s4 = .int .i64 k ∧ s3 = .int .i64 m ∧ Hid (∃ b : Int, ¬ b < 0 ∧ Sb.Wp (zs.take k) b m)) (fun _ i => zs.length - (intOf i).toNat)
  case atStart => exact ⟨1, zs[0], Nat.le_refl _, hp, rfl, rfl, Lib.hid ⟨0, by omega, W0.out⟩⟩
  case round =>
    obtain ⟨k, m, k1, hk, rfl, rfl, hp'⟩ := hrel
    by_cases hlt : k < zs.length
    · have hltz : (k : Int) < (zs.length : Int) := by omega
      have c1 := HC.out k hlt
      have hn := Lib.hid (List.take_succ_eq_append_getElem hlt)
      by_cases hz : zs[k] < m
      · have N : Hid (∃ b : Int, ¬ b < 0 ∧ Sb.Wp (zs.take (k + 1)) b zs[k]) := Lib.hid (by
          obtain ⟨b, hb, hw⟩ := hp'.out
          exact ⟨(((zs.take k).length : Nat) : Int), by omega, by rw [hn.out]; exact hw.new (Or.inr hz)⟩)
        have hmin : min m zs[k] = zs[k] := by omega
        clear hn
        generalize zs[k] = z at *
        go_wp2
        exact ⟨⟨k + 1, z, by omega, by omega, by go_num, by first | rfl | (congr 1; omega), N⟩, by simp only [intOf]; omega⟩
      · have N : Hid (∃ b : Int, ¬ b < 0 ∧ Sb.Wp (zs.take (k + 1)) b m) := Lib.hid (by
          obtain ⟨b, hb, hw⟩ := hp'.out
          exact ⟨b, hb, by rw [hn.out]; exact hw.keep hb hz⟩)
        have hmin : min m zs[k] = m := by omega
        clear hn
        generalize zs[k] = z at *
        go_wp2
        exact ⟨⟨k + 1, m, by omega, by omega, by go_num, by first | rfl | (congr 1; omega), N⟩, by simp only [intOf]; omega⟩
    · have hltz : ¬ (k : Int) < (zs.length : Int) := by omega
      have hkn : k = zs.length := by omega
      have HR : Hid (m = Sb.wkL zs) := Lib.hid (by
        obtain ⟨b, hb, hw⟩ := hp'.out
        rw [hkn, List.take_length] at hw
        exact hw.fin.2)
      clear hkn hp'
      go_wp2
      go_ret
      exact ⟨ret_int HR.out, rfl⟩
set_option maxHeartbeats 1600000 in
theorem sliceIndex_any (w : World) (v : Value) (zs : List Int) (hv : Sl w v zs) (hl : zs.length ≤ 1048576) (hn : zs ≠ []) :
    Calls Tryd.prog 107 #[v, .int .i64 (Sb.wkL zs)] w fun e w' => e = .returned (.int .i64 (Sb.wkB zs)) ∧ w = w' := by
  obtain ⟨a, cap, rfl⟩ := hv.form
  have HV := Lib.hid hv
  have HT := Lib.hid (fun hb => Sb.wk_there hn hb)
  have HF := Lib.hid (fun (k : Nat) hk he hb => Sb.wk_first (k := k) hn hk he hb)
  clear hv hn
  generalize Sb.wkL zs = l at *
  generalize Sb.wkB zs = r at *
  go_enter Tryd.func107, Tryd.ntmps107
  go_wp2
  go_loop [5, 8] (fun _ s8 => ∃ k : Nat, k ≤ zs.length ∧ s8 = .int .i64 k ∧ Hid (∀ j (hj : j < zs.length), j < k → zs[j] ≠ l)) (fun _ s8 => zs.length - (intOf s8).toNat)
  case atStart => exact ⟨0, Nat.zero_le _, rfl, Lib.hid (fun j hj h => absurd h (Nat.not_lt_zero _))⟩
  case round =>
    obtain ⟨k, hk, rfl, hp⟩ := hrel
    by_cases hlt : k < zs.length
    · have hltz : (k : Int) < (zs.length : Int) := by omega
      obtain ⟨b, off, cap1, hn, hbl, hcc⟩ := Sl.atI HV.out hlt
      simp only [Value.slice.injEq] at hn
      obtain ⟨rfl, -, rfl⟩ := hn
      have c1 := hcc k hlt
      clear hcc
      by_cases he : zs[k] = l
      · have hr : Hid ((k : Int) = r) := Lib.hid (HF.out k hlt he hp.out)
        have hb : (l == zs[k]) = true := by rw [he]; simp
        clear he
        generalize zs[k] = z at *
        go_wp2
        go_ret
        exact ⟨ret_int hr.out, rfl⟩
      · have hN : Hid (∀ j (hj : j < zs.length), j < k + 1 → zs[j] ≠ l) := Lib.hid (fun j hj h => by
          by_cases e : j = k
          · subst e; exact he
          · exact hp.out j hj (by omega))
        have hb : (l == zs[k]) = false := by simp; omega
        clear he
        generalize zs[k] = z at *
        go_wp2
        exact ⟨⟨k + 1, by omega, by go_num, hN⟩, by simp only [intOf]; omega⟩
    · exfalso
      exact HT.out (fun j hj => hp.out j hj (by omega))
set_option maxHeartbeats 800000 in
theorem firstLeastI_any (w : World) (v : Value) (zs : List Int) (hv : Sl w v zs) (hl : zs.length ≤ 1048576) (hn : zs ≠ []) :
    Calls Tryd.prog 65 #[v] w fun e w' => e = .returned (.tuple #[.int .i64 (Sb.wkB zs), .int .i64 (Sb.wkL zs)]) ∧ w = w' := by
  have CM := Lib.hid (sliceMin_any w v zs hv hl hn)
  have CX := Lib.hid (sliceIndex_any w v zs hv hl hn)
  clear hn hv hl
  generalize Sb.wkL zs = ll at *
  generalize Sb.wkB zs = kk at *
  go_enter Tryd.func65, Tryd.ntmps65
  go_wp2_with fail
  refine CM.out.mono ?_
  rintro e w3 ⟨rfl, rfl⟩
  go_wp2_with fail
  refine CX.out.mono ?_
  rintro e w3 ⟨rfl, rfl⟩
  go_wp2_with fail
  go_ret2
  exact ⟨rfl, rfl⟩
end Go.Proofs.YtaldmdammipfjaaDoor
