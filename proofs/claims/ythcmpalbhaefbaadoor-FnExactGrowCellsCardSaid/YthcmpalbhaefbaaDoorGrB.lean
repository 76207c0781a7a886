/-
  Cells and those next to them of nearly the same height, by the program (chapter 11). The conditions: the table of ways, and the library's table of de Bruijn, as they are laid.
-/
import Derived.Test.YthcmpalbhaefbaaDoorGrM
import Derived.Test.YthcmpalbhaefbaaDoorGrA
import Derived.Test.YthcmpalbhaefbaaDoorFdL
import Derived.Deep.RegionHeld3
namespace Go.Proofs.YthcmpalbhaefbaaDoor
open Go.RowKit Go.Shelf Go.Deep
set_option linter.unusedVariables false
set_option maxRecDepth 100000
set_option maxHeartbeats 1600000 in
theorem growLit_any (w : World) (q : Nat) (most : Int) (d0 d1 d2 d3 d4 : Int) (hq : w.cell? ⟨q, 0, none⟩ = some (.int .i64 most)) (m0 : 0 ≤ most) (m1 : most ≤ 5000) :
    Calls Tryd.prog 72 #[.agg #[.int .i64 d0, .int .i64 d1, .int .i64 d2, .int .i64 d3, .int .i64 d4], .pointer (some ⟨q, 0, none⟩)] w fun e w' => e = .returned (.bool (Ar.inB (-most) d3 most)) ∧ Below w.heap.size w w' := by
  have C := Lib.hid (fun W => within_any d3 (-most) most W)
  have B1 := Lib.hid ((Below.refl w.heap.size w).alloc (Nat.le_refl _) (.cells #[.int .i64 d0, .int .i64 d1, .int .i64 d2, .int .i64 d3, .int .i64 d4] 74))
  have hlq := World.block_lt_of_cell? w _ hq
  have hw1 : IntKind.i64.wrap (-most) = -most := IntWalk.i64_in _ (by omega)
  go_enter Tryd.func72, Tryd.ntmps72
  go_wp2_with fail
  refine (C.out _).mono ?_
  rintro e w' ⟨rfl, rfl⟩
  go_wp2_with fail
  go_ret
  exact ⟨rfl, B1.out⟩
theorem keptA {w w5 : World} {zs : Array Value} {t : TypeId} (b : Below (w.alloc (.cells zs t)).drew.heap.size (w.alloc (.cells zs t)).drew w5) : Whole w5 w.heap.size t zs := (Whole.new w t zs).all (bt (below_drewW (w.alloc (.cells zs t)) 1) b)
set_option maxHeartbeats 12800000 in
theorem implGrowCells_any (w : World) (r c s : Int) (v : Value) (zs : List Int) (u : Value) (ks : List Int) (most : Int) (ho : IAt w v zs) (hl : zs.length ≤ 1048576) (hu : Sl w u ks) (hkl : ks.length ≤ 1048576) (hA : AspAt w) (hD : DbAt w) :
    Calls Tryd.prog 35 #[.agg #[.int .i64 r, .int .i64 c, .int .i64 s, v], u, .int .i64 most] w (RIp w (Gw.gwL r c s zs ks most) (Gw.gwC r c s zs ks most)) := by
  obtain ⟨Bo, g0, cap, rfl, hown⟩ := ho
  have HB := Lib.hid (boxG_below w r c s (.slice (some ⟨g0, 0, none⟩) zs.length cap) 28)
  have B2 := Lib.hid (HB.out.alloc HB.out.size (.cells #[.int .i64 most] 2))
  have K2 : Hid (GC ((boxG w r c s (.slice (some ⟨g0, 0, none⟩) zs.length cap) 28).alloc (.cells #[.int .i64 most] 2)) w.heap.size r c s (.slice (some ⟨g0, 0, none⟩) zs.length cap)) := Lib.hid (boxG_kept ((Below.refl _ _).alloc (Nat.le_refl _) _))
  have M2 := Lib.hid (Whole.new (boxG w r c s (.slice (some ⟨g0, 0, none⟩) zs.length cap) 28) 2 #[.int .i64 most])
  have O2 := Lib.hid (hown.belowAll B2.out)
  have A2 := Lib.hid (hA.below B2.out)
  have D2 := Lib.hid (hD.below B2.out)
  have U2 := Lib.hid (hu.below B2.out)
  obtain ⟨ua, ucap, rfl⟩ := hu.form
  rw [boxG_size] at M2
  unfold boxG at B2 K2 M2 O2 A2 D2 U2
  clear hown hu hA hD HB
  obtain ⟨W2, hW2⟩ : ∃ u, (w.alloc (.cells #[.int .i64 r, .int .i64 c, .int .i64 s, .slice (some ⟨g0, 0, none⟩) zs.length cap] 28)).alloc (.cells #[.int .i64 most] 2) = u := ⟨_, rfl⟩
  rw [hW2] at B2 K2 M2 O2 A2 D2 U2
  have CI := Lib.hid (fun W => within_any most 0 5000 W)
  have CR := Lib.hid (fun W (h : Below W2.heap.size W2 W) => releaseOf_any W r c s g0 cap Bo zs (.slice ua ks.length ucap) ks (Ar.inB 0 most 5000) (O2.out.belowAll h) hl (U2.out.below h) hkl)
  rw [show odC (Gw.ok r c s zs) (Ar.inB 0 most 5000) (Rl.ri 0 (zs.length - 1) ks) = Gw.gwC r c s zs ks most from rfl] at CR
  have KK := Lib.hid (fun W (h : Below W2.heap.size W2 W) => (⟨(K2.out.all h).four.1, (K2.out.all h).four.2.1, (K2.out.all h).four.2.2.1, (K2.out.all h).four.2.2.2, (M2.out.all h).at_ 0⟩ : W.cell? ⟨w.heap.size, 0, none⟩ = some (.int .i64 r) ∧ W.cell? ⟨w.heap.size, 1, none⟩ = some (.int .i64 c) ∧ W.cell? ⟨w.heap.size, 2, none⟩ = some (.int .i64 s) ∧ W.cell? ⟨w.heap.size, 3, none⟩ = some (.slice (some ⟨g0, 0, none⟩) zs.length cap) ∧ W.cell? ⟨w.heap.size + 1, 0, none⟩ = some (.int .i64 most)))
  obtain ⟨k0, k1, k2, k3, k4⟩ := KK.out W2 (Below.refl _ _)
  have hkl0 := K2.out.lt
  have hml0 := M2.out.lt
  have nk0 := World.new_ne W2 _ k0
  have nk4 := World.new_ne W2 _ k4
  by_cases hz : Gw.gwC r c s zs ks most = 0
  · obtain ⟨G, hup, hx, hk64, m0, m1⟩ := Gw.gw_0 hz
    have E := Lib.hid (Gw.gw_yes hz)
    have HZ := Lib.hid hz
    have hlen := G.len
    have GG := Lib.hid G
    have HX := Lib.hid hx
    have HUP := Lib.hid hup
    obtain ⟨R, rfl⟩ : ∃ R : Nat, r = (R : Int) := ⟨r.toNat, (Int.toNat_of_nonneg (by have := G.r1; omega)).symm⟩
    obtain ⟨C, rfl⟩ : ∃ C : Nat, c = (C : Int) := ⟨c.toNat, (Int.toNat_of_nonneg (by have := G.c1; omega)).symm⟩
    have CR1 : Hid (∀ W, Below W2.heap.size W2 W → Calls Tryd.prog 62 #[.agg #[.int .i64 R, .int .i64 C, .int .i64 s, .slice (some ⟨g0, 0, none⟩) zs.length cap], .slice ua ks.length ucap, .bool (Ar.inB 0 most 5000)] W fun e w' => ∃ g cap', e = .returned (.tuple #[.agg #[.int .i64 R, .int .i64 C, .int .i64 s, .slice (some ⟨g0, 0, none⟩) zs.length cap, .slice (some ⟨g, 0, none⟩) R cap', .int .u64 (Rl.sN ks : Int)], .int .i64 0]) ∧ RowsAt w' g g0 0 C R ∧ Below W.heap.size W w') := Lib.hid (fun W h => (CR.out W h).mono (by
      rintro e w' ⟨⟨h1, -⟩ | ⟨-, R', C', g, cap', e1, e2, e3, h4⟩, b⟩
      · exact absurd HZ.out h1
      · obtain rfl : R = R' := by omega
        obtain rfl : C = C' := by omega
        exact ⟨g, cap', e3, h4, b⟩))
    clear hup hx G hz CR hk64
    generalize Ar.inB 0 most 5000 = st at *
    go_enter Tryd.func35, Tryd.ntmps35
    go_wp2_with fail
    go_region_held3 (fun w' => w'.cell? ⟨w.heap.size, 0, none⟩ = some (.int .i64 R) ∧ w'.cell? ⟨w.heap.size, 1, none⟩ = some (.int .i64 C) ∧ w'.cell? ⟨w.heap.size, 2, none⟩ = some (.int .i64 s) ∧ w'.cell? ⟨w.heap.size, 3, none⟩ = some (.slice (some ⟨g0, 0, none⟩) zs.length cap) ∧ w'.cell? ⟨w.heap.size + 1, 0, none⟩ = some (.int .i64 most)) (go_keep)
      (first
        | (go_at_call 70; refine (CI.out _).mono ?_; rintro e w' ⟨rfl, rfl⟩)
        | (go_at_call 62; refine (CR1.out _ (by first | exact bdr1 _ | exact bdA _ _ | exact below_drewW _ _)).mono ?_; rintro e w5 ⟨g, cap', rfl, hr, b5⟩; have b50 : Below W2.heap.size W2 w5 := (by first | exact bt (bdr1 _) b5 | exact bt (bdA _ _) b5 | exact bt (below_drewW _ _) b5); obtain ⟨y0, y1, y2, y3, y4⟩ := KK.out w5 b50; try (have TQ := keptA b5; have f0 := TQ.free 0; have f1 := TQ.free 1; have f2 := TQ.free 2; have f3 := TQ.free 3; have f4 := TQ.free 4; have f5 := TQ.free 5; have z0 := TQ.at_ 0; have z1 := TQ.at_ 1; have z2 := TQ.at_ 2; have z3 := TQ.at_ 3; have z4 := TQ.at_ 4; have z5 := TQ.at_ 5; have hq5 := TQ.lt)))
    all_goals (
      first
        | (have NA := (Below.refl w5.heap.size w5).alloc (Nat.le_refl _) (.cells #[.int .i64 R, .int .i64 C, .int .i64 s, .slice (some ⟨g0, 0, none⟩) zs.length cap, .slice (some ⟨g, 0, none⟩) R cap', .int .u64 (Rl.sN ks : Int)] 90)
           have N5 := Lib.hid (bt b50 NA)
           have T5 := Lib.hid (Whole.new w5 90 #[.int .i64 R, .int .i64 C, .int .i64 s, .slice (some ⟨g0, 0, none⟩) zs.length cap, .slice (some ⟨g, 0, none⟩) R cap', .int .u64 (Rl.sN ks : Int)])
           have HR5 := Lib.hid (hr.all NA)
           generalize w5.alloc (.cells #[.int .i64 R, .int .i64 C, .int .i64 s, .slice (some ⟨g0, 0, none⟩) zs.length cap, .slice (some ⟨g, 0, none⟩) R cap', .int .u64 (Rl.sN ks : Int)] 90) = W5 at *
           obtain ⟨q, hqe⟩ : ∃ q, w5.heap.size = q := ⟨_, rfl⟩
           rw [hqe] at T5 ⊢
           clear hqe NA)
        | (have T5 := Lib.hid (put6 TQ (.int .i64 R) (.int .i64 C) (.int .i64 s) (.slice (some ⟨g0, 0, none⟩) zs.length cap) (.slice (some ⟨g, 0, none⟩) R cap') (.int .u64 (Rl.sN ks : Int)))
           have N5 := Lib.hid (below6 b50 (Nat.le_refl _) (.int .i64 R) (.int .i64 C) (.int .i64 s) (.slice (some ⟨g0, 0, none⟩) zs.length cap) (.slice (some ⟨g, 0, none⟩) R cap') (.int .u64 (Rl.sN ks : Int)))
           have HR5 := Lib.hid (hr.put6 (fun e => by
             have h0 := hr.2 0 (by have := GG.out.r1; omega)
             rw [e] at h0
             have h1 := TQ.at_ 0
             rw [show (⟨W2.heap.size, 0 * 1, none⟩ : Addr) = ⟨W2.heap.size, 0, none⟩ from rfl] at h0
             rw [h1] at h0; cases h0) (.int .i64 R) (.int .i64 C) (.int .i64 s) (.slice (some ⟨g0, 0, none⟩) zs.length cap) (.slice (some ⟨g, 0, none⟩) R cap') (.int .u64 (Rl.sN ks : Int)))
           generalize ((((((w5.setCell ⟨W2.heap.size, 0, none⟩ (.int .i64 R)).setCell ⟨W2.heap.size, 1, none⟩ (.int .i64 C)).setCell ⟨W2.heap.size, 2, none⟩ (.int .i64 s)).setCell ⟨W2.heap.size, 3, none⟩ (.slice (some ⟨g0, 0, none⟩) zs.length cap)).setCell ⟨W2.heap.size, 4, none⟩ (.slice (some ⟨g, 0, none⟩) R cap')).setCell ⟨W2.heap.size, 5, none⟩ (.int .u64 (Rl.sN ks : Int))) = W5 at *
           obtain ⟨q, hqe⟩ : ∃ q, W2.heap.size = q := ⟨_, rfl⟩
           rw [hqe] at T5 ⊢
           clear hqe TQ f0 f1 f2 f3 f4 f5 z0 z1 z2 z3 z4 z5 hq5)
      clear hr b5 b50 y0 y1 y2 y3 y4 k0 k1 k2 k3 k4 hkl0 hml0 nk0 nk4
      have CX : Hid (∀ W, Below W5.heap.size W5 W → ∀ k : Nat, k < zs.length → Calls Tryd.prog 71 #[.agg #[.int .i64 R, .int .i64 C, .int .i64 s, .slice (some ⟨g0, 0, none⟩) zs.length cap, .slice (some ⟨g, 0, none⟩) R cap', .int .u64 (Rl.sN ks : Int)], .int .i64 (k : Int), .func (.func 72) #[] #[.pointer (some ⟨w.heap.size + 1, 0, none⟩)]] W fun e w' =>
          e = .returned (.int .u64 (Rl.sN (Gw.arL R C k (Gw.nbP R C zs most k) (Gw.dirs R C k)) : Int)) ∧ Below W.heap.size W w') := Lib.hid (fun W hW k hk =>
        callsIn_wide.1 (around_in 8 (Nat.le_refl _) W R C k g0 zs.length cap g cap' (Rl.sN ks) s zs GG.out hk (HR5.out.all hW) (own_cells (O2.out.belowAll (bt N5.out hW))) (own_lt (O2.out.belowAll (bt N5.out hW))) (A2.out.below (bt N5.out hW)) 72 #[.pointer (some ⟨w.heap.size + 1, 0, none⟩)] (Gw.nbP R C zs most k) (enters_of Tryd.func72 (by kernel_rfl) rfl)
          (fun a _ _ W' hW' => by
            have := growLit_any W' (w.heap.size + 1) most (a : Int) (Gw.rwA C k a) (Gw.clA C k a) (Gw.drp zs k (Gw.goC R C k a).toNat) (Gw.fall s zs k (Gw.goC R C k a).toNat a) (KK.out W' (bt (bt N5.out hW) hW')).2.2.2.2 m0 m1
            simpa [stepV, Gw.nbP, Gw.nbB] using this)))
      have CD := Lib.hid (fun (x : Nat) (hx : x < 18446744073709551616) W (h : Below W5.heap.size W5 W) => indices_any x hx W (D2.out.below (bt N5.out h)))
      have HLT := Lib.hid (fun m => Gw.gw_lt (most := most) GG.out HX.out m)
      have HWD := Lib.hid (Gw.gw_word (most := most) GG.out HUP.out HX.out)
      have x5 := T5.out.at_ 5
      have hq5 := T5.out.lt
      go_wp2_with fail
      go_loopw [10, 12, 28] (fun sv _ i wr => ∃ j : Nat, j ≤ ks.length ∧ i = .int .i64 (j : Int) ∧ sv = .int .u64 (Rl.sN (ks ++ Gw.gwW R C zs most (ks.take j)) : Int) ∧ Hid (Below W5.heap.size W5 wr)) (fun _ _ i _ => ks.length - (intOf i).toNat)
      case atStart => exact ⟨0, Nat.zero_le _, rfl, by rw [List.take_zero]; simp [Gw.gwW], Lib.hid (Below.refl _ _)⟩
      case round =>
        obtain ⟨j, hj, rfl, rfl, hb⟩ := hrel
        clear x5
        by_cases hlt : j < ks.length
        · have hltz : (j : Int) < (ks.length : Int) := by omega
          obtain ⟨bu, offu, capu, hnu, hblu, hccu⟩ := (U2.out.below (bt N5.out hb.out)).atI hlt
          simp only [Value.slice.injEq] at hnu
          obtain ⟨rfl, -, rfl⟩ := hnu
          have c0 := hccu j hlt
          obtain ⟨q0, q1⟩ := HX.out ks[j] (List.getElem_mem hlt)
          have hst := Gw.gwW_take (r := R) (c := C) (zs := zs) (most := most) hlt
          clear hccu
          obtain ⟨kn, hkn⟩ : ∃ kn : Nat, ks[j] = (kn : Int) := ⟨ks[j].toNat, (Int.toNat_of_nonneg q0).symm⟩
          rw [hkn] at c0 hst q1
          rw [Int.toNat_natCast] at hst
          have CXK := Lib.hid (CX.out wr hb.out kn (by omega))
          have h1 := HLT.out j
          have h2 := HLT.out (j + 1)
          have hor : Rl.sN (ks ++ Gw.gwW R C zs most (ks.take (j + 1))) = Rl.sN (ks ++ Gw.gwW R C zs most (ks.take j)) ||| Rl.sN (Gw.arL R C kn (Gw.nbP R C zs most kn) (Gw.dirs R C kn)) := by
            rw [hst, Rl.sN_or, List.append_assoc]
          have h3 : Rl.sN (Gw.arL R C kn (Gw.nbP R C zs most kn) (Gw.dirs R C kn)) < 18446744073709551616 := Nat.lt_of_le_of_lt (by rw [hor]; exact Nat.right_le_or) h2
          have HO := Lib.hid (bits_or_u64_nat _ _ h1 h3)
          rw [← hor] at HO
          have y0 := (T5.out.all hb.out).at_ 0; have y1 := (T5.out.all hb.out).at_ 1; have y2 := (T5.out.all hb.out).at_ 2; have y3 := (T5.out.all hb.out).at_ 3; have y4 := (T5.out.all hb.out).at_ 4; have y5 := (T5.out.all hb.out).at_ 5
          have hq6 := (T5.out.all hb.out).lt
          clear hkn hor hst h1 h2 h3 q0
          obtain ⟨n2, hn2⟩ : ∃ n2, Rl.sN (ks ++ Gw.gwW R C zs most (ks.take (j + 1))) = n2 := ⟨_, rfl⟩
          rw [hn2] at HO
          have HN2 := Lib.hid hn2
          clear hn2
          generalize Rl.sN (ks ++ Gw.gwW R C zs most (ks.take j)) = n1 at *
          generalize Rl.sN (Gw.arL R C kn (Gw.nbP R C zs most kn) (Gw.dirs R C kn)) = n3 at *
          go_wp2_with fail
          refine CXK.out.mono ?_
          rintro e w6 ⟨rfl, b6⟩
          have B6 := Lib.hid (bt hb.out b6)
          clear b6 hb CXK y0 y1 y2 y3 y4 y5
          go_wp2_with fail
          exact ⟨⟨j + 1, by omega, by go_num, by rw [HO.out, HN2.out], B6⟩, by simp only [intOf]; omega⟩
        · have hltz : ¬ (j : Int) < (ks.length : Int) := by omega
          have CDJ := Lib.hid (CD.out _ (HLT.out j) wr hb.out)
          rw [List.take_of_length_le (show ks.length ≤ j by omega)] at CDJ
          rw [HWD.out] at CDJ
          have hB := hb.out
          rw [List.take_of_length_le (show ks.length ≤ j by omega)]
          generalize Rl.sN (ks ++ Gw.gwW R C zs most ks) = n1 at *
          go_wp2_with fail
          refine CDJ.out.mono ?_
          rintro e w7 ⟨u7, rfl, o7, b7⟩
          have B7 := Lib.hid (bt (bt (bt B2.out N5.out) hb.out) b7)
          have O7 := Lib.hid (Own.le o7 (bt (bt B2.out N5.out) hb.out).size)
          clear b7 o7 CDJ
          go_wp2_with fail
          exact bodyPost_ret (v := .tuple #[u7, .int .i64 0]) (by simp [results, Tryd.results35, go_sem]) rfl (by rw [E.out, HZ.out]; exact RIp.yes rfl rfl O7.out B7.out))
  · have E := Lib.hid (Gw.gw_no hz)
    have HZ := Lib.hid hz
    have hcb : (Gw.gwC r c s zs ks most != 0) = true := bne_iff_ne.2 hz
    have CR1 : Hid (∀ W, Below W2.heap.size W2 W → Calls Tryd.prog 62 #[.agg #[.int .i64 r, .int .i64 c, .int .i64 s, .slice (some ⟨g0, 0, none⟩) zs.length cap], .slice ua ks.length ucap, .bool (Ar.inB 0 most 5000)] W fun e w' => e = .returned (.tuple #[.agg #[.int .i64 0, .int .i64 0, .int .i64 0, .slice none 0 0, .slice none 0 0, .int .u64 0], .int .i64 (Gw.gwC r c s zs ks most)]) ∧ Below W.heap.size W w') := Lib.hid (fun W h => (CR.out W h).mono (by
      rintro e w' ⟨⟨-, h2⟩ | ⟨h1, -⟩, b⟩
      · exact ⟨h2, b⟩
      · exact absurd h1 HZ.out))
    have hv := od_vals (Gw.ok r c s zs) (Ar.inB 0 most 5000) (Rl.ri 0 (zs.length - 1) ks)
    rw [show odC (Gw.ok r c s zs) (Ar.inB 0 most 5000) (Rl.ri 0 (zs.length - 1) ks) = Gw.gwC r c s zs ks most from rfl] at hv
    rw [E.out]
    clear hz CR E hcb
    generalize Gw.gwC r c s zs ks most = code at *
    rcases hv with hv | hv | hv | hv
    · exact absurd hv HZ.out
    · subst hv
      clear HZ
      generalize Ar.inB 0 most 5000 = st at *
      go_enter Tryd.func35, Tryd.ntmps35
      go_wp2_with fail
      go_region_held3 (fun w' => w'.cell? ⟨w.heap.size, 0, none⟩ = some (.int .i64 r) ∧ w'.cell? ⟨w.heap.size, 1, none⟩ = some (.int .i64 c) ∧ w'.cell? ⟨w.heap.size, 2, none⟩ = some (.int .i64 s) ∧ w'.cell? ⟨w.heap.size, 3, none⟩ = some (.slice (some ⟨g0, 0, none⟩) zs.length cap) ∧ w'.cell? ⟨w.heap.size + 1, 0, none⟩ = some (.int .i64 most)) (go_keep)
        (first
          | (go_at_call 70; refine (CI.out _).mono ?_; rintro e w' ⟨rfl, rfl⟩)
          | (go_at_call 62; refine (CR1.out _ (by first | exact bdr1 _ | exact bdA _ _ | exact below_drewW _ _)).mono ?_; rintro e w5 ⟨rfl, b5⟩; have b50 : Below W2.heap.size W2 w5 := (by first | exact bt (bdr1 _) b5 | exact bt (bdA _ _) b5 | exact bt (below_drewW _ _) b5); obtain ⟨y0, y1, y2, y3, y4⟩ := KK.out w5 b50; try (have TQ := keptA b5; have f0 := TQ.free 0; have f1 := TQ.free 1; have f2 := TQ.free 2; have f3 := TQ.free 3; have f4 := TQ.free 4; have f5 := TQ.free 5; have z0 := TQ.at_ 0; have z1 := TQ.at_ 1; have z2 := TQ.at_ 2; have z3 := TQ.at_ 3; have z4 := TQ.at_ 4; have z5 := TQ.at_ 5; have hq5 := TQ.lt)))
      all_goals (
        first
          | (have N5 := Lib.hid (below6 b50 (Nat.le_refl _) (.int .i64 0) (.int .i64 0) (.int .i64 0) (.slice none 0 0) (.slice none 0 0) (.int .u64 0))
             generalize ((((((w5.setCell ⟨W2.heap.size, 0, none⟩ (.int .i64 0)).setCell ⟨W2.heap.size, 1, none⟩ (.int .i64 0)).setCell ⟨W2.heap.size, 2, none⟩ (.int .i64 0)).setCell ⟨W2.heap.size, 3, none⟩ (.slice none 0 0)).setCell ⟨W2.heap.size, 4, none⟩ (.slice none 0 0)).setCell ⟨W2.heap.size, 5, none⟩ (.int .u64 0)) = W5 at *
             clear TQ f0 f1 f2 f3 f4 f5 z0 z1 z2 z3 z4 z5 hq5)
          | (have N5 := Lib.hid (bt b50 ((Below.refl w5.heap.size w5).alloc (Nat.le_refl _) (.cells #[.int .i64 0, .int .i64 0, .int .i64 0, .slice none 0 0, .slice none 0 0, .int .u64 0] 90)))
             generalize w5.alloc (.cells #[.int .i64 0, .int .i64 0, .int .i64 0, .slice none 0 0, .slice none 0 0, .int .u64 0] 90) = W5 at *)
        have B5 := Lib.hid (bt B2.out N5.out)
        clear b5 b50 y0 y1 y2 y3 y4 k0 k1 k2 k3 k4 hkl0 hml0 nk0 nk4 N5
        go_wp2_with fail
        exact bodyPost_ret (v := .tuple #[.slice none 0 0, .int .i64 1]) (by simp [results, Tryd.results35, go_sem]) rfl (RIp.no B5.out))
    · subst hv
      clear HZ
      generalize Ar.inB 0 most 5000 = st at *
      go_enter Tryd.func35, Tryd.ntmps35
      go_wp2_with fail
      go_region_held3 (fun w' => w'.cell? ⟨w.heap.size, 0, none⟩ = some (.int .i64 r) ∧ w'.cell? ⟨w.heap.size, 1, none⟩ = some (.int .i64 c) ∧ w'.cell? ⟨w.heap.size, 2, none⟩ = some (.int .i64 s) ∧ w'.cell? ⟨w.heap.size, 3, none⟩ = some (.slice (some ⟨g0, 0, none⟩) zs.length cap) ∧ w'.cell? ⟨w.heap.size + 1, 0, none⟩ = some (.int .i64 most)) (go_keep)
        (first
          | (go_at_call 70; refine (CI.out _).mono ?_; rintro e w' ⟨rfl, rfl⟩)
          | (go_at_call 62; refine (CR1.out _ (by first | exact bdr1 _ | exact bdA _ _ | exact below_drewW _ _)).mono ?_; rintro e w5 ⟨rfl, b5⟩; have b50 : Below W2.heap.size W2 w5 := (by first | exact bt (bdr1 _) b5 | exact bt (bdA _ _) b5 | exact bt (below_drewW _ _) b5); obtain ⟨y0, y1, y2, y3, y4⟩ := KK.out w5 b50; try (have TQ := keptA b5; have f0 := TQ.free 0; have f1 := TQ.free 1; have f2 := TQ.free 2; have f3 := TQ.free 3; have f4 := TQ.free 4; have f5 := TQ.free 5; have z0 := TQ.at_ 0; have z1 := TQ.at_ 1; have z2 := TQ.at_ 2; have z3 := TQ.at_ 3; have z4 := TQ.at_ 4; have z5 := TQ.at_ 5; have hq5 := TQ.lt)))
      all_goals (
        first
          | (have N5 := Lib.hid (below6 b50 (Nat.le_refl _) (.int .i64 0) (.int .i64 0) (.int .i64 0) (.slice none 0 0) (.slice none 0 0) (.int .u64 0))
             generalize ((((((w5.setCell ⟨W2.heap.size, 0, none⟩ (.int .i64 0)).setCell ⟨W2.heap.size, 1, none⟩ (.int .i64 0)).setCell ⟨W2.heap.size, 2, none⟩ (.int .i64 0)).setCell ⟨W2.heap.size, 3, none⟩ (.slice none 0 0)).setCell ⟨W2.heap.size, 4, none⟩ (.slice none 0 0)).setCell ⟨W2.heap.size, 5, none⟩ (.int .u64 0)) = W5 at *
             clear TQ f0 f1 f2 f3 f4 f5 z0 z1 z2 z3 z4 z5 hq5)
          | (have N5 := Lib.hid (bt b50 ((Below.refl w5.heap.size w5).alloc (Nat.le_refl _) (.cells #[.int .i64 0, .int .i64 0, .int .i64 0, .slice none 0 0, .slice none 0 0, .int .u64 0] 90)))
             generalize w5.alloc (.cells #[.int .i64 0, .int .i64 0, .int .i64 0, .slice none 0 0, .slice none 0 0, .int .u64 0] 90) = W5 at *)
        have B5 := Lib.hid (bt B2.out N5.out)
        clear b5 b50 y0 y1 y2 y3 y4 k0 k1 k2 k3 k4 hkl0 hml0 nk0 nk4 N5
        go_wp2_with fail
        exact bodyPost_ret (v := .tuple #[.slice none 0 0, .int .i64 2]) (by simp [results, Tryd.results35, go_sem]) rfl (RIp.no B5.out))
    · subst hv
      clear HZ
      generalize Ar.inB 0 most 5000 = st at *
      go_enter Tryd.func35, Tryd.ntmps35
      go_wp2_with fail
      go_region_held3 (fun w' => w'.cell? ⟨w.heap.size, 0, none⟩ = some (.int .i64 r) ∧ w'.cell? ⟨w.heap.size, 1, none⟩ = some (.int .i64 c) ∧ w'.cell? ⟨w.heap.size, 2, none⟩ = some (.int .i64 s) ∧ w'.cell? ⟨w.heap.size, 3, none⟩ = some (.slice (some ⟨g0, 0, none⟩) zs.length cap) ∧ w'.cell? ⟨w.heap.size + 1, 0, none⟩ = some (.int .i64 most)) (go_keep)
        (first
          | (go_at_call 70; refine (CI.out _).mono ?_; rintro e w' ⟨rfl, rfl⟩)
          | (go_at_call 62; refine (CR1.out _ (by first | exact bdr1 _ | exact bdA _ _ | exact below_drewW _ _)).mono ?_; rintro e w5 ⟨rfl, b5⟩; have b50 : Below W2.heap.size W2 w5 := (by first | exact bt (bdr1 _) b5 | exact bt (bdA _ _) b5 | exact bt (below_drewW _ _) b5); obtain ⟨y0, y1, y2, y3, y4⟩ := KK.out w5 b50; try (have TQ := keptA b5; have f0 := TQ.free 0; have f1 := TQ.free 1; have f2 := TQ.free 2; have f3 := TQ.free 3; have f4 := TQ.free 4; have f5 := TQ.free 5; have z0 := TQ.at_ 0; have z1 := TQ.at_ 1; have z2 := TQ.at_ 2; have z3 := TQ.at_ 3; have z4 := TQ.at_ 4; have z5 := TQ.at_ 5; have hq5 := TQ.lt)))
      all_goals (
        first
          | (have N5 := Lib.hid (below6 b50 (Nat.le_refl _) (.int .i64 0) (.int .i64 0) (.int .i64 0) (.slice none 0 0) (.slice none 0 0) (.int .u64 0))
             generalize ((((((w5.setCell ⟨W2.heap.size, 0, none⟩ (.int .i64 0)).setCell ⟨W2.heap.size, 1, none⟩ (.int .i64 0)).setCell ⟨W2.heap.size, 2, none⟩ (.int .i64 0)).setCell ⟨W2.heap.size, 3, none⟩ (.slice none 0 0)).setCell ⟨W2.heap.size, 4, none⟩ (.slice none 0 0)).setCell ⟨W2.heap.size, 5, none⟩ (.int .u64 0)) = W5 at *
             clear TQ f0 f1 f2 f3 f4 f5 z0 z1 z2 z3 z4 z5 hq5)
          | (have N5 := Lib.hid (bt b50 ((Below.refl w5.heap.size w5).alloc (Nat.le_refl _) (.cells #[.int .i64 0, .int .i64 0, .int .i64 0, .slice none 0 0, .slice none 0 0, .int .u64 0] 90)))
             generalize w5.alloc (.cells #[.int .i64 0, .int .i64 0, .int .i64 0, .slice none 0 0, .slice none 0 0, .int .u64 0] 90) = W5 at *)
        have B5 := Lib.hid (bt B2.out N5.out)
        clear b5 b50 y0 y1 y2 y3 y4 k0 k1 k2 k3 k4 hkl0 hml0 nk0 nk4 N5
        go_wp2_with fail
        exact bodyPost_ret (v := .tuple #[.slice none 0 0, .int .i64 7]) (by simp [results, Tryd.results35, go_sem]) rfl (RIp.no B5.out))
end Go.Proofs.YthcmpalbhaefbaaDoor
