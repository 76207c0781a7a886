/-
  Peaks and pits by the model (chapter 9). No condition of its own.
-/
import Derived.Test.YthcmpalbhaefbaaDoorPpB
namespace Go.Proofs.YthcmpalbhaefbaaDoor
open Go.RowKit Go.Shelf Go.Deep
set_option linter.unusedVariables false
set_option maxRecDepth 100000
namespace Gw
theorem all_take {l : List Int} {p : Int → Bool} {k : Nat} (h : k < l.length) : (l.take (k + 1)).all p = ((l.take k).all p && p l[k]) := by
  rw [List.take_succ_eq_append_getElem h, List.all_append]; simp
end Gw
set_option maxHeartbeats 12800000 in
theorem specPitsOf_any (w : World) (r c s : Int) (v : Value) (zs : List Int) (hv : Sl w v zs) (hl : zs.length ≤ 1048576) :
    Calls Tryd.prog 30 #[.agg #[.int .i64 r, .int .i64 c, .int .i64 s, v]] w (RIp w (Gw.ptL r c s zs) (Gw.vC r c s zs)) := by
  obtain ⟨i0, hi, hz0, hz1, hz2⟩ := info_parts info_i64
  have HB := Lib.hid (boxG_below w r c s v 28)
  have HK := Lib.hid (fun W (h : Below (boxG w r c s v 28).heap.size (boxG w r c s v 28) W) => (boxG_kept h : GC W w.heap.size r c s v))
  have C := Lib.hid (l09Ok_any (boxG w r c s v 28) w.heap.size r c s v zs (boxG_cells w r c s v 28) (hv.below HB.out) hl)
  have HV := Lib.hid hv
  clear hv
  cases hq : Gw.ok r c s zs with
  | false =>
    have E : Hid (Gw.ptL r c s zs = [] ∧ Gw.vC r c s zs = 1) := Lib.hid (Gw.wo_no hq)
    rw [hq] at C
    rw [E.out.1, E.out.2]
    clear hq E
    go_enter Tryd.func30, Tryd.ntmps30
    go_wp2_with fail
    refine C.out.mono ?_
    rintro e w1 ⟨rfl, b1⟩
    have B1 := Lib.hid (bt HB.out b1)
    clear b1
    go_wp2_with fail
    go_ret2
    exact RIp.no B1.out
  | true =>
    have G := (Gw.ok_iff _ _ _ _).1 hq
    have E : Hid (Gw.ptL r c s zs = Gw.stF (Gw.piB r c zs) zs.length ∧ Gw.vC r c s zs = 0) := Lib.hid (Gw.wo_yes hq)
    rw [hq] at C
    rw [E.out.1, E.out.2]
    have hlen := G.len
    have GG := Lib.hid G
    have hrc : wrap64 (r * c) = (zs.length : Int) := by rw [← G.n]; exact IntWalk.wrap64_in _ ⟨by omega, by omega⟩
    have CS := Lib.hid (fun W (h : Below (boxG w r c s v 28).heap.size (boxG w r c s v 28) W) (k : Nat) (hk : k < zs.length) => l09Steepest_any W w.heap.size r c s v zs k (HK.out W h) (HV.out.below (bt HB.out h)) G hk)
    clear hq G E
    go_enter Tryd.func30, Tryd.ntmps30
    go_wp2_with fail
    refine C.out.mono ?_
    rintro e w1 ⟨rfl, b1⟩
    have N1 : Hid (Below (boxG w r c s v 28).heap.size (boxG w r c s v 28) (w1.alloc (.cells #[] 2))) := Lib.hid (Below.alloc b1 b1.size _)
    have O1 : Hid (Own w1.heap.size (w1.alloc (.cells #[] 2)) (.slice (some ⟨w1.heap.size, 0, none⟩) 0 0) (Gw.stF (Gw.piB r c zs) 0)) := Lib.hid (World.ownsRow_lit _ _ _ (Nat.le_refl _) (by decide) (by decide))
    have hw1 : Hid (w.heap.size ≤ w1.heap.size) := Lib.hid (bt HB.out b1).size
    have B1 := Lib.hid ((Below.refl w1.heap.size w1).alloc (Nat.le_refl _) (.cells #[] 2))
    have M1 := Lib.hid b1
    clear b1 C
    go_wp2_with fail
    go_loopw [4, 5, 6, 7] (fun q i _ _ wr => ∃ k : Nat, k ≤ zs.length ∧ i = .int .i64 (k : Int) ∧ Hid (Own w1.heap.size wr q (Gw.stF (Gw.piB r c zs) k)) ∧ Hid (Below w1.heap.size w1 wr)) (fun _ i _ _ _ => zs.length - (intOf i).toNat)
    case atStart => exact ⟨0, by omega, rfl, O1, B1⟩
    case round =>
      obtain ⟨k, hk, rfl, hO, hb⟩ := hrel
      clear O1 B1 N1
      have hlm : (Gw.stF (Gw.piB r c zs) k).length ≤ 64 := Nat.le_trans (Gw.stF_len _ _) (by omega)
      have NB := Lib.hid (bt M1.out hb.out)
      obtain ⟨x0, x1, x2, x3⟩ := (HK.out _ NB.out).four
      have hbl0 := (HK.out _ NB.out).lt
      by_cases hlt : k < zs.length
      · have hltz : (k : Int) < (zs.length : Int) := by omega
        have hYY := Lib.hid (fun h => Gw.stF_yes (p := Gw.piB r c zs) (n := k) h)
        have hNN := Lib.hid (fun h => Gw.stF_no (p := Gw.piB r c zs) (n := k) h)
        generalize Gw.stF (Gw.piB r c zs) k = l at *
        have C := Lib.hid (CS.out wr NB.out k hlt)
        have hpb := Gw.piB_stp r c s zs k
        generalize Gw.stp r c s zs k 8 = p at *
        by_cases hp : p.1 < 0
        · have HY := Lib.hid (hYY.out (by rw [hpb, decide_eq_true hp]))
          clear hpb hYY hNN
          go_wp2_with fail
          refine C.out.mono ?_
          rintro e w3 ⟨rfl, b3⟩
          have O3 := Lib.hid (own_belowAll hO.out b3)
          have B3 := Lib.hid (bt hb.out b3)
          clear b3 hO hb C x0 x1 x2 x3 hbl0 NB
          go_wp2_with (at_builtin; refine wpList_append_own _ rfl _ _ 22 rfl w1.heap.size 2 i0 (.int .i64 0) 1 8 Tryd.underlying22 hi hz0 hz1 hz2 rfl (by decide) _ _ _ rfl (own_belowAll O3.out ((Below.refl _ _).alloc (Nat.le_refl _) _)) ⟨w3.heap.size, 0, none⟩ 1 1 [.int .i64 (k : Int)] rfl rfl (row_new _ [_] _) (iv_cell [(k : Int)]) ?c3 ?c4 ?c5 ?_)
          case c3 => unfold maxLen; omega
          case c4 => omega
          case c5 => have := B3.out.size; first | omega | (simp; omega)
          intro v' w7 hown' hgrow _
          have O7 : Hid (Own w1.heap.size w7 v' (Gw.stF (Gw.piB r c zs) (k + 1))) := Lib.hid (by rw [HY.out]; unfold Own; rw [iv_append, List.length_append]; exact hown')
          have B7 : Hid (Below w1.heap.size w1 w7) := Lib.hid ((B3.out.alloc B3.out.size _).grown hgrow (by have := B3.out.size; simp; omega) (fun j hj => (World.ownsRow.lt O3.out j hj).1))
          clear hown' hgrow O3 B3
          go_wp2
          exact ⟨⟨k + 1, by omega, by go_num, O7, B7⟩, by simp only [intOf]; omega⟩
        · have HN := Lib.hid (hNN.out (by rw [hpb, decide_eq_false hp]))
          clear hpb hYY hNN
          go_wp2_with fail
          refine C.out.mono ?_
          rintro e w3 ⟨rfl, b3⟩
          have O3 := Lib.hid (own_belowAll hO.out b3)
          have B3 := Lib.hid (bt hb.out b3)
          clear b3 hO hb C x0 x1 x2 x3 hbl0 NB
          go_wp2_with fail
          exact ⟨⟨k + 1, by omega, by go_num, Lib.hid (by rw [HN.out]; exact O3.out), B3⟩, by simp only [intOf]; omega⟩
      · have hltz : ¬ (k : Int) < (zs.length : Int) := by omega
        have hkn : Hid (k = zs.length) := Lib.hid (by omega)
        have O9 := Lib.hid (Own.le hO.out hw1.out)
        have B9 := Lib.hid (bt (bt HB.out M1.out) hb.out)
        have hE : Hid (Gw.stF (Gw.piB r c zs) zs.length = Gw.stF (Gw.piB r c zs) k) := Lib.hid (by rw [hkn.out])
        generalize Gw.stF (Gw.piB r c zs) k = l at *
        obtain ⟨qa, qcap, rfl⟩ := (Own.sl hO.out).form
        clear hO hb
        go_wp2_with fail
        go_ret2
        exact RIp.yes hE.out rfl O9.out B9.out
set_option maxHeartbeats 12800000 in
theorem specPeaksOf_any (w : World) (r c s : Int) (v : Value) (zs : List Int) (hv : Sl w v zs) (hl : zs.length ≤ 1048576) :
    Calls Tryd.prog 28 #[.agg #[.int .i64 r, .int .i64 c, .int .i64 s, v]] w (RIp w (Gw.pkL r c s zs) (Gw.vC r c s zs)) := by
  obtain ⟨i0, hi, hz0, hz1, hz2⟩ := info_parts info_i64
  have HB := Lib.hid (boxG_below w r c s v 28)
  have HK := Lib.hid (fun W (h : Below (boxG w r c s v 28).heap.size (boxG w r c s v 28) W) => (boxG_kept h : GC W w.heap.size r c s v))
  have C := Lib.hid (l09Ok_any (boxG w r c s v 28) w.heap.size r c s v zs (boxG_cells w r c s v 28) (hv.below HB.out) hl)
  have HV := Lib.hid hv
  clear hv
  cases hq : Gw.ok r c s zs with
  | false =>
    have E : Hid (Gw.pkL r c s zs = [] ∧ Gw.vC r c s zs = 1) := Lib.hid (Gw.wo_no hq)
    rw [hq] at C
    rw [E.out.1, E.out.2]
    clear hq E
    go_enter Tryd.func28, Tryd.ntmps28
    go_wp2_with fail
    refine C.out.mono ?_
    rintro e w1 ⟨rfl, b1⟩
    have B1 := Lib.hid (bt HB.out b1)
    clear b1
    go_wp2_with fail
    go_ret2
    exact RIp.no B1.out
  | true =>
    have G := (Gw.ok_iff _ _ _ _).1 hq
    have E : Hid (Gw.pkL r c s zs = Gw.stF (Gw.pkB r c zs) zs.length ∧ Gw.vC r c s zs = 0) := Lib.hid (Gw.wo_yes hq)
    rw [hq] at C
    rw [E.out.1, E.out.2]
    have hlen := G.len
    have GG := Lib.hid G
    have hrc : wrap64 (r * c) = (zs.length : Int) := by rw [← G.n]; exact IntWalk.wrap64_in _ ⟨by omega, by omega⟩
    have CN := Lib.hid (fun W (h : Below (boxG w r c s v 28).heap.size (boxG w r c s v 28) W) (k : Nat) (hk : k < zs.length) => l09Near_any W w.heap.size r c s k v (HK.out W h) G.r1 G.r2 G.c1 G.c2 (by omega) (by omega))
    have hnb : Hid (∀ k : Nat, ∀ x ∈ Gw.near r c k 8, 0 ≤ x ∧ x.toNat < zs.length) := Lib.hid (fun k x hx => by
      obtain ⟨i, _, h2, rfl⟩ := (Gw.near_mem 8).1 hx
      exact Gw.goC_lt h2 G.c1 G.n)
    have h0l : 0 < zs.length := by have := G.n; have := Fw.prod_le G.r1 G.r2 G.c1 G.c2; omega
    obtain ⟨b2, off, cap, hv2, -, -⟩ := HV.out.atI h0l
    have HV2 := Lib.hid hv2
    clear hv2
    have KA := Lib.hid (fun W (h : Below w.heap.size w W) (j : Nat) (hj : j < zs.length) => by
      obtain ⟨b3, off3, cap3, hn3, hb3, hc3⟩ := (HV.out.below h).atI h0l
      rw [HV2.out] at hn3
      simp only [Value.slice.injEq, Option.some.injEq, Addr.mk.injEq] at hn3
      obtain ⟨⟨rfl, rfl, -⟩, -, -⟩ := hn3
      exact (⟨by rw [hc3 j hj, List.getD_eq_getElem?_getD, List.getElem?_eq_getElem hj]; rfl, hb3⟩ : W.cell? ⟨b2, off + j, none⟩ = some (.int .i64 (zs.getD j 0)) ∧ b2 < W.heap.size))
    clear hq G E
    go_enter Tryd.func28, Tryd.ntmps28
    go_wp2_with fail
    refine C.out.mono ?_
    rintro e w1 ⟨rfl, b1⟩
    have N1 : Hid (Below (boxG w r c s v 28).heap.size (boxG w r c s v 28) (w1.alloc (.cells #[] 2))) := Lib.hid (Below.alloc b1 b1.size _)
    have O1 : Hid (Own w1.heap.size (w1.alloc (.cells #[] 2)) (.slice (some ⟨w1.heap.size, 0, none⟩) 0 0) (Gw.stF (Gw.pkB r c zs) 0)) := Lib.hid (World.ownsRow_lit _ _ _ (Nat.le_refl _) (by decide) (by decide))
    have hw1 : Hid (w.heap.size ≤ w1.heap.size) := Lib.hid (bt HB.out b1).size
    have B1 := Lib.hid ((Below.refl w1.heap.size w1).alloc (Nat.le_refl _) (.cells #[] 2))
    have M1 := Lib.hid b1
    clear b1 C
    go_wp2_with fail
    go_loopw [4, 5, 6, 7, 8] (fun q i _ _ _ wr => ∃ k : Nat, k ≤ zs.length ∧ i = .int .i64 (k : Int) ∧ Hid (Own w1.heap.size wr q (Gw.stF (Gw.pkB r c zs) k)) ∧ Hid (Below w1.heap.size w1 wr)) (fun _ i _ _ _ _ => zs.length - (intOf i).toNat)
    case atStart => exact ⟨0, by omega, rfl, O1, B1⟩
    case round =>
      obtain ⟨k, hk, rfl, hO, hb⟩ := hrel
      clear O1 B1 N1
      have hlm : (Gw.stF (Gw.pkB r c zs) k).length ≤ 64 := Nat.le_trans (Gw.stF_len _ _) (by omega)
      have NB := Lib.hid (bt M1.out hb.out)
      obtain ⟨x0, x1, x2, x3⟩ := (HK.out _ NB.out).four
      have hbl0 := (HK.out _ NB.out).lt
      by_cases hlt : k < zs.length
      · have hltz : (k : Int) < (zs.length : Int) := by omega
        have hYY := Lib.hid (fun h => Gw.stF_yes (p := Gw.pkB r c zs) (n := k) h)
        have hNN := Lib.hid (fun h => Gw.stF_no (p := Gw.pkB r c zs) (n := k) h)
        generalize Gw.stF (Gw.pkB r c zs) k = l at *
        have C := Lib.hid (CN.out wr NB.out k hlt)
        have hpb := Gw.pkB_near r c zs k
        have hnl := Gw.near_len r c k 8 (Nat.le_refl _)
        have hnb2 := Lib.hid (hnb.out k)
        generalize Gw.near r c k 8 = L at *
        have HPB := Lib.hid hpb
        clear hpb
        go_wp2_with fail
        refine C.out.mono ?_
        rintro e w4 ⟨ud, rfl, od, b4⟩
        have O4 := Lib.hid (own_belowAll hO.out b4)
        have B4 := Lib.hid (bt hb.out b4)
        have SD := Lib.hid (Own.sl od)
        obtain ⟨da, dcap, rfl⟩ := (Own.sl od).form
        clear b4 od hO hb C NB x0 x1 x2 x3 hbl0
        go_wp2_with fail
        go_loopw [7, 8] (fun h i wq => ∃ m : Nat, m ≤ L.length ∧ i = .int .i64 (m : Int) ∧ h = .bool ((L.take m).all fun n => decide (zs.getD n.toNat 0 ≤ zs.getD k 0)) ∧ Hid (Below w4.heap.size w4 wq)) (fun _ i _ => L.length - (intOf i).toNat)
        case atStart => exact ⟨0, Nat.zero_le _, rfl, rfl, Lib.hid (Below.refl _ _)⟩
        case round =>
          obtain ⟨m, hm, rfl, rfl, hbq⟩ := hrel
          by_cases hmt : m < L.length
          · have hmz : (m : Int) < (L.length : Int) := by omega
            obtain ⟨b5, off5, cap5, hn5, hbl5, hcc5⟩ := (SD.out.below hbq.out).atI hmt
            simp only [Value.slice.injEq] at hn5
            obtain ⟨rfl, -, rfl⟩ := hn5
            have c5 := hcc5 m hmt
            obtain ⟨e1, e2⟩ := hnb2.out L[m] (List.getElem_mem hmt)
            have hst : Hid ((L.take (m + 1)).all (fun n => decide (zs.getD n.toNat 0 ≤ zs.getD k 0)) = ((L.take m).all (fun n => decide (zs.getD n.toNat 0 ≤ zs.getD k 0)) && decide (zs.getD L[m].toNat 0 ≤ zs.getD k 0))) := Lib.hid (Gw.all_take hmt)
            clear hcc5
            obtain ⟨N, hN⟩ : ∃ N : Nat, L[m] = (N : Int) := ⟨L[m].toNat, (Int.toNat_of_nonneg e1).symm⟩
            rw [hN] at c5 hst e2
            rw [Int.toNat_natCast] at hst e2
            have NQ := bt (bt (bt HB.out M1.out) B4.out) hbq.out
            obtain ⟨a1, ab⟩ := KA.out _ NQ N e2
            obtain ⟨a2, -⟩ := KA.out _ NQ k hlt
            obtain ⟨x0, x1, x2, x3⟩ := (HK.out _ (bt (bt M1.out B4.out) hbq.out)).four
            have hbl0 := (HK.out _ (bt (bt M1.out B4.out) hbq.out)).lt
            rw [HV2.out] at x3
            have hNz : (N : Int) < (zs.length : Int) := by omega
            clear hN e1 NQ
            cases hh : (L.take m).all (fun n => decide (zs.getD n.toNat 0 ≤ zs.getD k 0)) with
            | false =>
              have hs2 : Hid ((L.take (m + 1)).all (fun n => decide (zs.getD n.toNat 0 ≤ zs.getD k 0)) = false) := Lib.hid (by rw [hst.out, hh]; rfl)
              clear hh hst
              go_wp2_with fail
              go_quiet (fail)
              have BQ := Lib.hid (bt hbq.out (below_drewW wr nq))
              go_wp2_with fail
              exact ⟨⟨m + 1, by omega, by go_num, by rw [hs2.out], BQ⟩, by simp only [intOf]; omega⟩
            | true =>
              have hs2 : Hid ((L.take (m + 1)).all (fun n => decide (zs.getD n.toNat 0 ≤ zs.getD k 0)) = decide (zs.getD N 0 ≤ zs.getD k 0)) := Lib.hid (by rw [hst.out, hh]; rfl)
              clear hh hst
              generalize zs.getD N 0 = zn at *
              generalize zs.getD k 0 = zk at *
              go_wp2_with fail
              go_quiet (fail)
              have BQ := Lib.hid (bt hbq.out (below_drewW wr nq))
              go_wp2_with fail
              exact ⟨⟨m + 1, by omega, by go_num, by rw [hs2.out], BQ⟩, by simp only [intOf]; omega⟩
          · have hmz : ¬ (m : Int) < (L.length : Int) := by omega
            have hds : Hid (L.take m = L) := Lib.hid (List.take_of_length_le (by omega))
            have O6 := Lib.hid (own_belowAll O4.out hbq.out)
            have B6 := Lib.hid (bt B4.out hbq.out)
            rw [hds.out]
            cases hh : L.all (fun n => decide (zs.getD n.toNat 0 ≤ zs.getD k 0)) with
            | true =>
              have HY := Lib.hid (hYY.out (by rw [HPB.out, hh]))
              clear hh hYY hNN HPB O4 B4 hbq hds
              go_wp2_with (at_builtin; refine wpList_append_own _ rfl _ _ 22 rfl w1.heap.size 2 i0 (.int .i64 0) 1 8 Tryd.underlying22 hi hz0 hz1 hz2 rfl (by decide) _ _ _ rfl (own_belowAll O6.out ((Below.refl _ _).alloc (Nat.le_refl _) _)) ⟨wr.heap.size, 0, none⟩ 1 1 [.int .i64 (k : Int)] rfl rfl (row_new _ [_] _) (iv_cell [(k : Int)]) ?c3 ?c4 ?c5 ?_)
              case c3 => unfold maxLen; omega
              case c4 => omega
              case c5 => have := B6.out.size; first | omega | (simp; omega)
              intro v' w7 hown' hgrow _
              have O7 : Hid (Own w1.heap.size w7 v' (Gw.stF (Gw.pkB r c zs) (k + 1))) := Lib.hid (by rw [HY.out]; unfold Own; rw [iv_append, List.length_append]; exact hown')
              have B7 : Hid (Below w1.heap.size w1 w7) := Lib.hid ((B6.out.alloc B6.out.size _).grown hgrow (by have := B6.out.size; simp; omega) (fun j hj => (World.ownsRow.lt O6.out j hj).1))
              clear hown' hgrow O6 B6
              go_wp2
              exact ⟨⟨k + 1, by omega, by go_num, O7, B7⟩, by simp only [intOf]; omega⟩
            | false =>
              have HN := Lib.hid (hNN.out (by rw [HPB.out, hh]))
              clear hh hYY hNN HPB O4 B4 hbq hds
              go_wp2_with fail
              exact ⟨⟨k + 1, by omega, by go_num, Lib.hid (by rw [HN.out]; exact O6.out), B6⟩, by simp only [intOf]; omega⟩
      · have hltz : ¬ (k : Int) < (zs.length : Int) := by omega
        have hkn : Hid (k = zs.length) := Lib.hid (by omega)
        have O9 := Lib.hid (Own.le hO.out hw1.out)
        have B9 := Lib.hid (bt (bt HB.out M1.out) hb.out)
        have hE : Hid (Gw.stF (Gw.pkB r c zs) zs.length = Gw.stF (Gw.pkB r c zs) k) := Lib.hid (by rw [hkn.out])
        generalize Gw.stF (Gw.pkB r c zs) k = l at *
        obtain ⟨qa, qcap, rfl⟩ := (Own.sl hO.out).form
        clear hO hb
        go_wp2_with fail
        go_ret2
        exact RIp.yes hE.out rfl O9.out B9.out
end Go.Proofs.YthcmpalbhaefbaaDoor
