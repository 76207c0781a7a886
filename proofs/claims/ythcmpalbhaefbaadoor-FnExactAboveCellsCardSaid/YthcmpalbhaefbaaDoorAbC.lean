/-
  The cells above others, by the model (chapter 11). No condition of its own.
-/
import Derived.Test.YthcmpalbhaefbaaDoorAbA
namespace Go.Proofs.YthcmpalbhaefbaaDoor
open Go.RowKit Go.Shelf Go.Deep
set_option linter.unusedVariables false
set_option maxRecDepth 100000
namespace Gw
theorem any_take {l : List Int} {p : Int → Bool} {k : Nat} (h : k < l.length) : (l.take (k + 1)).any p = ((l.take k).any p || p l[k]) := by
  rw [List.take_succ_eq_append_getElem h, List.any_append]; simp
end Gw
set_option maxHeartbeats 12800000 in
theorem specAboveCells_any (w : World) (r c s : Int) (v : Value) (zs : List Int) (u : Value) (ks : List Int) (hv : Sl w v zs) (hl : zs.length ≤ 1048576) (hu : Sl w u ks) (hkl : ks.length ≤ 1048576) :
    Calls Tryd.prog 36 #[.agg #[.int .i64 r, .int .i64 c, .int .i64 s, v], u] w (RIp w (Gw.abL r c s zs ks) (Gw.rqC r c s zs ks)) := by
  obtain ⟨i0, hi, hz0, hz1, hz2⟩ := info_parts info_i64
  have HB := Lib.hid (boxG_below w r c s v 28)
  have HK := Lib.hid (fun W (h : Below (boxG w r c s v 28).heap.size (boxG w r c s v 28) W) => (boxG_kept h : GC W w.heap.size r c s v))
  have C := Lib.hid (l11Ask_any (boxG w r c s v 28) w.heap.size r c s v u zs ks (boxG_cells w r c s v 28) (hv.below HB.out) hl (hu.below HB.out) hkl)
  rw [show odC (Gw.ok r c s zs) true (Rl.ri 0 (zs.length - 1) ks) = Gw.rqC r c s zs ks from rfl] at C
  have HV := Lib.hid hv
  have HU := Lib.hid hu
  obtain ⟨ua, ucap, rfl⟩ := hu.form
  clear hv hu
  by_cases hz : Gw.rqC r c s zs ks = 0
  · obtain ⟨G, hup, hx, hk64⟩ := Gw.rq_0 hz
    have E := Lib.hid (Gw.ab_yes hz)
    have HZ := Lib.hid hz
    have hlen := G.len
    have GG := Lib.hid G
    have hrc : wrap64 (r * c) = (zs.length : Int) := by rw [← G.n]; exact IntWalk.wrap64_in _ ⟨by omega, by omega⟩
    have CD := Lib.hid (fun W (h : Below (boxG w r c s v 28).heap.size (boxG w r c s v 28) W) (k : Nat) (hk : k < zs.length) => l09Descent_any W w.heap.size r c s v zs k (HK.out W h) (HV.out.below (bt HB.out h)) G hk)
    have CH := Lib.hid (fun W (h : Below w.heap.size w W) (x : Int) => l00Has_any W (.slice ua ks.length ucap) ks x (HU.out.below h) hkl)
    rw [E.out, hz]
    rw [hz] at C
    clear hup hx G hk64 hz E
    go_enter Tryd.func36, Tryd.ntmps36
    go_wp2_with fail
    refine C.out.mono ?_
    rintro e w1 ⟨rfl, b1⟩
    have N1 : Hid (Below (boxG w r c s v 28).heap.size (boxG w r c s v 28) (w1.alloc (.cells #[] 2))) := Lib.hid (Below.alloc b1 b1.size _)
    have O1 : Hid (Own w1.heap.size (w1.alloc (.cells #[] 2)) (.slice (some ⟨w1.heap.size, 0, none⟩) 0 0) (Gw.stF (Gw.abB r c s zs ks) 0)) := Lib.hid (World.ownsRow_lit _ _ _ (Nat.le_refl _) (by decide) (by decide))
    have hw1 : Hid (w.heap.size ≤ w1.heap.size) := Lib.hid (bt HB.out b1).size
    have B1 := Lib.hid ((Below.refl w1.heap.size w1).alloc (Nat.le_refl _) (.cells #[] 2))
    have M1 := Lib.hid b1
    clear b1 C
    go_wp2_with fail
    go_loopw [7, 8, 9, 10, 11] (fun q i _ _ _ wr => ∃ k : Nat, k ≤ zs.length ∧ i = .int .i64 (k : Int) ∧ Hid (Own w1.heap.size wr q (Gw.stF (Gw.abB r c s zs ks) k)) ∧ Hid (Below w1.heap.size w1 wr)) (fun _ i _ _ _ _ => zs.length - (intOf i).toNat)
    case atStart => exact ⟨0, by omega, rfl, O1, B1⟩
    case round =>
      obtain ⟨k, hk, rfl, hO, hb⟩ := hrel
      clear O1 B1 N1
      have hlm : (Gw.stF (Gw.abB r c s zs ks) k).length ≤ 64 := Nat.le_trans (Gw.stF_len _ _) (by omega)
      have NB := Lib.hid (bt M1.out hb.out)
      obtain ⟨x0, x1, x2, x3⟩ := (HK.out _ NB.out).four
      have hbl0 := (HK.out _ NB.out).lt
      by_cases hlt : k < zs.length
      · have hltz : (k : Int) < (zs.length : Int) := by omega
        have HC1 := Lib.hid (CH.out wr (bt HB.out NB.out) (k : Int))
        have hab : Gw.abB r c s zs ks k = (!(ks.any fun y => y == (k : Int)) && (Gw.dsc r c s zs 5000 k).any fun x => ks.any fun y => y == x) := rfl
        have hYY := Lib.hid (fun h => Gw.stF_yes (p := Gw.abB r c s zs ks) (n := k) h)
        have hNN := Lib.hid (fun h => Gw.stF_no (p := Gw.abB r c s zs ks) (n := k) h)
        generalize Gw.stF (Gw.abB r c s zs ks) k = l at *
        cases hb1 : ks.any fun y => y == (k : Int) with
        | true =>
          rw [hb1] at HC1 hab
          have HN := Lib.hid (hNN.out (by rw [hab]; rfl))
          clear hab hb1 hYY hNN
          go_wp2_with fail
          refine HC1.out.mono ?_
          rintro e w3 ⟨rfl, b3⟩
          have O3 := Lib.hid (own_belowAll hO.out b3)
          have B3 := Lib.hid (bt hb.out b3)
          clear b3 hO hb HC1
          go_wp2_with fail
          exact ⟨⟨k + 1, by omega, by go_num, Lib.hid (by rw [HN.out]; exact O3.out), B3⟩, by simp only [intOf]; omega⟩
        | false =>
          rw [hb1, Bool.not_false, Bool.true_and] at hab
          rw [hb1] at HC1
          have hdl := Gw.dsc_len r c s zs 5000 k
          have CD2 := Lib.hid (fun W h => CD.out W h k hlt)
          clear hb1
          generalize Gw.dsc r c s zs 5000 k = ds at *
          have HAB := Lib.hid hab
          clear hab
          go_wp2_with fail
          refine HC1.out.mono ?_
          rintro e w3 ⟨rfl, b3⟩
          have O3 := Lib.hid (own_belowAll hO.out b3)
          have B3 := Lib.hid (bt hb.out b3)
          clear b3 hO hb HC1 x0 x1 x2 x3 hbl0
          go_wp2_with fail
          refine (CD2.out w3 (bt M1.out B3.out)).mono ?_
          rintro e w4 ⟨ud, rfl, od, b4⟩
          have O4 := Lib.hid (own_belowAll O3.out b4)
          have B4 := Lib.hid (bt B3.out b4)
          have SD := Lib.hid (Own.sl od)
          obtain ⟨da, dcap, rfl⟩ := (Own.sl od).form
          clear b4 od O3 B3 CD2 NB
          go_wp2_with fail
          go_loopw [10, 11] (fun h i wq => ∃ m : Nat, m ≤ ds.length ∧ i = .int .i64 (m : Int) ∧ h = .bool ((ds.take m).any fun x => ks.any fun y => y == x) ∧ Hid (Below w4.heap.size w4 wq)) (fun _ i _ => ds.length - (intOf i).toNat)
          case atStart => exact ⟨0, Nat.zero_le _, rfl, rfl, Lib.hid (Below.refl _ _)⟩
          case round =>
            obtain ⟨m, hm, rfl, rfl, hbq⟩ := hrel
            by_cases hmt : m < ds.length
            · have hmz : (m : Int) < (ds.length : Int) := by omega
              obtain ⟨b5, off5, cap5, hn5, hbl5, hcc5⟩ := (SD.out.below hbq.out).atI hmt
              simp only [Value.slice.injEq] at hn5
              obtain ⟨rfl, -, rfl⟩ := hn5
              have c5 := hcc5 m hmt
              have hst : Hid ((ds.take (m + 1)).any (fun x => ks.any fun y => y == x) = ((ds.take m).any (fun x => ks.any fun y => y == x) || ks.any fun y => y == ds[m])) := Lib.hid (Gw.any_take hmt)
              have CH5 := Lib.hid (fun W h => CH.out W h ds[m])
              clear hcc5
              generalize ds[m] = x at *
              cases hh : (ds.take m).any (fun x => ks.any fun y => y == x) with
              | true =>
                have hs2 : Hid ((ds.take (m + 1)).any (fun x => ks.any fun y => y == x) = true) := Lib.hid (by rw [hst.out, hh]; rfl)
                clear hh hst
                go_wp2_with fail
                exact ⟨⟨m + 1, by omega, by go_num, by rw [hs2.out], hbq⟩, by simp only [intOf]; omega⟩
              | false =>
                have hs2 : Hid ((ds.take (m + 1)).any (fun x => ks.any fun y => y == x) = ks.any fun y => y == x) := Lib.hid (by rw [hst.out, hh]; rfl)
                clear hh hst
                go_wp2_with fail
                refine (CH5.out _ (bt (bt (bt HB.out M1.out) B4.out) hbq.out)).mono ?_
                rintro e w6 ⟨rfl, b6⟩
                have B6 := Lib.hid (bt hbq.out b6)
                clear b6 hbq
                go_wp2_with fail
                exact ⟨⟨m + 1, by omega, by go_num, by rw [hs2.out], B6⟩, by simp only [intOf]; omega⟩
            · have hmz : ¬ (m : Int) < (ds.length : Int) := by omega
              have hds : Hid (ds.take m = ds) := Lib.hid (List.take_of_length_le (by omega))
              have O6 := Lib.hid (own_belowAll O4.out hbq.out)
              have B6 := Lib.hid (bt B4.out hbq.out)
              rw [hds.out]
              cases hh : ds.any (fun x => ks.any fun y => y == x) with
              | true =>
                have HY := Lib.hid (hYY.out (by rw [HAB.out, hh]))
                clear hh hYY hNN HAB O4 B4 hbq hds
                go_wp2_with (at_builtin; refine wpList_append_own _ rfl _ _ 22 rfl w1.heap.size 2 i0 (.int .i64 0) 1 8 Tryd.underlying22 hi hz0 hz1 hz2 rfl (by decide) _ _ _ rfl (own_belowAll O6.out ((Below.refl _ _).alloc (Nat.le_refl _) _)) ⟨wr.heap.size, 0, none⟩ 1 1 [.int .i64 (k : Int)] rfl rfl (row_new _ [_] _) (iv_cell [(k : Int)]) ?c3 ?c4 ?c5 ?_)
                case c3 => unfold maxLen; omega
                case c4 => omega
                case c5 => have := B6.out.size; first | omega | (simp; omega)
                intro v' w7 hown' hgrow _
                have O7 : Hid (Own w1.heap.size w7 v' (Gw.stF (Gw.abB r c s zs ks) (k + 1))) := Lib.hid (by rw [HY.out]; unfold Own; rw [iv_append, List.length_append]; exact hown')
                have B7 : Hid (Below w1.heap.size w1 w7) := Lib.hid ((B6.out.alloc B6.out.size _).grown hgrow (by have := B6.out.size; simp; omega) (fun j hj => (World.ownsRow.lt O6.out j hj).1))
                clear hown' hgrow O6 B6
                go_wp2
                exact ⟨⟨k + 1, by omega, by go_num, O7, B7⟩, by simp only [intOf]; omega⟩
              | false =>
                have HN := Lib.hid (hNN.out (by rw [HAB.out, hh]))
                clear hh hYY hNN HAB O4 B4 hbq hds
                go_wp2_with fail
                exact ⟨⟨k + 1, by omega, by go_num, Lib.hid (by rw [HN.out]; exact O6.out), B6⟩, by simp only [intOf]; omega⟩
      · have hltz : ¬ (k : Int) < (zs.length : Int) := by omega
        have hkn : Hid (k = zs.length) := Lib.hid (by omega)
        have O9 := Lib.hid (Own.le hO.out hw1.out)
        have B9 := Lib.hid (bt (bt HB.out M1.out) hb.out)
        have hE : Hid (Gw.stF (Gw.abB r c s zs ks) zs.length = Gw.stF (Gw.abB r c s zs ks) k) := Lib.hid (by rw [hkn.out])
        generalize Gw.stF (Gw.abB r c s zs ks) k = l at *
        obtain ⟨qa, qcap, rfl⟩ := (Own.sl hO.out).form
        clear hO hb
        go_wp2_with fail
        go_ret2
        exact RIp.yes hE.out rfl O9.out B9.out
  · have hcb : (Gw.rqC r c s zs ks != 0) = true := bne_iff_ne.2 hz
    have E := Lib.hid (Gw.ab_no hz)
    clear hz
    rw [E.out]
    generalize Gw.rqC r c s zs ks = code at *
    go_enter Tryd.func36, Tryd.ntmps36
    go_wp2_with fail
    refine C.out.mono ?_
    rintro e w1 ⟨rfl, b1⟩
    have B1 := Lib.hid (bt HB.out b1)
    clear b1
    go_wp2_with fail
    go_ret2
    exact RIp.no B1.out
end Go.Proofs.YthcmpalbhaefbaaDoor
