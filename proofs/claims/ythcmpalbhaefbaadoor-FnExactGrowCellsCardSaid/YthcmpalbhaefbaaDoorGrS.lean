/-
  Cells and those next to them of nearly the same height, by the model (chapter 11). No condition of its own.
-/
import Derived.Test.YthcmpalbhaefbaaDoorGrM
import Derived.Test.YthcmpalbhaefbaaDoorGn
import Derived.Test.YthcmpalbhaefbaaDoorRlH
import Derived.Test.YthcmpalbhaefbaaDoorCd
namespace Go.Proofs.YthcmpalbhaefbaaDoor
open Go.RowKit Go.Shelf Go.Deep
set_option linter.unusedVariables false
set_option maxRecDepth 100000
namespace Ptq
theorem ins_len (n : Int) : ∀ zs : List Int, (ins n zs).length ≤ zs.length + 1
  | [] => by simp [ins]
  | z :: zs => by
    have ih := ins_len n zs
    rw [ins_cons]
    split
    · split <;> simp
    · simp; omega
end Ptq
namespace Gw
theorem gwN_len {zs : List Int} {most : Int} {k : Nat} : ∀ (l out : List Int), (gwN zs most k out l).length ≤ out.length + l.length
  | [], out => by simp [gwN]
  | n :: l, out => by
    have ih := gwN_len (zs := zs) (most := most) (k := k) l (if nbB zs most k n.toNat = true then Ptq.pt n out else out)
    have h : (if nbB zs most k n.toNat = true then Ptq.pt n out else out).length ≤ out.length + 1 := by
      split
      · rw [Ptq.pt_ins]; exact Ptq.ins_len n out
      · omega
    show (gwN zs most k (if nbB zs most k n.toNat = true then Ptq.pt n out else out) l).length ≤ _
    rw [List.length_cons]
    omega
end Gw
set_option maxHeartbeats 400000 in
theorem maxG_any (a b : Int) (w : World) :
    Calls Tryd.prog 68 #[.int .i64 a, .int .i64 b] w fun e w' => e = .returned (.int .i64 (max a b)) ∧ w = w' := by
  by_cases h : b < a
  · have hr : Hid (max a b = a) := Lib.hid (by omega)
    go_enter Tryd.func68, Tryd.ntmps68
    go_wp2
    go_ret
    exact ⟨ret_int hr.out.symm, rfl⟩
  · have hr : Hid (max a b = b) := Lib.hid (by omega)
    go_enter Tryd.func68, Tryd.ntmps68
    go_wp2
    go_ret
    exact ⟨ret_int hr.out.symm, rfl⟩
set_option maxHeartbeats 12800000 in
theorem specGrowCells_any (w : World) (r c s : Int) (v : Value) (zs : List Int) (u : Value) (ks : List Int) (most : Int) (hv : Sl w v zs) (hl : zs.length ≤ 1048576) (hu : IAt w u ks) (hkl : ks.length ≤ 1048576) :
    Calls Tryd.prog 34 #[.agg #[.int .i64 r, .int .i64 c, .int .i64 s, v], u, .int .i64 most] w (RIp w (Gw.gwL r c s zs ks most) (Gw.gwC r c s zs ks most)) := by
  have HB := Lib.hid (boxG_below w r c s v 28)
  have HK := Lib.hid (fun W (h : Below (boxG w r c s v 28).heap.size (boxG w r c s v 28) W) => (boxG_kept h : GC W w.heap.size r c s v))
  have C := Lib.hid (l09Ok_any (boxG w r c s v 28) w.heap.size r c s v zs (boxG_cells w r c s v 28) (hv.below HB.out) hl)
  have CI := Lib.hid (fun W => l00In_any most 0 5000 W)
  have HV := Lib.hid hv
  have HU := Lib.hid hu.sl
  have CO := Lib.hid (fun W (h : Below w.heap.size w W) => l00Own_any W u ks (hu.all h) hkl)
  obtain ⟨ua, ucap, rfl⟩ := hu.sl.form
  clear hv hu
  cases hq : Gw.ok r c s zs with
  | false =>
    rw [hq] at C
    have hc : Gw.gwC r c s zs ks most = 1 := by unfold Gw.gwC; rw [hq]; cases Ar.inB 0 most 5000 <;> cases Rl.ri 0 (zs.length - 1) ks <;> rfl
    rw [Gw.gw_no (by rw [hc]; decide), hc]
    clear hq hc
    go_enter Tryd.func34, Tryd.ntmps34
    go_wp2_with fail
    refine C.out.mono ?_
    rintro e w1 ⟨rfl, b1⟩
    have B1 := Lib.hid (bt HB.out b1)
    clear b1 C
    go_wp2_with fail
    go_ret2
    exact RIp.no B1.out
  | true =>
    rw [hq] at C
    have G := (Gw.ok_iff _ _ _ _).1 hq
    cases hm : Ar.inB 0 most 5000 with
    | false =>
      rw [hm] at CI
      have hc : Gw.gwC r c s zs ks most = 2 := by unfold Gw.gwC; rw [hq, hm]; cases Rl.ri 0 (zs.length - 1) ks <;> rfl
      rw [Gw.gw_no (by rw [hc]; decide), hc]
      clear hq hm hc G
      go_enter Tryd.func34, Tryd.ntmps34
      go_wp2_with fail
      refine C.out.mono ?_
      rintro e w1 ⟨rfl, b1⟩
      have B1 := Lib.hid (bt HB.out b1)
      clear b1 C
      go_wp2_with fail
      refine (CI.out _).mono ?_
      rintro e w' ⟨rfl, rfl⟩
      go_wp2_with fail
      go_ret2
      exact RIp.no B1.out
    | true =>
      rw [hm] at CI
      have CR := Lib.hid (fun W (h : Below (boxG w r c s v 28).heap.size (boxG w r c s v 28) W) => l11Cells_any W w.heap.size r c s v (.slice ua ks.length ucap) ks (HK.out W h) G.r1 G.r2 G.c1 G.c2 (HU.out.below (bt HB.out h)) hkl)
      rw [← G.n] at CR
      cases hri : Rl.ri 0 (zs.length - 1) ks with
      | false =>
        rw [hri] at CR
        have hc : Gw.gwC r c s zs ks most = 7 := by unfold Gw.gwC; rw [hq, hm, hri]; rfl
        rw [Gw.gw_no (by rw [hc]; decide), hc]
        clear hq hm hc G hri
        go_enter Tryd.func34, Tryd.ntmps34
        go_wp2_with fail
        refine C.out.mono ?_
        rintro e w1 ⟨rfl, b1⟩
        have N1 := Lib.hid b1
        clear b1 C
        go_wp2_with fail
        refine (CI.out _).mono ?_
        rintro e w' ⟨rfl, rfl⟩
        go_wp2_with fail
        refine (CR.out _ N1.out).mono ?_
        rintro e w2 ⟨rfl, b2⟩
        have B2 := Lib.hid (bt (bt HB.out N1.out) b2)
        clear b2 CR
        go_wp2_with fail
        go_ret2
        exact RIp.no B2.out
      | true =>
        rw [hri] at CR
        have hc : Gw.gwC r c s zs ks most = 0 := by unfold Gw.gwC; rw [hq, hm, hri]; rfl
        obtain ⟨-, hup, hx, hk64, m0, m1⟩ := Gw.gw_0 hc
        rw [Gw.gw_yes hc, hc]
        have hlen := G.len
        have hz0 : 0 < zs.length := by
          have h1 := G.n; have h2 := G.r1; have h3 := G.c1
          have : 0 < r * c := Int.mul_pos (by omega) (by omega)
          omega
        have HX := Lib.hid hx
        have CN := Lib.hid (fun W (h : Below (boxG w r c s v 28).heap.size (boxG w r c s v 28) W) (k : Int) (k1 : 0 ≤ k) (k2 : k ≤ 63) => l09Near_any W w.heap.size r c s k v (HK.out W h) G.r1 G.r2 G.c1 G.c2 k1 k2)
        have hnb := Lib.hid (fun (k x : Int) (h : x ∈ Gw.near r c k 8) => (Gw.near_bd G.c1 G.n h : 0 ≤ x ∧ x < zs.length))
        have HL := Lib.hid (fun l => Gw.gwA_len (most := most) G hup hx l)
        have hgb := Lib.hid (fun j => Gw.getD_bd G.h j)
        have hnl := Lib.hid (fun k => Gw.near_len r c k 8 (Nat.le_refl _))
        obtain ⟨b2, off, cap, rfl, -, -⟩ := HV.out.atI hz0
        have KA := Lib.hid (fun W (h : Below w.heap.size w W) (j : Nat) (hj : j < zs.length) => by
          obtain ⟨b3, off3, cap3, hn3, hb3, hc3⟩ := (HV.out.below h).atI hz0
          simp only [Value.slice.injEq, Option.some.injEq, Addr.mk.injEq] at hn3
          obtain ⟨⟨rfl, rfl, -⟩, -, -⟩ := hn3
          exact (⟨by rw [hc3 j hj, List.getD_eq_getElem?_getD, List.getElem?_eq_getElem hj]; rfl, hb3⟩ : W.cell? ⟨b2, off + j, none⟩ = some (.int .i64 (zs.getD j 0)) ∧ b2 < W.heap.size))
        clear hq hm hc G hri hup hx
        go_enter Tryd.func34, Tryd.ntmps34
        go_wp2_with fail
        refine C.out.mono ?_
        rintro e w1 ⟨rfl, b1⟩
        have N1 := Lib.hid b1
        clear b1 C
        go_wp2_with fail
        refine (CI.out _).mono ?_
        rintro e w' ⟨rfl, rfl⟩
        go_wp2_with fail
        refine (CR.out _ N1.out).mono ?_
        rintro e w2 ⟨rfl, b2⟩
        have N2 := Lib.hid (bt N1.out b2)
        clear b2 CR N1
        go_wp2_with fail
        refine (CO.out _ (bt HB.out N2.out)).mono ?_
        rintro e w3 ⟨g, ocap, rfl, o3, b3⟩
        have O3 : Hid (Own w2.heap.size w3 (.slice (some ⟨g, 0, none⟩) ks.length ocap) (Gw.gwA r c zs most ks (ks.take 0))) := Lib.hid (by rw [List.take_zero]; exact o3)
        have B3 := Lib.hid b3
        have hw2 : Hid (w.heap.size ≤ w2.heap.size) := Lib.hid (bt HB.out N2.out).size
        clear o3 b3 CO CI
        go_wp2_with fail
        go_loopw [8, 9, 10, 11, 12] (fun q i _ _ _ wr => ∃ j : Nat, j ≤ ks.length ∧ i = .int .i64 (j : Int) ∧ Hid (Own w2.heap.size wr q (Gw.gwA r c zs most ks (ks.take j))) ∧ Hid (Below w2.heap.size w2 wr)) (fun _ i _ _ _ _ => ks.length - (intOf i).toNat)
        case atStart => exact ⟨0, Nat.zero_le _, rfl, O3, B3⟩
        case round =>
          obtain ⟨j, hj, rfl, hO, hb⟩ := hrel
          clear O3 B3
          have NB := Lib.hid (bt N2.out hb.out)
          have hOl := HL.out (ks.take j)
          by_cases hlt : j < ks.length
          · have hltz : (j : Int) < (ks.length : Int) := by omega
            obtain ⟨bu, offu, capu, hnu, hblu, hccu⟩ := (HU.out.below (bt HB.out NB.out)).atI hlt
            simp only [Value.slice.injEq] at hnu
            obtain ⟨rfl, -, rfl⟩ := hnu
            have c0 := hccu j hlt
            have KU := Lib.hid (fun W (h : Below w.heap.size w W) => by
              obtain ⟨b3, off3, cap3, hn3, hb3, hc3⟩ := (HU.out.below h).atI hlt
              simp only [Value.slice.injEq, Option.some.injEq, Addr.mk.injEq] at hn3
              obtain ⟨⟨rfl, rfl, -⟩, -, -⟩ := hn3
              exact (⟨hc3 j hlt, hb3⟩ : W.cell? ⟨bu, offu + j, none⟩ = some (.int .i64 ks[j]) ∧ bu < W.heap.size))
            obtain ⟨q0, q1⟩ := HX.out ks[j] (List.getElem_mem hlt)
            have hst := Lib.hid (Gw.gwA_take (r := r) (c := c) (zs := zs) (most := most) (out := ks) hlt)
            clear hccu
            obtain ⟨kn, hkn⟩ : ∃ kn : Nat, ks[j] = (kn : Int) := ⟨ks[j].toNat, (Int.toNat_of_nonneg q0).symm⟩
            rw [hkn] at c0 KU hst q0 q1
            rw [Int.toNat_natCast] at hst
            have CNK := Lib.hid (CN.out wr NB.out (kn : Int) (by omega) (by omega))
            have hbK := Lib.hid (fun x h => hnb.out (kn : Int) x h)
            have hlK := hnl.out (kn : Int)
            clear hkn
            generalize Gw.gwA r c zs most ks (ks.take j) = O at *
            generalize Gw.near r c (kn : Int) 8 = L at *
            go_wp2_with fail
            refine CNK.out.mono ?_
            rintro e w5 ⟨un, rfl, on, b5⟩
            have O5 := Lib.hid (own_belowAll hO.out b5)
            have B5 := Lib.hid (bt hb.out b5)
            have SN := Lib.hid (Own.sl on)
            obtain ⟨na, ncap, rfl⟩ := (Own.sl on).form
            clear b5 on hO hb CNK c0
            go_wp2_with fail
            go_loopw [8, 11, 12] (fun q i _ wq => ∃ m : Nat, m ≤ L.length ∧ i = .int .i64 (m : Int) ∧ Hid (Own w2.heap.size wq q (Gw.gwN zs most kn O (L.take m))) ∧ Hid (Below w5.heap.size w5 wq)) (fun _ i _ _ => L.length - (intOf i).toNat)
            case atStart => exact ⟨0, Nat.zero_le _, rfl, O5, Lib.hid (Below.refl _ _)⟩
            case round =>
              obtain ⟨m, hm, rfl, hOq, hbq⟩ := hrel
              have hPl := Gw.gwN_len (zs := zs) (most := most) (k := kn) (L.take m) O
              rw [List.length_take_of_le hm] at hPl
              by_cases hmt : m < L.length
              · have hmz : (m : Int) < (L.length : Int) := by omega
                obtain ⟨b6, off6, cap6, hn6, hbl6, hcc6⟩ := (SN.out.below hbq.out).atI hmt
                simp only [Value.slice.injEq] at hn6
                obtain ⟨rfl, -, rfl⟩ := hn6
                have c6 := hcc6 m hmt
                have KN := Lib.hid (fun W (h : Below w5.heap.size w5 W) => by
                  obtain ⟨b3, off3, cap3, hn3, hb3, hc3⟩ := (SN.out.below h).atI hmt
                  simp only [Value.slice.injEq, Option.some.injEq, Addr.mk.injEq] at hn3
                  obtain ⟨⟨rfl, rfl, -⟩, -, -⟩ := hn3
                  exact (⟨hc3 m hmt, hb3⟩ : W.cell? ⟨b6, off6 + m, none⟩ = some (.int .i64 L[m]) ∧ b6 < W.heap.size))
                obtain ⟨e1, e2⟩ := hbK.out L[m] (List.getElem_mem hmt)
                have hsn := Lib.hid (Gw.gwN_take (zs := zs) (most := most) (k := kn) (out := O) hmt)
                clear hcc6
                obtain ⟨N, hN⟩ : ∃ N : Nat, L[m] = (N : Int) := ⟨L[m].toNat, (Int.toNat_of_nonneg e1).symm⟩
                rw [hN] at c6 hsn KN e2
                rw [Int.toNat_natCast] at hsn
                have NQ := Lib.hid (bt N2.out (bt B5.out hbq.out))
                obtain ⟨a1, ab⟩ := KA.out _ (bt HB.out NQ.out) N (by omega)
                obtain ⟨a2, -⟩ := KA.out _ (bt HB.out NQ.out) kn (by omega)
                obtain ⟨a3, a4⟩ := KU.out _ (bt HB.out NQ.out)
                obtain ⟨x0, x1, x2, x3⟩ := (HK.out _ NQ.out).four
                have hbl0 := (HK.out _ NQ.out).lt
                obtain ⟨h1, h2⟩ := hgb.out N
                obtain ⟨h3, h4⟩ := hgb.out kn
                have hNz : (N : Int) < (zs.length : Int) := by omega
                have hnbv : Gw.nbB zs most kn N = Ar.inB (-most) (zs.getD kn 0 - zs.getD N 0) most := rfl
                clear hN e1
                generalize Gw.gwN zs most kn O (L.take m) = P at *
                generalize Gw.nbB zs most kn N = bq at *
                generalize zs.getD N 0 = zn at *
                generalize zs.getD kn 0 = zk at *
                have hw1 : IntKind.i64.wrap (zn - zk) = zn - zk := IntWalk.i64_in _ (by omega)
                have hw2 : IntKind.i64.wrap (-(zn - zk)) = -(zn - zk) := IntWalk.i64_in _ (by omega)
                have CM := Lib.hid (fun W => maxG_any (zn - zk) (-(zn - zk)) W)
                have hmx : decide (max (zn - zk) (-(zn - zk)) ≤ most) = bq := by
                  rw [hnbv, Bool.eq_iff_iff, Gw.inB_iff, decide_eq_true_iff]
                  omega
                clear hnbv
                generalize max (zn - zk) (-(zn - zk)) = mx at *
                cases bq with
                | true =>
                  have hle := of_decide_eq_true hmx
                  have hS := Lib.hid (hsn.out.trans (if_pos rfl))
                  clear hmx hsn
                  go_wp2_with fail
                  go_quiet (fail)
                  have BQ := Lib.hid (bt hbq.out (below_drewW wr nq))
                  have OQ := Lib.hid (own_belowAll hOq.out (below_drewW wr nq))
                  obtain ⟨d1, d2⟩ := KN.out _ BQ.out
                  clear hbq hOq c6 a1 a2 a3 a4 x0 x1 x2 x3
                  go_wp2_with fail
                  refine (CM.out _).mono ?_
                  rintro e w' ⟨rfl, rfl⟩
                  have SP := Lib.hid (Own.sl OQ.out)
                  obtain ⟨pa, pcap, rfl⟩ := (Own.sl OQ.out).form
                  have CP := Lib.hid (fun W (h : Below w.heap.size w W) (hs : Sl W (.slice pa P.length pcap) P) => l00Put_any W (.slice pa P.length pcap) P (N : Int) hs (by omega))
                  go_wp2_with fail
                  refine (CP.out _ (bt HB.out (bt N2.out (bt B5.out BQ.out))) SP.out).mono ?_
                  rintro e w8 ⟨u8, rfl, o8, b8⟩
                  have O8 : Hid (Own w2.heap.size w8 u8 (Gw.gwN zs most kn O (L.take (m + 1)))) := Lib.hid (by rw [hS.out]; exact Go.Joins.ownsRow_le o8 (bt B5.out BQ.out).size)
                  have B8 := Lib.hid (bt BQ.out b8)
                  clear o8 b8 OQ BQ SP CP d1 d2
                  go_wp2_with fail
                  exact ⟨⟨m + 1, by omega, by go_num, O8, B8⟩, by simp only [intOf]; omega⟩
                | false =>
                  have hle := of_decide_eq_false hmx
                  have hS := Lib.hid (hsn.out.trans (if_neg (by decide)))
                  clear hmx hsn
                  go_wp2_with fail
                  go_quiet (fail)
                  have BQ := Lib.hid (bt hbq.out (below_drewW wr nq))
                  have OQ := Lib.hid (own_belowAll hOq.out (below_drewW wr nq))
                  clear hbq hOq c6 a1 a2 a3 a4 x0 x1 x2 x3
                  go_wp2_with fail
                  refine (CM.out _).mono ?_
                  rintro e w' ⟨rfl, rfl⟩
                  go_wp2_with fail
                  exact ⟨⟨m + 1, by omega, by go_num, Lib.hid (by rw [hS.out]; exact OQ.out), BQ⟩, by simp only [intOf]; omega⟩
              · have hmz : ¬ (m : Int) < (L.length : Int) := by omega
                have O6 : Hid (Own w2.heap.size wr u8 (Gw.gwA r c zs most ks (ks.take (j + 1)))) := Lib.hid (by
                  rw [hst.out]
                  have := hOq.out
                  rwa [List.take_of_length_le (show L.length ≤ m by omega)] at this)
                have B6 := Lib.hid (bt B5.out hbq.out)
                clear hOq hbq hst
                go_wp2_with fail
                exact ⟨⟨j + 1, by omega, by go_num, O6, B6⟩, by simp only [intOf]; omega⟩
          · have hltz : ¬ (j : Int) < (ks.length : Int) := by omega
            have hE : Hid (Gw.gwA r c zs most ks ks = Gw.gwA r c zs most ks (ks.take j)) := Lib.hid (by rw [List.take_of_length_le (show ks.length ≤ j by omega)])
            have O9 := Lib.hid (Own.le hO.out hw2.out)
            have B9 := Lib.hid (bt (bt HB.out N2.out) hb.out)
            generalize Gw.gwA r c zs most ks (ks.take j) = l at *
            obtain ⟨qa, qcap, rfl⟩ := (Own.sl hO.out).form
            clear hO hb
            go_wp2_with fail
            go_ret2
            exact RIp.yes hE.out rfl O9.out B9.out
end Go.Proofs.YthcmpalbhaefbaaDoor
