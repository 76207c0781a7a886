/-
  The way of steepest descent, by the model (chapter 9). No condition of its own.
-/
import Derived.Test.YthcmpalbhaefbaaDoorPtM
import Derived.Test.YthcmpalbhaefbaaDoorGq
namespace Go.Proofs.YthcmpalbhaefbaaDoor
open Go.RowKit Go.Shelf Go.Deep
set_option linter.unusedVariables false
set_option maxRecDepth 100000
theorem lit_one (B : Nat) (w : World) (k : Int) (h : B ≤ w.heap.size) : Own B (w.alloc (.cells #[.int .i64 k] 2)) (.slice (some ⟨w.heap.size, 0, none⟩) 1 1) [k] := World.ownsRow_lit w #[.int .i64 k] 1 h (by decide) rfl
set_option maxHeartbeats 6400000 in
theorem l09Descent_any (w : World) (b : Nat) (r c s : Int) (v : Value) (zs : List Int) (k : Nat) (hc : GC w b r c s v) (hv : Sl w v zs) (G : Gw.Good r c s zs) (hk : k < zs.length) :
    Calls Tryd.prog 52 #[.pointer (some ⟨b, 0, none⟩), .int .i64 (k : Int)] w (RJp w (Gw.dsc r c s zs 5000 k)) := by
  obtain ⟨i0, hi, hz0, hz1, hz2⟩ := info_parts info_i64
  have hlen := G.len
  have GG := Lib.hid G
  have CS := Lib.hid (fun (k : Nat) (hk : k < zs.length) W (h : Below w.heap.size w W) => l09Steepest_any W b r c s v zs k (hc.all h) (hv.below h) G hk)
  have CG := Lib.hid (fun (k a : Nat) (hk : k < zs.length) (ha : a < 8) W (h : Below w.heap.size w W) => l09Go_any W b r c s k a v (hc.all h) G.r1 G.r2 G.c1 G.c2 (by omega) (by omega) ha)
  have O1 : Hid (Own w.heap.size (w.alloc (.cells #[.int .i64 (k : Int)] 2)) (.slice (some ⟨w.heap.size, 0, none⟩) 1 1) ([] ++ [(k : Int)])) := Lib.hid (lit_one _ w k (Nat.le_refl _))
  have B1 := Lib.hid ((Below.refl w.heap.size w).alloc (Nat.le_refl _) (.cells #[.int .i64 (k : Int)] 2))
  have hh0 := Gw.hN_le G.h k
  clear hc hv G hlen
  go_enter Tryd.func52, Tryd.ntmps52
  go_wp2_with fail
  go_loopw [1, 5, 6, 7] (fun s1 u _ _ wr => ∃ (j : Nat) (pre : List Int) (n : Nat), s1 = .int .i64 (j : Int) ∧ j < zs.length ∧ Hid (pre.length + n = 5000) ∧ Gw.hN zs j ≤ n ∧ Hid (pre ++ Gw.dsc r c s zs n j = Gw.dsc r c s zs 5000 k) ∧ Hid (Own w.heap.size wr u (pre ++ [(j : Int)])) ∧ Hid (Below w.heap.size w wr)) (fun s1 _ _ _ _ => Gw.hN zs (intOf s1).toNat)
  case atStart => exact ⟨k, [], 5000, rfl, hk, Lib.hid rfl, hh0, Lib.hid rfl, O1, B1⟩
  case round =>
    obtain ⟨j, pre, n, rfl, hj, hn, hh, he, ho, hb⟩ := hrel
    clear O1 B1 hh0
    have hpl : pre.length ≤ 5000 := by have := hn.out; omega
    have C := Lib.hid (CS.out j hj wr hb.out)
    rcases Gw.best_upto (r := r) (c := c) (zs := zs) (s := s) GG.out.s1 GG.out.s2 j 8 with ⟨h1, h2⟩ | ⟨i, h1, h2, h3, h4⟩
    · have E : Hid (pre ++ [(j : Int)] = Gw.dsc r c s zs 5000 k) := Lib.hid (by rw [← he.out, Gw.dsc_end (by rw [h2]; show (-1 : Int) < 0; omega)])
      rw [h2] at C
      clear h1 h2
      go_wp2_with fail
      refine C.out.mono ?_
      rintro e w2 ⟨rfl, b2⟩
      have O2 := Lib.hid (own_belowAll ho.out b2)
      have B2 := Lib.hid (bt hb.out b2)
      generalize pre ++ [(j : Int)] = pj at *
      obtain ⟨ua, ucap, rfl⟩ := (Own.sl O2.out).form
      clear b2 ho hb
      go_wp2_with fail
      go_ret
      exact ⟨_, rfl, by rw [← E.out]; exact O2.out, B2.out⟩
    · have hlt := Gw.hN_lt GG.out.h h4
      have hgo := (Gw.dnB_drp.1 h4).1
      obtain ⟨z0, zl⟩ := Gw.goC_lt hgo GG.out.c1 GG.out.n
      obtain ⟨m, hm⟩ : ∃ m, n = m + 1 := ⟨n - 1, by omega⟩
      have E : Hid ((pre ++ [(j : Int)]) ++ Gw.dsc r c s zs m (Gw.goC r c j i).toNat = Gw.dsc r c s zs 5000 k) := Lib.hid (by rw [← he.out, hm, Gw.dsc_go (i := i) (by rw [h3])]; simp)
      have hn2 : Hid ((pre ++ [(j : Int)]).length + m = 5000) := Lib.hid (by have := hn.out; rw [List.length_append]; simp; omega)
      have hm2 : Gw.hN zs (Gw.goC r c j i).toNat ≤ m := by omega
      have CG2 := Lib.hid (fun W h => CG.out j i hj h2 W h)
      have hzn : ((Gw.goC r c j i).toNat : Int) = Gw.goC r c j i := Int.toNat_of_nonneg z0
      have hni : ¬ (i : Int) < 0 := by omega
      rw [h3] at C
      rw [← hzn] at CG2
      clear h1 h2 h3 h4 hgo z0 hzn hm hn he hh
      generalize (Gw.goC r c j i).toNat = N at *
      generalize Gw.fall s zs j N i = f at *
      go_wp2_with fail
      refine C.out.mono ?_
      rintro e w2 ⟨rfl, b2⟩
      have O2 := Lib.hid (own_belowAll ho.out b2)
      have B2 := Lib.hid (bt hb.out b2)
      clear b2 ho hb
      go_wp2_with fail
      refine (CG2.out _ B2.out).mono ?_
      rintro e w3 ⟨rfl, b3⟩
      have O3 := Lib.hid (own_belowAll O2.out b3)
      have B3 := Lib.hid (bt B2.out b3)
      have hpl3 : (pre ++ [(j : Int)]).length ≤ 5001 := by rw [List.length_append]; simp; omega
      clear b3 O2 B2
      generalize pre ++ [(j : Int)] = pj at *
      go_wp2_with (at_builtin; refine wpList_append_own _ rfl _ _ 22 rfl w.heap.size 2 i0 (.int .i64 0) 1 8 Tryd.underlying22 hi hz0 hz1 hz2 rfl (by decide) _ _ _ rfl (own_belowAll O3.out ((Below.refl _ _).alloc (Nat.le_refl _) _)) ⟨w3.heap.size, 0, none⟩ 1 1 [.int .i64 (N : Int)] rfl rfl (row_new _ [_] _) (iv_cell [(N : Int)]) ?c3 ?c4 ?c5 ?_)
      case c3 => unfold maxLen; omega
      case c4 => omega
      case c5 => have := B3.out.size; first | omega | (simp; omega)
      intro v' w5 hown' hgrow _
      have O5 : Hid (Own w.heap.size w5 v' (pj ++ [(N : Int)])) := Lib.hid (by unfold Own; rw [iv_append, List.length_append]; exact hown')
      have B5 : Hid (Below w.heap.size w w5) := Lib.hid ((B3.out.alloc B3.out.size _).grown hgrow (by have := B3.out.size; simp; omega) (fun j hj => (World.ownsRow.lt O3.out j hj).1))
      clear hown' hgrow O3 B3
      go_wp2
      exact ⟨⟨N, pj, m, rfl, zl, hn2, hm2, E, O5, B5⟩, by simp only [intOf, Int.toNat_natCast]; exact hlt⟩
set_option maxHeartbeats 1600000 in
theorem specDescentOf_any (w : World) (r c s : Int) (v : Value) (zs : List Int) (k : Int) (hv : Sl w v zs) (hl : zs.length ≤ 1048576) :
    Calls Tryd.prog 26 #[.agg #[.int .i64 r, .int .i64 c, .int .i64 s, v], .int .i64 k] w (RIp w (Gw.dsL r c s zs k) (Gw.askC r c s zs k)) := by
  have C := Lib.hid (l09Ask_any (boxG w r c s v 28) w.heap.size r c s k v zs (boxG_cells w r c s v 28) (hv.below (boxG_below w r c s v 28)) hl)
  have HB := Lib.hid (boxG_below w r c s v 28)
  have HK := Lib.hid (fun W (h : Below (boxG w r c s v 28).heap.size (boxG w r c s v 28) W) => (boxG_kept h : GC W w.heap.size r c s v))
  have HVV := Lib.hid hv
  clear hv
  unfold Gw.askC at C ⊢
  unfold Gw.dsL
  cases hq : Gw.ok r c s zs with
  | false =>
    rw [hq, Cd.cd_f] at C
    rw [Cd.ls_f, Cd.cd_f]
    clear hq
    go_enter Tryd.func26, Tryd.ntmps26
    go_wp2_with fail
    refine C.out.mono ?_
    rintro e w1 ⟨rfl, b1⟩
    have B1 := Lib.hid (bt HB.out b1)
    clear b1
    go_wp2_with fail
    go_ret2
    exact RIp.no B1.out
  | true =>
    cases hi : Gw.isCell r c k with
    | false =>
      rw [hq, hi, Cd.cd_tf] at C
      rw [Cd.ls_tf, Cd.cd_tf]
      clear hq hi
      go_enter Tryd.func26, Tryd.ntmps26
      go_wp2_with fail
      refine C.out.mono ?_
      rintro e w1 ⟨rfl, b1⟩
      have B1 := Lib.hid (bt HB.out b1)
      clear b1
      go_wp2_with fail
      go_ret2
      exact RIp.no B1.out
    | true =>
      have G := (Gw.ok_iff _ _ _ _).1 hq
      obtain ⟨k1, k2⟩ := Gw.isCell_bd hi G.r1 G.r2 G.c1 G.c2
      have hkl : k.toNat < zs.length := Gw.isCell_lt hi G.n
      have hkn : ((k.toNat : Nat) : Int) = k := Int.toNat_of_nonneg k1
      have CN := Lib.hid (fun W (h : Below (boxG w r c s v 28).heap.size (boxG w r c s v 28) W) => l09Descent_any W w.heap.size r c s v zs k.toNat (HK.out W h) (HVV.out.below (bt HB.out h)) G hkl)
      rw [hkn] at CN
      rw [hq, hi, Cd.cd_t] at C
      rw [Cd.ls_t, Cd.cd_t]
      clear hq hi G k1 k2 hkl hkn
      generalize Gw.dsc r c s zs 5000 k.toNat = l at *
      go_enter Tryd.func26, Tryd.ntmps26
      go_wp2_with fail
      refine C.out.mono ?_
      rintro e w1 ⟨rfl, b1⟩
      have B1 := Lib.hid (bt HB.out b1)
      have N1 := Lib.hid b1
      clear b1
      go_wp2_with fail
      refine (CN.out _ N1.out).mono ?_
      rintro e w2 ⟨u, rfl, o2, b2⟩
      have O2 := Lib.hid (Go.Joins.ownsRow_le o2 B1.out.size)
      have B2 := Lib.hid (bt B1.out b2)
      clear o2 b2
      obtain ⟨ua, ucap, rfl⟩ := (Own.sl O2.out).form
      go_wp2_with fail
      go_ret2
      exact RIp.yes rfl rfl O2.out B2.out
end Go.Proofs.YthcmpalbhaefbaaDoor
