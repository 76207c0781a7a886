/-
  The way of steepest descent, by the program (chapter 9). The conditions: the table of ways as it is laid.
-/
import Derived.Test.YthcmpalbhaefbaaDoorDsA
import Derived.Test.YthcmpalbhaefbaaDoorTrK
namespace Go.Proofs.YthcmpalbhaefbaaDoor
open Go.RowKit Go.Shelf Go.Deep
set_option linter.unusedVariables false
set_option maxRecDepth 100000
namespace Gw
theorem goC_wrap {r c s : Int} {zs : List Int} (G : Good r c s zs) {k : Int} {a : Nat} (h : goB r c k a = true) : goC r c k a = rwA c k a * c + clA c k a ∧ wrap64 (rwA c k a * c) = rwA c k a * c ∧ wrap64 (rwA c k a * c + clA c k a) = rwA c k a * c + clA c k a := by
  obtain ⟨e, y1, y2, y3, y4⟩ := goC_eq h
  have := G.r2; have := G.c1; have := G.c2
  obtain ⟨e1, e2, e3, e4⟩ := cell_bd y1 (by omega) y3 (by omega) G.c1 G.c2
  exact ⟨e, IntWalk.wrap64_in _ ⟨by omega, by omega⟩, IntWalk.wrap64_in _ ⟨by omega, by omega⟩⟩
end Gw
set_option maxHeartbeats 12800000 in
theorem implDescentOf_any (w : World) (r c s : Int) (v : Value) (zs : List Int) (k : Int) (ho : IAt w v zs) (hl : zs.length ≤ 1048576) (hA : AspAt w) :
    Calls Tryd.prog 27 #[.agg #[.int .i64 r, .int .i64 c, .int .i64 s, v], .int .i64 k] w (RIp w (Gw.dsL r c s zs k) (Gw.askC r c s zs k)) := by
  obtain ⟨Bo, g0, cap, rfl, hown⟩ := ho
  obtain ⟨i0, hi0, hz0, hz1, hz2⟩ := info_parts info_i64
  have HB := Lib.hid (boxG_below w r c s (.slice (some ⟨g0, 0, none⟩) zs.length cap) 28)
  have B2 := Lib.hid (HB.out.alloc HB.out.size (.cells #[.int .i64 k] 2))
  have K2 : Hid (GC ((boxG w r c s (.slice (some ⟨g0, 0, none⟩) zs.length cap) 28).alloc (.cells #[.int .i64 k] 2)) w.heap.size r c s (.slice (some ⟨g0, 0, none⟩) zs.length cap)) := Lib.hid (boxG_kept ((Below.refl _ _).alloc (Nat.le_refl _) _))
  have O2 := Lib.hid (hown.belowAll B2.out)
  have S2 := Lib.hid (one_slT (boxG w r c s (.slice (some ⟨g0, 0, none⟩) zs.length cap) 28) k)
  have A2 := Lib.hid (hA.below B2.out)
  have CC := Lib.hid (cellsCode_any ((boxG w r c s (.slice (some ⟨g0, 0, none⟩) zs.length cap) 28).alloc (.cells #[.int .i64 k] 2)) r c s (.slice (some ⟨g0, 0, none⟩) zs.length cap) _ zs [k] O2.out.sl S2.out hl (by simp))
  rw [boxG_size] at CC
  unfold boxG at CC K2 A2 O2 B2
  have hany : (!([k].any fun x => !Ar.inB 0 x (zs.length - 1))) = Ar.inB 0 k (zs.length - 1) := by simp
  rw [hany] at CC
  clear hany hown hA HB S2
  unfold Gw.askC Gw.dsL
  obtain ⟨W2, hW2⟩ : ∃ u, (w.alloc (.cells #[.int .i64 r, .int .i64 c, .int .i64 s, .slice (some ⟨g0, 0, none⟩) zs.length cap] 28)).alloc (.cells #[.int .i64 k] 2) = u := ⟨_, rfl⟩
  rw [hW2] at CC K2 A2 O2 B2
  cases hq : Gw.ok r c s zs with
  | false =>
    rw [hq, Cd.cd_f] at CC
    rw [Cd.ls_f, Cd.cd_f]
    clear hq
    go_enter Tryd.func27, Tryd.ntmps27
    go_wp2_with fail
    refine CC.out.mono ?_
    rintro e w1 ⟨rfl, b1⟩
    have B1 := Lib.hid (bt B2.out b1)
    clear b1
    go_wp2_with fail
    go_ret2
    exact RIp.no B1.out
  | true =>
    have G := (Gw.ok_iff _ _ _ _).1 hq
    have hbi : Ar.inB 0 k (zs.length - 1) = Gw.isCell r c k := by unfold Gw.isCell; rw [G.n]
    rw [hq, hbi] at CC
    clear hbi
    cases hi : Gw.isCell r c k with
    | false =>
      rw [hi, Cd.cd_tf] at CC
      rw [Cd.ls_tf, Cd.cd_tf]
      clear hq hi G
      go_enter Tryd.func27, Tryd.ntmps27
      go_wp2_with fail
      refine CC.out.mono ?_
      rintro e w1 ⟨rfl, b1⟩
      have B1 := Lib.hid (bt B2.out b1)
      clear b1
      go_wp2_with fail
      go_ret2
      exact RIp.no B1.out
    | true =>
      rw [hi, Cd.cd_t] at CC
      rw [Cd.ls_t, Cd.cd_t]
      obtain ⟨k1, k2⟩ := Gw.isCell_bd hi G.r1 G.r2 G.c1 G.c2
      have hkl : k.toNat < zs.length := Gw.isCell_lt hi G.n
      obtain ⟨R, rfl⟩ : ∃ R : Nat, r = (R : Int) := ⟨r.toNat, (Int.toNat_of_nonneg (by have := G.r1; omega)).symm⟩
      obtain ⟨C, rfl⟩ : ∃ C : Nat, c = (C : Int) := ⟨c.toNat, (Int.toNat_of_nonneg (by have := G.c1; omega)).symm⟩
      obtain ⟨kn, rfl⟩ : ∃ kn : Nat, k = (kn : Int) := ⟨k.toNat, (Int.toNat_of_nonneg k1).symm⟩
      rw [Int.toNat_natCast] at hkl ⊢
      have hlen := G.len
      have hL : zs.length = R * C := good_len G
      have g1 := G.r1; have g2 := G.r2; have g3 := G.c1; have g4 := G.c2
      have CT := Lib.hid (fun W (h : Below W2.heap.size W2 W) => terrainOf_any W R C g0 0 zs.length cap s hL (by omega) (own_cap O2.out) (by omega) (by omega) (by omega) (by omega))
      have hh0 := Gw.hN_le G.h kn
      have GG := Lib.hid G
      clear hq hi hlen hL G
      go_enter Tryd.func27, Tryd.ntmps27
      go_wp2_with fail
      refine CC.out.mono ?_
      rintro e w1 ⟨rfl, b1⟩
      have N1 := Lib.hid b1
      obtain ⟨x0, x1, x2, x3⟩ := (K2.out.all b1).four
      clear b1
      go_wp2_with fail
      refine (CT.out _ N1.out).mono ?_
      rintro e w2 ⟨g, cap', rfl, hr, hg, b2⟩
      have L3 := Lib.hid ((Below.refl w2.heap.size w2).alloc (Nat.le_refl _) (.cells #[.int .i64 R, .int .i64 C, .int .i64 s, .slice (some ⟨g0, 0, none⟩) zs.length cap, .slice (some ⟨g, 0, none⟩) R cap'] 52))
      have N3 := Lib.hid (bt (bt N1.out b2) L3.out)
      have T3 := Lib.hid (Whole.new w2 52 #[.int .i64 R, .int .i64 C, .int .i64 s, .slice (some ⟨g0, 0, none⟩) zs.length cap, .slice (some ⟨g, 0, none⟩) R cap'])
      have HR3 := Lib.hid (hr.all L3.out)
      have O3 := Lib.hid (O2.out.belowAll N3.out)
      have A3 := Lib.hid (A2.out.below N3.out)
      have K3 := Lib.hid (K2.out.all N3.out)
      have BW3 := Lib.hid (bt B2.out N3.out)
      have D4 := Lib.hid (lit_one (w2.heap.size + 1) (w2.alloc (.cells #[.int .i64 R, .int .i64 C, .int .i64 s, .slice (some ⟨g0, 0, none⟩) zs.length cap, .slice (some ⟨g, 0, none⟩) R cap'] 52)) (kn : Int) (by simp))
      have hz3 : Hid ((w2.alloc (.cells #[.int .i64 R, .int .i64 C, .int .i64 s, .slice (some ⟨g0, 0, none⟩) zs.length cap, .slice (some ⟨g, 0, none⟩) R cap'] 52)).heap.size = w2.heap.size + 1) := Lib.hid (by simp)
      rw [hz3.out] at D4
      clear b2 hr hg x0 x1 x2 x3 O2 A2 K2 CT CC
      go_wp2_with fail
      generalize w2.alloc (.cells #[.int .i64 R, .int .i64 C, .int .i64 s, .slice (some ⟨g0, 0, none⟩) zs.length cap, .slice (some ⟨g, 0, none⟩) R cap'] 52) = W3 at *
      generalize w2.heap.size = lb at *
      have CS := Lib.hid (fun W (h : Below W3.heap.size W3 W) (j : Nat) (hj : j < zs.length) => steepest_any W R C j g0 cap g cap' s zs GG.out hj (HR3.out.all h) (own_cells (O3.out.belowAll h)) (own_lt (O3.out.belowAll h)) (A3.out.below h))
      have TK := Lib.hid (fun W (h : Below W3.heap.size W3 W) => (show TeAt W lb R C s (.slice (some ⟨g0, 0, none⟩) zs.length cap) (.slice (some ⟨g, 0, none⟩) R cap') from T3.out.all h).five)
      have KK := Lib.hid (fun W (h : Below W3.heap.size W3 W) => (K3.out.all h).four)
      have B4 : Hid (Below W3.heap.size W3 (W3.alloc (.cells #[.int .i64 kn] 2))) := Lib.hid ((Below.refl _ _).alloc (Nat.le_refl _) _)
      have z4 : Hid (lb + 2 ≤ (W3.alloc (.cells #[.int .i64 kn] 2)).heap.size) := Lib.hid (by have := hz3.out; simp; omega)
      clear HR3 O3 A3 T3 K3
      refine (CS.out _ B4.out kn hkl).mono ?_
      rintro e w5 ⟨⟨o, ho, rfl⟩, b5⟩
      obtain ⟨d0, p0, q0, hc⟩ := stC_five R C s zs kn o
      have HC : Hid (stC R C s zs kn (Gw.bsO R C s zs kn ((List.range 8).filter (Gw.goB R C kn))) = #[.int .i64 d0, .int .i64 p0, .int .i64 q0, .int .i64 (dnO R C zs kn o), .int .i64 (Gw.slO R C s zs kn o)]) := Lib.hid (by rw [← ho]; exact hc)
      rw [hc]
      clear hc ho
      generalize dnO R C zs kn o = d3 at *
      generalize Gw.slO R C s zs kn o = d4 at *
      have S6 : Hid (Whole (w5.alloc (.cells #[.int .i64 d0, .int .i64 p0, .int .i64 q0, .int .i64 d3, .int .i64 d4] 74)) w5.heap.size 74 (stC R C s zs kn (Gw.bsO R C s zs kn ((List.range 8).filter (Gw.goB R C kn))))) := Lib.hid (by rw [HC.out]; exact Whole.new _ _ _)
      have N5 := Lib.hid (bt B4.out b5)
      have N6 := Lib.hid (N5.out.alloc N5.out.size (.cells #[.int .i64 d0, .int .i64 p0, .int .i64 q0, .int .i64 d3, .int .i64 d4] 74))
      have D6 : Hid (Own W3.heap.size (w5.alloc (.cells #[.int .i64 d0, .int .i64 p0, .int .i64 q0, .int .i64 d3, .int .i64 d4] 74)) (.slice (some ⟨lb + 1, 0, none⟩) 1 1) ([] ++ [(kn : Int)])) := Lib.hid (by rw [hz3.out]; exact own_belowAll (own_belowAll D4.out b5) ((Below.refl _ _).alloc (Nat.le_refl _) _))
      have hq5 : Hid (∀ rb, Value.ownBlock (.slice (some ⟨lb + 1, 0, none⟩) 1 1) = some rb → rb < w5.heap.size) := Lib.hid (fun rb e => by
        simp only [Value.ownBlock, Option.some.injEq] at e
        have := z4.out; have := b5.size; omega)
      have hw5 : Hid (W3.heap.size ≤ w5.heap.size) := Lib.hid N5.out.size
      clear b5 HC D4 B4 z4
      go_wp2_with fail
      generalize w5.alloc (.cells #[.int .i64 d0, .int .i64 p0, .int .i64 q0, .int .i64 d3, .int .i64 d4] 74) = W6 at *
      generalize w5.heap.size = q5 at *
      go_loopw [1, 8, 9, 10] (fun s1 u s9 s10 wr => ∃ (j : Nat) (pre : List Int) (n qb : Nat) (eb : Bool), s1 = .int .i64 (j : Int) ∧ s9 = .pointer (some ⟨qb, 0, none⟩) ∧ s10 = .bool eb ∧ j < zs.length ∧ Hid (pre.length + n = 5000) ∧ Gw.hN zs j ≤ n ∧ Hid (pre ++ Gw.dsc R C s zs n j = Gw.dsc R C s zs 5000 kn) ∧ Hid (eb = !decide ((Gw.stp R C s zs j 8).1 < 0)) ∧ Hid (Whole wr qb 74 (stC R C s zs j (Gw.bsO R C s zs j ((List.range 8).filter (Gw.goB R C j))))) ∧ Hid (∀ rb, Value.ownBlock u = some rb → rb < qb) ∧ Hid (Own W3.heap.size wr u (pre ++ [(j : Int)])) ∧ Hid (W3.heap.size ≤ qb) ∧ Hid (Below W3.heap.size W3 wr)) (fun s1 _ _ _ _ => Gw.hN zs (intOf s1).toNat)
      case atStart => exact ⟨kn, [], 5000, q5, _, rfl, rfl, rfl, hkl, Lib.hid rfl, hh0, Lib.hid rfl, Lib.hid rfl, S6, hq5, D6, hw5, N6⟩
      case round =>
        obtain ⟨j, pre, n, qb, eb, rfl, rfl, rfl, hj, hn, hh, he, heb, hS, hrb, hO, hqb, hb⟩ := hrel
        clear S6 hq5 D6 hw5 N6 hh0
        have hpl : pre.length ≤ 5000 := by have := hn.out; omega
        rcases Gw.best_upto (r := R) (c := C) (zs := zs) (s := s) GG.out.s1 GG.out.s2 j 8 with ⟨h1, h2⟩ | ⟨i, h1, h2, h3, h4⟩
        · have E : Hid (pre ++ [(j : Int)] = Gw.dsc R C s zs 5000 kn) := Lib.hid (by rw [← he.out, Gw.dsc_end (by rw [h2]; show (-1 : Int) < 0; omega)])
          have hf : eb = false := by rw [heb.out, h2]; rfl
          subst hf
          have B9 := Lib.hid (bt BW3.out hb.out)
          have O9 := Lib.hid (Go.Joins.ownsRow_le hO.out BW3.out.size)
          clear h1 h2 hS hrb he heb hn hh
          generalize pre ++ [(j : Int)] = pj at *
          obtain ⟨ua, ucap, rfl⟩ := (Own.sl hO.out).form
          clear hO hb
          go_wp2_with fail
          go_ret2
          exact RIp.yes E.out.symm rfl O9.out B9.out
        · have hlt := Gw.hN_lt GG.out.h h4
          have hgo := (Gw.dnB_drp.1 h4).1
          obtain ⟨z0, zl⟩ := Gw.goC_lt hgo GG.out.c1 GG.out.n
          obtain ⟨m, hm⟩ : ∃ m, n = m + 1 := ⟨n - 1, by omega⟩
          have E : Hid ((pre ++ [(j : Int)]) ++ Gw.dsc R C s zs m (Gw.goC R C j i).toNat = Gw.dsc R C s zs 5000 kn) := Lib.hid (by rw [← he.out, hm, Gw.dsc_go (i := i) (by rw [h3])]; simp)
          have hn2 : Hid ((pre ++ [(j : Int)]).length + m = 5000) := Lib.hid (by have := hn.out; rw [List.length_append]; simp; omega)
          have hm2 : Gw.hN zs (Gw.goC R C j i).toNat ≤ m := by omega
          have hf : eb = true := by rw [heb.out, h3]; simp
          subst hf
          have hS2 : Hid (Whole wr qb 74 #[.int .i64 (i : Int), .int .i64 (Gw.rwA C j i), .int .i64 (Gw.clA C j i), .int .i64 (Gw.drp zs j (Gw.goC R C j i).toNat), .int .i64 (Gw.fall s zs j (Gw.goC R C j i).toNat i)]) := Lib.hid (by have := hS.out; rw [h1] at this; exact this)
          obtain ⟨eg, hw1, hw2⟩ := Gw.goC_wrap GG.out hgo
          have CP := Lib.hid (fun W => placeCell_any (Gw.rwA C j i) (Gw.clA C j i) C W hw1 hw2)
          have hzn : Gw.rwA C j i * C + Gw.clA C j i = ((Gw.goC R C j i).toNat : Int) := by rw [← eg]; exact (Int.toNat_of_nonneg z0).symm
          rw [hzn] at CP
          have CN := Lib.hid (fun W h => CS.out W h (Gw.goC R C j i).toNat zl)
          have hpl3 : (pre ++ [(j : Int)]).length ≤ 5001 := by rw [List.length_append]; simp; omega
          clear h1 h2 h3 h4 hgo z0 hm hn he hh hS heb eg hw1 hw2 hzn
          generalize (Gw.goC R C j i).toNat = N at *
          generalize Gw.rwA C j i = y1 at *
          generalize Gw.clA C j i = y2 at *
          generalize Gw.drp zs j N = y3 at *
          generalize Gw.fall s zs j N i = y4 at *
          generalize pre ++ [(j : Int)] = pj at *
          have x0 := hS2.out.at_ 0; have x1 := hS2.out.at_ 1; have x2 := hS2.out.at_ 2; have x3 := hS2.out.at_ 3; have x4 := hS2.out.at_ 4
          obtain ⟨k0, k1', k2', k3⟩ := KK.out wr hb.out
          have hqlt := hS2.out.lt
          go_wp2_with fail
          refine (CP.out _).mono ?_
          rintro e wA ⟨rfl, bA⟩
          have OA := Lib.hid (own_belowAll hO.out bA)
          have NA := Lib.hid (bt hb.out bA)
          have SA := Lib.hid (hS2.out.all bA)
          clear bA x0 x1 x2 x3 x4 k0 k1' k2' k3 hqlt hO hb hS2
          go_wp2_with (at_builtin; refine wpList_append_own _ rfl _ _ 22 rfl W3.heap.size 2 i0 (.int .i64 0) 1 8 Tryd.underlying22 hi0 hz0 hz1 hz2 rfl (by decide) _ _ _ rfl (own_belowAll OA.out ((Below.refl _ _).alloc (Nat.le_refl _) _)) ⟨wA.heap.size, 0, none⟩ 1 1 [.int .i64 (N : Int)] rfl rfl (row_new _ [_] _) (iv_cell [(N : Int)]) ?c3 ?c4 ?c5 ?_)
          case c3 => unfold maxLen; omega
          case c4 => omega
          case c5 => have := NA.out.size; first | omega | (simp; omega)
          intro v' wB hown' hgrow _
          have OB : Hid (Own W3.heap.size wB v' (pj ++ [(N : Int)])) := Lib.hid (by unfold Own; rw [iv_append, List.length_append]; exact hown')
          have NB : Hid (Below W3.heap.size W3 wB) := Lib.hid ((NA.out.alloc NA.out.size _).grown hgrow (by have := NA.out.size; simp; omega) (fun j hj => (World.ownsRow.lt OA.out j hj).1))
          have SB : Hid (Whole wB qb 74 #[.int .i64 (i : Int), .int .i64 y1, .int .i64 y2, .int .i64 y3, .int .i64 y4]) := Lib.hid ((hgrow.block qb (by have := SA.out.lt; simp; omega) (fun e => absurd (hrb.out qb e.symm) (Nat.lt_irrefl _))).trans (SA.out.alloc _))
          clear hown' hgrow OA NA SA
          have x0 := SB.out.at_ 0; have x1 := SB.out.at_ 1; have x2 := SB.out.at_ 2; have x3 := SB.out.at_ 3; have x4 := SB.out.at_ 4
          have L9 := Lib.hid ((Below.refl wB.heap.size wB).alloc (Nat.le_refl _) (.cells #[.int .i64 (i : Int), .int .i64 y1, .int .i64 y2, .int .i64 y3, .int .i64 y4] 74))
          have NC := Lib.hid (bt NB.out L9.out)
          have SC := Lib.hid (Whole.new wB 74 #[.int .i64 (i : Int), .int .i64 y1, .int .i64 y2, .int .i64 y3, .int .i64 y4])
          obtain ⟨t0, t1, t2, t3, t4⟩ := TK.out _ NC.out
          go_wp2_with fail
          refine (CN.out _ NC.out).mono ?_
          rintro e w9 ⟨⟨o, ho, rfl⟩, b9⟩
          obtain ⟨d0, p0, q0, hc⟩ := stC_five R C s zs N o
          have HC : Hid (stC R C s zs N (Gw.bsO R C s zs N ((List.range 8).filter (Gw.goB R C N))) = #[.int .i64 d0, .int .i64 p0, .int .i64 q0, .int .i64 (dnO R C zs N o), .int .i64 (Gw.slO R C s zs N o)]) := Lib.hid (by rw [← ho]; exact hc)
          rw [hc]
          clear hc ho x0 x1 x2 x3 x4 t0 t1 t2 t3 t4
          generalize dnO R C zs N o = d3 at *
          generalize Gw.slO R C s zs N o = d4 at *
          have R9 := SC.out.all b9
          have z0 := R9.free 0; have z1 := R9.free 1; have z2 := R9.free 2; have z3 := R9.free 3; have z4 := R9.free 4
          have x0 := R9.at_ 0; have x1 := R9.at_ 1; have x2 := R9.at_ 2; have x3 := R9.at_ 3; have x4 := R9.at_ 4
          have P := Lib.hid (put5 R9 (.int .i64 d0) (.int .i64 p0) (.int .i64 q0) (.int .i64 d3) (.int .i64 d4))
          have BP := Lib.hid (below5 (w0 := wB) (bt L9.out b9) (Nat.le_refl _) (.int .i64 d0) (.int .i64 p0) (.int .i64 q0) (.int .i64 d3) (.int .i64 d4))
          have ND := Lib.hid (bt NB.out BP.out)
          have OD := Lib.hid (own_belowAll OB.out BP.out)
          have hrb2 : Hid (∀ rb, Value.ownBlock v' = some rb → rb < wB.heap.size) := Lib.hid (fun rb e => (World.ownsRow.lt OB.out rb e).2)
          have hq2 : Hid (W3.heap.size ≤ wB.heap.size) := Lib.hid NB.out.size
          clear b9 R9 BP OB NB NC SB SC L9
          go_wp2_with fail
          generalize ((((w9.setCell ⟨wB.heap.size, 0, none⟩ (.int .i64 d0)).setCell ⟨wB.heap.size, 1, none⟩ (.int .i64 p0)).setCell ⟨wB.heap.size, 2, none⟩ (.int .i64 q0)).setCell ⟨wB.heap.size, 3, none⟩ (.int .i64 d3)).setCell ⟨wB.heap.size, 4, none⟩ (.int .i64 d4) = WZ at *
          exact ⟨⟨N, pj, m, wB.heap.size, _, rfl, rfl, rfl, zl, hn2, hm2, E, Lib.hid rfl, Lib.hid (by rw [HC.out]; exact P.out), hrb2, OD, hq2, ND⟩, by simp only [intOf, Int.toNat_natCast]; exact hlt⟩
end Go.Proofs.YthcmpalbhaefbaaDoor
