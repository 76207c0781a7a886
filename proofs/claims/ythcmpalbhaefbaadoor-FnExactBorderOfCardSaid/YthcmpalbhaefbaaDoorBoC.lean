/-
  The border of cells, by the model (chapter 11). No condition of its own.
-/
import Derived.Test.YthcmpalbhaefbaaDoorBoB
namespace Go.Proofs.YthcmpalbhaefbaaDoor
open Go.RowKit Go.Shelf Go.Deep
set_option linter.unusedVariables false
set_option maxRecDepth 100000
namespace Gw
/-- do the first directions lead into cells? -/
def inn (r c : Int) (ks : List Int) (x : Int) (a : Nat) : Bool := (List.range a).all (fun a => goB r c x a && ks.any (fun y => y == goC r c x a))
theorem inn_succ (r c : Int) (ks : List Int) (x : Int) (a : Nat) : inn r c ks x (a + 1) = (inn r c ks x a && (goB r c x a && ks.any (fun y => y == goC r c x a))) := by
  unfold inn; rw [List.range_succ, List.all_append]; simp
theorem inn_8 (r c : Int) (ks : List Int) (x : Int) : inn r c ks x 8 = innB r c ks x := rfl
theorem filter_take {l : List Int} {p : Int → Bool} {k : Nat} (h : k < l.length) : (l.take (k + 1)).filter p = (l.take k).filter p ++ (if p l[k] = true then [l[k]] else []) := by
  rw [List.take_succ_eq_append_getElem h, List.filter_append, List.filter_cons]; simp
theorem br_filter {r c s : Int} {zs ks : List Int} (h : rqC r c s zs ks = 0) : brL r c s zs ks = ks.filter (fun x => !innB r c ks x) := by
  obtain ⟨G, hup, hx, -⟩ := rq_0 h
  rw [br_yes h, filter_stF hup hx (fun x => !innB r c ks x)]
  rfl
end Gw
set_option maxHeartbeats 12800000 in
theorem specBorderOf_any (w : World) (r c s : Int) (v : Value) (zs : List Int) (u : Value) (ks : List Int) (hv : Sl w v zs) (hl : zs.length ≤ 1048576) (hu : Sl w u ks) (hkl : ks.length ≤ 1048576) :
    Calls Tryd.prog 32 #[.agg #[.int .i64 r, .int .i64 c, .int .i64 s, v], u] w (RIp w (Gw.brL r c s zs ks) (Gw.rqC r c s zs ks)) := by
  obtain ⟨i0, hi, hz0, hz1, hz2⟩ := info_parts info_i64
  have HB := Lib.hid (boxG_below w r c s v 28)
  have HK := Lib.hid (fun W (h : Below (boxG w r c s v 28).heap.size (boxG w r c s v 28) W) => (boxG_kept h : GC W w.heap.size r c s v))
  have C := Lib.hid (l11Ask_any (boxG w r c s v 28) w.heap.size r c s v u zs ks (boxG_cells w r c s v 28) (hv.below HB.out) hl (hu.below HB.out) hkl)
  rw [show odC (Gw.ok r c s zs) true (Rl.ri 0 (zs.length - 1) ks) = Gw.rqC r c s zs ks from rfl] at C
  have HU := Lib.hid hu
  obtain ⟨ua, ucap, rfl⟩ := hu.form
  clear hv hu
  by_cases hz : Gw.rqC r c s zs ks = 0
  · obtain ⟨G, hup, hx, hk64⟩ := Gw.rq_0 hz
    have E := Lib.hid (Gw.br_filter hz)
    have hlen := G.len
    have HX : Hid (∀ x ∈ ks, 0 ≤ x ∧ x ≤ 63) := Lib.hid (fun x h => by have := hx x h; omega)
    have CG := Lib.hid (fun W (h : Below (boxG w r c s v 28).heap.size (boxG w r c s v 28) W) (x : Int) (h0 : 0 ≤ x) (h1 : x ≤ 63) (a : Nat) (ha : a < 8) => l09Go_any W w.heap.size r c s x a v (HK.out W h) G.r1 G.r2 G.c1 G.c2 h0 h1 ha)
    have HGP := Lib.hid (fun (x : Int) (a : Nat) (h : Gw.goB r c x a = true) => Gw.goC_pos h G.c1 G.c2 G.r2)
    have CH := Lib.hid (fun W (h : Below w.heap.size w W) (x : Int) => l00Has_any W (.slice ua ks.length ucap) ks x (HU.out.below h) hkl)
    rw [E.out, hz]
    rw [hz] at C
    clear hup hx G hz E hlen
    go_enter Tryd.func32, Tryd.ntmps32
    go_wp2_with fail
    refine C.out.mono ?_
    rintro e w1 ⟨rfl, b1⟩
    have O1 : Hid (Own w1.heap.size (w1.alloc (.cells #[] 2)) (.slice (some ⟨w1.heap.size, 0, none⟩) 0 0) ((ks.take 0).filter (fun x => !Gw.innB r c ks x))) := Lib.hid (World.ownsRow_lit _ _ _ (Nat.le_refl _) (by decide) (by decide))
    have hw1 : Hid (w.heap.size ≤ w1.heap.size) := Lib.hid (bt HB.out b1).size
    have B1 := Lib.hid ((Below.refl w1.heap.size w1).alloc (Nat.le_refl _) (.cells #[] 2))
    have M1 := Lib.hid b1
    clear b1 C
    go_wp2_with fail
    go_loopw [7, 8, 9, 10, 11] (fun q i _ _ _ wr => ∃ k : Nat, k ≤ ks.length ∧ i = .int .i64 (k : Int) ∧ Hid (Own w1.heap.size wr q ((ks.take k).filter (fun x => !Gw.innB r c ks x))) ∧ Hid (Below w1.heap.size w1 wr)) (fun _ i _ _ _ _ => ks.length - (intOf i).toNat)
    case atStart => exact ⟨0, by omega, rfl, O1, B1⟩
    case round =>
      obtain ⟨k, hk, rfl, hO, hb⟩ := hrel
      clear O1 B1
      have hlm : ((ks.take k).filter (fun x => !Gw.innB r c ks x)).length ≤ 64 := Nat.le_trans (List.length_filter_le _ _) (by rw [List.length_take]; omega)
      by_cases hlt : k < ks.length
      · have hltz : (k : Int) < (ks.length : Int) := by omega
        have hst := Lib.hid (Gw.filter_take (p := fun x => !Gw.innB r c ks x) hlt)
        obtain ⟨q0, q1⟩ := HX.out ks[k] (List.getElem_mem hlt)
        have KX := Lib.hid (fun W (h : Below w.heap.size w W) => by
          obtain ⟨b5, off5, cap5, hn5, hbl5, hcc5⟩ := (HU.out.below h).atI hlt
          simp only [Value.slice.injEq] at hn5
          exact (⟨b5, off5, hn5.1, hcc5 k hlt, hbl5⟩ : ∃ b5 off5, ua = some ⟨b5, off5, none⟩ ∧ W.cell? ⟨b5, off5 + k, none⟩ = some (.int .i64 ks[k]) ∧ b5 < W.heap.size))
        generalize (ks.take k).filter (fun x => !Gw.innB r c ks x) = l at *
        have CGx := Lib.hid (fun W h a ha => CG.out W h ks[k] q0 q1 a ha)
        generalize ks[k] = x at *
        go_wp2_with fail
        go_loopw [9, 10, 11] (fun h i _ wq => ∃ a : Nat, a ≤ 8 ∧ i = .int .i64 (a : Int) ∧ h = .bool (Gw.inn r c ks x a) ∧ Hid (Below wr.heap.size wr wq)) (fun _ i _ _ => 8 - (intOf i).toNat)
        case atStart => exact ⟨0, by omega, rfl, rfl, Lib.hid (Below.refl _ _)⟩
        case round =>
          obtain ⟨a, ha, rfl, rfl, hbq⟩ := hrel
          have NQ := Lib.hid (bt (bt M1.out hb.out) hbq.out)
          by_cases hat : a < 8
          · have haz : (a : Int) < 8 := by omega
            have C := Lib.hid (CGx.out _ NQ.out a hat)
            have hss := Gw.inn_succ r c ks x a
            obtain ⟨b5, off5, rfl, c5, hbl5⟩ := KX.out _ (bt HB.out NQ.out)
            cases hg : Gw.goB r c x a with
            | false =>
              rw [hg, Bool.false_and, Bool.and_false] at hss
              rw [Gw.goC_neg hg] at C
              have HSS := Lib.hid hss
              clear hss hg
              go_wp2_with fail
              refine C.out.mono ?_
              rintro e w3 ⟨rfl, b3⟩
              have B3 := Lib.hid (bt hbq.out b3)
              clear b3 hbq C NQ
              cases hp : Gw.inn r c ks x a with
              | false =>
                go_wp2_with fail
                exact ⟨⟨a + 1, by omega, by go_num, by rw [HSS.out], B3⟩, by simp only [intOf]; omega⟩
              | true =>
                go_wp2_with fail
                exact ⟨⟨a + 1, by omega, by go_num, by rw [HSS.out], B3⟩, by simp only [intOf]; omega⟩
            | true =>
              rw [hg, Bool.true_and] at hss
              obtain ⟨g0, g1⟩ := HGP.out x a hg
              have CHx := Lib.hid (fun W h => CH.out W h (Gw.goC r c x a))
              clear hg
              generalize Gw.goC r c x a = N at *
              go_wp2_with fail
              refine C.out.mono ?_
              rintro e w3 ⟨rfl, b3⟩
              have B3 := Lib.hid (bt hbq.out b3)
              have N3 := Lib.hid (bt NQ.out b3)
              clear b3 hbq C NQ
              cases hp : Gw.inn r c ks x a with
              | false =>
                rw [hp, Bool.false_and] at hss
                have HSS := Lib.hid hss
                clear hss
                go_wp2_with fail
                exact ⟨⟨a + 1, by omega, by go_num, by rw [HSS.out], B3⟩, by simp only [intOf]; omega⟩
              | true =>
                rw [hp, Bool.true_and] at hss
                have HSS := Lib.hid hss
                clear hss
                go_wp2_with fail
                refine (CHx.out _ (bt HB.out N3.out)).mono ?_
                rintro e w4 ⟨rfl, b4⟩
                have B4 := Lib.hid (bt B3.out b4)
                clear b4 B3 N3
                go_wp2_with fail
                exact ⟨⟨a + 1, by omega, by go_num, by rw [HSS.out], B4⟩, by simp only [intOf]; omega⟩
          · have haz : ¬ (a : Int) < 8 := by omega
            have ha8 : a = 8 := by omega
            subst ha8
            rw [Gw.inn_8]
            have O6 := Lib.hid (own_belowAll hO.out hbq.out)
            have B6 := Lib.hid (bt hb.out hbq.out)
            obtain ⟨b5, off5, rfl, c5, hbl5⟩ := KX.out _ (bt HB.out NQ.out)
            cases hh : Gw.innB r c ks x with
            | false =>
              have HY : Hid ((ks.take (k + 1)).filter (fun x => !Gw.innB r c ks x) = l ++ [x]) := Lib.hid (by rw [hst.out]; simp [hh])
              clear hh hst hO hb hbq NQ CGx KX
              go_wp2_with (at_builtin; refine wpList_append_own _ rfl _ _ 22 rfl w1.heap.size 2 i0 (.int .i64 0) 1 8 Tryd.underlying22 hi hz0 hz1 hz2 rfl (by decide) _ _ _ rfl (own_belowAll O6.out ((Below.refl _ _).alloc (Nat.le_refl _) _)) ⟨wr.heap.size, 0, none⟩ 1 1 [.int .i64 x] rfl rfl (row_new _ [_] _) (iv_cell [x]) ?c3 ?c4 ?c5 ?_)
              case c3 => unfold maxLen; omega
              case c4 => omega
              case c5 => have := B6.out.size; first | omega | (simp; omega)
              intro v' w7 hown' hgrow _
              have O7 : Hid (Own w1.heap.size w7 v' ((ks.take (k + 1)).filter (fun x => !Gw.innB r c ks x))) := Lib.hid (by rw [HY.out]; unfold Own; rw [iv_append, List.length_append]; exact hown')
              have B7 : Hid (Below w1.heap.size w1 w7) := Lib.hid ((B6.out.alloc B6.out.size _).grown hgrow (by have := B6.out.size; simp; omega) (fun j hj => (World.ownsRow.lt O6.out j hj).1))
              clear hown' hgrow O6 B6
              go_wp2
              exact ⟨⟨k + 1, by omega, by go_num, O7, B7⟩, by simp only [intOf]; omega⟩
            | true =>
              have HN : Hid ((ks.take (k + 1)).filter (fun x => !Gw.innB r c ks x) = l) := Lib.hid (by rw [hst.out]; simp [hh])
              clear hh hst hO hb hbq NQ CGx KX
              go_wp2_with fail
              exact ⟨⟨k + 1, by omega, by go_num, Lib.hid (by rw [HN.out]; exact O6.out), B6⟩, by simp only [intOf]; omega⟩
      · have hltz : ¬ (k : Int) < (ks.length : Int) := by omega
        have O9 := Lib.hid (Own.le hO.out hw1.out)
        have B9 := Lib.hid (bt (bt HB.out M1.out) hb.out)
        have hE : Hid (ks.filter (fun x => !Gw.innB r c ks x) = (ks.take k).filter (fun x => !Gw.innB r c ks x)) := Lib.hid (by rw [List.take_of_length_le (by omega)])
        generalize (ks.take k).filter (fun x => !Gw.innB r c ks x) = l at *
        obtain ⟨qa, qcap, rfl⟩ := (Own.sl hO.out).form
        clear hO hb
        go_wp2_with fail
        go_ret2
        exact RIp.yes hE.out rfl O9.out B9.out
  · have hcb : (Gw.rqC r c s zs ks != 0) = true := bne_iff_ne.2 hz
    have E := Lib.hid (Gw.br_no hz)
    clear hz
    rw [E.out]
    generalize Gw.rqC r c s zs ks = code at *
    go_enter Tryd.func32, Tryd.ntmps32
    go_wp2_with fail
    refine C.out.mono ?_
    rintro e w1 ⟨rfl, b1⟩
    have B1 := Lib.hid (bt HB.out b1)
    clear b1
    go_wp2_with fail
    go_ret2
    exact RIp.no B1.out
end Go.Proofs.YthcmpalbhaefbaaDoor
