/-
  LoadedCells of chapter 6 by the model. No condition of its own.
-/
import Derived.Test.YtmidihmbehaegaaDoorFdDb
import Derived.Test.YtmidihmbehaegaaDoorFdDd
import Derived.Test.YtmidihmbehaegaaDoorFdV
namespace Go.Proofs.YtmidihmbehaegaaDoor
open Go.RowKit Go.Shelf Go.Deep Go.WideShapes
set_option linter.unusedVariables false
set_option maxRecDepth 100000

theorem below_qa (w : World) (q : Nat) (o : Obj) : Below w.heap.size w ((w.drewN q).alloc o) := bt (below_drewW w q) ((Below.refl _ _).alloc (Nat.le_refl _) o)
theorem one_newq (w : World) (q : Nat) (z : Int) (t : TypeId) : ∀ j u, ([Value.int .i64 z] : List Value)[j]? = some u → ((w.drewN q).alloc (.cells #[.int .i64 z] t)).cell? ((⟨w.heap.size, 0, none⟩ : Addr).add j) = some u := fun j u h => row_new (w.drewN q) [.int .i64 z] t j u h
set_option maxHeartbeats 12800000 in
theorem specLoadedCells_any (w : World) (r c : Int) (v : Value) (zs : List Int) (u : Value) (ds : List Int) (s least : Int) (ho : IAt w v zs) (hl : zs.length ≤ 1048576) (hu : Sl w u ds) (hl2 : ds.length ≤ 1048576) :
    Calls Tryd.prog 24 #[.agg #[.int .i64 r, .int .i64 c, v], u, .int .i64 s, .int .i64 least] w (RZM w (Fw.lcZ r c zs ds s least) (Fw.lcC r c zs ds s least)) := by
  obtain ⟨i0, hi, hz0, hz1, hz2⟩ := info_parts info_i64
  obtain ⟨ua, ucap, rfl⟩ := hu.form
  obtain ⟨W1, hW1⟩ : ∃ W, W = boxF w r c v 26 := ⟨_, rfl⟩
  have HB : Hid (Below w.heap.size w W1) := Lib.hid (by rw [hW1]; exact boxF_below ..)
  have K0 : Hid (∀ W, Below W1.heap.size W1 W → FC W w.heap.size r c v) := Lib.hid (fun W h => by
    have k := boxF_cells w r c v 26
    rw [← hW1] at k
    exact k.all h)
  have CK := Lib.hid (l06Ok_any W1 w.heap.size r c v zs (K0.out W1 (Below.refl _ _)) (ho.sl.below HB.out) hl)
  have CM := Lib.hid (fun W => l06Mass_any least W)
  have C := Lib.hid (fun W (h : Below W1.heap.size W1 W) => l06Run_any W w.heap.size r c v (.slice ua ds.length ucap) zs ds s (K0.out W h) ((ho.all HB.out).all h) hl ((hu.below HB.out).below h) hl2)
  have HO := Lib.hid ho
  obtain ⟨vB, vb, vcap, rfl, hvo⟩ := ho
  have hbx : boxF w r c (.slice (some ⟨vb, 0, none⟩) zs.length vcap) 26 = w.alloc (.cells #[.int .i64 r, .int .i64 c, .slice (some ⟨vb, 0, none⟩) zs.length vcap] 26) := rfl
  have hsz : Hid (W1.heap.size = w.heap.size + 1) := Lib.hid (by rw [hW1]; exact boxF_size ..)
  clear hvo hu
  cases hq : Fw.ok r c zs with
  | false =>
    have hd := Lib.hid ((Fw.dr_1 (ds := ds) (s := s) hq).2.2.2)
    have hlc := Lib.hid (Fw.lcC_1 (least := least) (ds := ds) (s := s) hq)
    have hz : Hid (Fw.lcZ r c zs ds s least = []) := Lib.hid (Fw.lcZ_no (by rw [hlc.out]; decide))
    rw [hlc.out, hz.out]
    rw [hd.out] at C
    rw [hq] at CK
    clear hq hd hlc hz
    generalize Fw.drZ r c zs ds s = Z at *
    generalize Fw.drR r c zs ds s = R at *
    generalize Fw.drK r c zs ds s = K at *
    go_enter Tryd.func24, Tryd.ntmps24
    go_wp2_with fail
    rw [← hbx, ← hW1]
    clear hbx hW1
    refine CK.out.mono ?_
    rintro e w1 ⟨rfl, b1⟩
    have B1 := Lib.hid b1
    clear b1
    go_wp2_with fail
    refine (C.out _ B1.out).mono ?_
    rintro e w2 ⟨a, cap, rfl, o2, b2⟩
    have B2 := Lib.hid (bt HB.out (bt B1.out b2))
    clear o2 b2
    go_wp2_with fail
    go_ret2
    exact ⟨_, rfl, Own.nil _ _, bt B2.out ((Below.refl _ _).alloc (Nat.le_refl _) _)⟩
  | true =>
    cases hm : Fw.okM least with
    | false =>
      have hlc := Lib.hid (Fw.lcC_2 (ds := ds) (s := s) hq hm)
      have hz : Hid (Fw.lcZ r c zs ds s least = []) := Lib.hid (Fw.lcZ_no (by rw [hlc.out]; decide))
      rw [hlc.out, hz.out]
      rw [hq] at CK
      rw [hm] at CM
      clear hq hm hlc hz
      go_enter Tryd.func24, Tryd.ntmps24
      go_wp2_with fail
      rw [← hbx, ← hW1]
      clear hbx hW1
      refine CK.out.mono ?_
      rintro e w1 ⟨rfl, b1⟩
      have B1 := Lib.hid b1
      clear b1
      go_wp2_with fail
      refine (CM.out _).mono ?_
      rintro e wm ⟨rfl, rfl⟩
      go_wp2_with fail
      go_ret2
      exact ⟨_, rfl, Own.nil _ _, bt HB.out B1.out⟩
    | true =>
      have hlc := Fw.lcC_t (r := r) (c := c) (zs := zs) (ds := ds) (s := s) hm
      rw [hm] at CM
      clear hm
      by_cases hc : Fw.drC r c zs ds s = 0
      · obtain ⟨hok, hms, hlen, -⟩ := Fw.dr_fine hc
        have hzs := Lib.hid ((Fw.ok_iff _ _ _).1 hok).2
        have hn := Fw.fits_len ((Fw.ok_iff _ _ _).1 hok).1
        have hg := Lib.hid (Fw.lcZ_0 (least := least) (hlc.trans hc))
        have HMS := Lib.hid hms
        rw [hlc, hc]
        have C := Lib.hid (fun W h => C.out W h)
        rw [hc] at C
        rw [hq] at CK
        clear hc hok hms hlc hq
        generalize Fw.lcZ r c zs ds s least = G at *
        generalize Fw.drZ r c zs ds s = Z at *
        generalize Fw.drR r c zs ds s = R at *
        generalize Fw.drK r c zs ds s = K at *
        have HL := Lib.hid hlen
        have hzl : Z.length ≤ 64 := by omega
        clear hlen
        go_enter Tryd.func24, Tryd.ntmps24
        go_wp2_with fail
        rw [← hbx, ← hW1]
        clear hbx hW1
        refine CK.out.mono ?_
        rintro e w1 ⟨rfl, b1⟩
        have B1 := Lib.hid b1
        clear b1
        go_wp2_with fail
        refine (CM.out _).mono ?_
        rintro e wm ⟨rfl, rfl⟩
        go_wp2_with fail
        refine (C.out _ B1.out).mono ?_
        rintro e w2 ⟨a, cap, rfl, o2, b2⟩
        obtain ⟨g, cap', hv, hgl, hgr⟩ := World.ownsRow.form o2 (by have := HL.out; omega)
        simp only [Value.slice.injEq] at hv
        obtain ⟨rfl, -, rfl⟩ := hv
        obtain ⟨W4, hW4⟩ : ∃ W, W = w2.alloc (.cells #[.int .i64 R, .int .i64 K, .slice (some ⟨g, 0, none⟩) Z.length cap] 26) := ⟨_, rfl⟩
        have bW : Below w2.heap.size w2 W4 := by rw [hW4]; exact (Below.refl _ _).alloc (Nat.le_refl _) _
        have B4 := Lib.hid (bt (bt B1.out b2) bW)
        have O4 := Lib.hid (Own.belowAll o2 bW)
        have kn : FC W4 w2.heap.size R K (.slice (some ⟨g, 0, none⟩) Z.length cap) := by rw [hW4]; exact boxF_cells w2 R K _ _
        have KN := Lib.hid kn
        have hgr4 : g < W4.heap.size := Nat.lt_of_lt_of_le hgr bW.size
        have KK : Hid (∀ W, Below W4.heap.size W4 W → FC W w.heap.size r c (.slice (some ⟨vb, 0, none⟩) zs.length vcap) ∧ FC W w2.heap.size R K (.slice (some ⟨g, 0, none⟩) Z.length cap) ∧ (∀ k (hk : k < zs.length), W.cell? ⟨vb, k, none⟩ = some (.int .i64 zs[k])) ∧ (∀ k (hk : k < Z.length), W.cell? ⟨g, k, none⟩ = some (.int .i64 Z[k]))) := Lib.hid (fun W h => by
          refine ⟨K0.out W (bt B4.out h), KN.out.all h, fun k hk => ?_, fun k hk => own_cell (Own.belowAll O4.out h) (List.getElem?_eq_getElem hk)⟩
          obtain ⟨vb', off, cap1, hvn, hbl, hcc⟩ := Sl.atI ((HO.out.all (bt HB.out (bt B4.out h))).sl) hk
          simp only [Value.slice.injEq, Option.some.injEq, Addr.mk.injEq, and_true] at hvn
          obtain ⟨⟨rfl, rfl⟩, -, rfl⟩ := hvn
          have := hcc k hk
          rwa [Nat.zero_add] at this)
        have hw2 : W4.heap.size = w2.heap.size + 1 := by rw [hW4]; simp
        clear o2 b2 hgl hgr bW kn C
        go_wp2_with fail
        rw [← hW4]
        have HW5 : Hid (Below W4.heap.size W4 (W4.alloc (.cells #[] 2))) := Lib.hid ((Below.refl _ _).alloc (Nat.le_refl _) _)
        have OL : Hid ((W4.alloc (.cells #[] 2)).ownsRow W4.heap.size 2 1 (.slice (some ⟨W4.heap.size, 0, none⟩) 0 0) 0 (iv (Fw.ld (Fw.gn zs Z) least 0))) := Lib.hid (World.ownsRow_lit _ _ _ (Nat.le_refl _) (by decide) (by decide))
        have hsl : w2.heap.size + 1 = W4.heap.size := hw2.symm
        try rw [hsl]
        clear hW4 hw2 hsl
        go_loopw [12, 13] (fun o i wr => ∃ (k m g' cap' : Nat), k ≤ zs.length ∧ i = .int .i64 k ∧ o = .slice (some ⟨g', 0, none⟩) m cap' ∧ m ≤ k ∧ Hid (m = (Fw.ld (Fw.gn zs Z) least k).length) ∧ Hid (wr.ownsRow W4.heap.size 2 1 (.slice (some ⟨g', 0, none⟩) m cap') m (iv (Fw.ld (Fw.gn zs Z) least k))) ∧ Hid (Below W4.heap.size W4 wr)) (fun _ i _ => zs.length - (intOf i).toNat)
        case atStart => exact ⟨0, 0, W4.heap.size, 0, Nat.zero_le _, rfl, rfl, Nat.le_refl _, Lib.hid rfl, OL, HW5⟩
        case round =>
          obtain ⟨k, m, g', cap2, hk, rfl, rfl, hmk, hml, ho, hb⟩ := hrel
          obtain ⟨k1, k2, k3, k4⟩ := KK.out wr hb.out
          obtain ⟨x0, x1, x2⟩ := k1.three
          obtain ⟨y0, y1, y2⟩ := k2.three
          by_cases hlt : k < zs.length
          · have hltz : (k : Int) < (zs.length : Int) := by omega
            have hkZ : k < Z.length := by have := HL.out; omega
            have hkz2 : (k : Int) < (Z.length : Int) := by omega
            have hk0 : (0 : Int) ≤ (k : Int) := by omega
            have c1 := k3 k hlt
            have c2 := k4 k hkZ
            have hgd := Lib.hid (Fw.gn_getD HL.out hlt hkZ)
            obtain ⟨e1, e2⟩ := Fw.get_bd hzs.out hlt
            obtain ⟨e3, e4⟩ := Fw.get_bd HMS.out hkZ
            have hbs := hb.out.size
            clear k1 k2 k3 k4
            generalize zs[k] = z at *
            generalize Z[k] = z2 at *
            by_cases hle : least ≤ z2 - z
            · have hn := Lib.hid (Fw.ld_snoc_t (gs := Fw.gn zs Z) (least := least) (n := k) (by rw [hgd.out]; exact hle))
              go_wp2_with fail
              go_quiet (fail)
              go_wp2_with (at_builtin; refine wpList_append_own _ rfl _ _ 22 rfl W4.heap.size 2 i0 (.int .i64 0) 1 8 Tryd.underlying22 hi hz0 hz1 hz2 rfl (by decide) _ _ _ rfl (own_belowAll ho.out (below_qa wr nq _)) ⟨wr.heap.size, 0, none⟩ 1 1 [.int .i64 (k : Int)] rfl rfl (one_newq wr nq _ _) (iv_cell [(k : Int)]) ?c3 ?c4 ?c5 ?_)
              case c3 => unfold maxLen; omega
              case c4 => omega
              case c5 => simp; omega
              intro v' w5 hown' hgrow _
              have hbb := (hb.out.trans ((below_qa wr nq (.cells #[.int .i64 (k : Int)] 2)).mono hb.out.size)).grown hgrow (by simp; omega) (fun j hj => (World.ownsRow.lt ho.out j hj).1)
              rcases Go.Joins.ownsRow_forms hown' with ⟨-, h0⟩ | ⟨g5, cap5, rfl⟩
              · omega
              · have O5 : Hid (w5.ownsRow W4.heap.size 2 1 (.slice (some ⟨g5, 0, none⟩) (m + 1) cap5) (m + 1) (iv (Fw.ld (Fw.gn zs Z) least (k + 1)))) := Lib.hid (by rw [hn.out, iv_append]; exact hown')
                have B5 := Lib.hid hbb
                have L5 : Hid (m + 1 = (Fw.ld (Fw.gn zs Z) least (k + 1)).length) := Lib.hid (by rw [hn.out, List.length_append, ← hml.out]; rfl)
                clear hown' hgrow hbb
                go_wp2
                exact ⟨⟨k + 1, m + 1, g5, cap5, by omega, by go_num, rfl, by omega, L5, O5, B5⟩, by simp only [intOf]; omega⟩
            · have hn := Lib.hid (Fw.ld_snoc_f (gs := Fw.gn zs Z) (least := least) (n := k) (by rw [hgd.out]; exact hle))
              go_wp2_with fail
              go_quiet (fail)
              go_wp2
              exact ⟨⟨k + 1, m, g', cap2, by omega, by go_num, rfl, by omega, Lib.hid (by rw [hn.out]; exact hml.out), Lib.hid (by rw [hn.out]; exact own_belowAll ho.out (below_drewW wr _)), Lib.hid (hb.out.trans ((below_drewW wr _).mono hb.out.size))⟩, by simp only [intOf]; omega⟩
          · have hltz : ¬ (k : Int) < (zs.length : Int) := by omega
            have hkz : k = zs.length := by omega
            have HE : Hid (Own w.heap.size wr (.slice (some ⟨g', 0, none⟩) m cap2) G) := Lib.hid (by
              have h := ho.out
              have hm := hml.out
              rw [hkz] at h hm
              rw [← hg.out] at h hm
              unfold Own
              rw [← hm]
              exact Go.Joins.ownsRow_le h (by have := hsz.out; have := B4.out.size; omega))
            clear hkz ho
            go_wp2
            go_ret2
            exact ⟨_, rfl, HE.out, bt HB.out (bt B4.out hb.out)⟩
      · have hz := Lib.hid (Fw.lcZ_no (least := least) (fun h => hc (hlc.symm.trans h)))
        have hcb : (Fw.drC r c zs ds s != 0) = true := by simpa using hc
        rw [hlc]
        rw [hq] at CK
        clear hc hlc hq
        generalize Fw.lcZ r c zs ds s least = G at *
        generalize Fw.drZ r c zs ds s = Z at *
        generalize Fw.drR r c zs ds s = R at *
        generalize Fw.drK r c zs ds s = K at *
        generalize Fw.drC r c zs ds s = code at *
        go_enter Tryd.func24, Tryd.ntmps24
        go_wp2_with fail
        rw [← hbx, ← hW1]
        clear hbx hW1
        refine CK.out.mono ?_
        rintro e w1 ⟨rfl, b1⟩
        have B1 := Lib.hid b1
        clear b1
        go_wp2_with fail
        refine (CM.out _).mono ?_
        rintro e wm ⟨rfl, rfl⟩
        go_wp2_with fail
        refine (C.out _ B1.out).mono ?_
        rintro e w2 ⟨a, cap, rfl, o2, b2⟩
        have B2 := Lib.hid (bt HB.out (bt B1.out b2))
        clear o2 b2
        go_wp2_with fail
        go_ret2
        exact ⟨_, rfl, by rw [hz.out]; exact Own.nil _ _, bt B2.out ((Below.refl _ _).alloc (Nat.le_refl _) _)⟩
end Go.Proofs.YtmidihmbehaegaaDoor
