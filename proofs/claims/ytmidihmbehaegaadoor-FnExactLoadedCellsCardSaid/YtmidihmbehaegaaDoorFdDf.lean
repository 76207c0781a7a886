/-
  LoadedCells of chapter 6 by the program. Its condition: impl.leeWays holds what the program's text lays.
-/
import Derived.Test.YtmidihmbehaegaaDoorFdDc
import Derived.Test.YtmidihmbehaegaaDoorFdDd
namespace Go.Proofs.YtmidihmbehaegaaDoor
open Go.RowKit Go.Shelf Go.Deep Go.Maps Go.WideShapes
set_option linter.unusedVariables false
set_option maxRecDepth 100000

set_option maxHeartbeats 12800000 in
theorem implLoadedCells_any (w : World) (r c : Int) (v : Value) (zs : List Int) (u : Value) (ds : List Int) (s least : Int) (ho : IAt w v zs) (hl : zs.length ≤ 1048576) (hu : Sl w u ds) (hl2 : ds.length ≤ 1048576) (hw : WaysAt w) :
    Calls Tryd.prog 25 #[.agg #[.int .i64 r, .int .i64 c, v], u, .int .i64 s, .int .i64 least] w (RZC w (Fw.lcZ r c zs ds s least) (Fw.lcC r c zs ds s least)) := by
  obtain ⟨i0, hi, hz0, hz1, hz2⟩ := info_parts info_i64
  obtain ⟨ua, ucap, rfl⟩ := hu.form
  obtain ⟨W1, hW1⟩ : ∃ W, W = boxF w r c v 26 := ⟨_, rfl⟩
  have HB : Hid (Below w.heap.size w W1) := Lib.hid (by rw [hW1]; exact boxF_below ..)
  have CM := Lib.hid (fun W => isDrift_any least W)
  have CF := Lib.hid (fun b W (h : Below W1.heap.size W1 W) => fieldCode_any W r c v zs b ((ho.sl.below HB.out).below h) hl)
  have C := Lib.hid (fun W (h : Below W1.heap.size W1 W) => implDriftGain_any W r c v zs (.slice ua ds.length ucap) ds s ((ho.all HB.out).all h) hl ((hu.below HB.out).below h) hl2 ((hw.below HB.out).below h))
  have K0 : Hid (∀ W, Below W1.heap.size W1 W → W.cell? ⟨w.heap.size, 0, none⟩ = some (.int .i64 r) ∧ W.cell? ⟨w.heap.size, 1, none⟩ = some (.int .i64 c) ∧ W.cell? ⟨w.heap.size, 2, none⟩ = some v) := Lib.hid (fun W h => by
    have k := boxF_cells w r c v 26
    rw [← hW1] at k
    exact (k.all h).three)
  obtain ⟨vB, vb, vcap, rfl, hvo⟩ := ho
  have hbx : boxF w r c (.slice (some ⟨vb, 0, none⟩) zs.length vcap) 26 = w.alloc (.cells #[.int .i64 r, .int .i64 c, .slice (some ⟨vb, 0, none⟩) zs.length vcap] 26) := rfl
  have hsz : Hid (W1.heap.size = w.heap.size + 1) := Lib.hid (by rw [hW1]; exact boxF_size ..)
  obtain ⟨x0, x1, x2⟩ := K0.out W1 (Below.refl _ _)
  clear hvo hu hw
  generalize hq : Fw.ok r c zs = p at *
  generalize hm : Fw.okM least = q at *
  have CF := Lib.hid (fun W h => CF.out q W h)
  cases hcd : Fw.cd p q != 0 with
  | true =>
    have hlc : Hid (Fw.lcC r c zs ds s least = Fw.cd p q) := Lib.hid (by
      cases p with
      | false => rw [Fw.lcC_1 hq]; rfl
      | true =>
        cases q with
        | false => rw [Fw.lcC_2 hq hm]; rfl
        | true => cases hcd)
    have hz : Hid (Fw.lcZ r c zs ds s least = []) := Lib.hid (Fw.lcZ_no (by rw [hlc.out]; simpa using hcd))
    rw [hlc.out, hz.out]
    clear hlc hz hq hm
    generalize Fw.cd p q = code at *
    go_enter Tryd.func25, Tryd.ntmps25
    go_wp2_with fail
    rw [← hbx, ← hW1]
    clear hbx hW1
    go_region_held3 (fun w' => w'.cell? ⟨w.heap.size, 0, none⟩ = some (.int .i64 r) ∧ w'.cell? ⟨w.heap.size, 1, none⟩ = some (.int .i64 c) ∧ w'.cell? ⟨w.heap.size, 2, none⟩ = some (.slice (some ⟨vb, 0, none⟩) zs.length vcap)) (go_keep)
      (first
        | (go_at_call 43; refine (CM.out _).mono ?_; rintro e w' ⟨rfl, rfl⟩)
        | (go_at_call 37; refine (CF.out _ (bdr1 _)).mono ?_; rintro e w1 ⟨rfl, b1⟩; have b10 := bt (bdr1 _) b1; obtain ⟨y0, y1, y2⟩ := K0.out w1 b10))
    all_goals (
      go_wp2_with fail
      go_ret2
      exact ⟨_, rfl, Own.nil _ _, bt HB.out b10⟩)
  | false =>
    have hpq : p = true ∧ q = true := by cases p <;> cases q <;> first | exact ⟨rfl, rfl⟩ | (exfalso; revert hcd; decide)
    obtain ⟨rfl, rfl⟩ := hpq
    have hlc := Fw.lcC_t (r := r) (c := c) (zs := zs) (ds := ds) (s := s) hm
    rw [show Fw.cd true true = 0 from rfl] at CF
    clear hcd hm
    by_cases hc : Fw.drC r c zs ds s = 0
    · obtain ⟨hok, hms, hlen, -⟩ := Fw.dr_fine hc
      have hzs := Lib.hid ((Fw.ok_iff _ _ _).1 hok).2
      have hn := Fw.fits_len ((Fw.ok_iff _ _ _).1 hok).1
      have hg := Lib.hid (Fw.lcZ_0 (least := least) (hlc.trans hc))
      have HMS := Lib.hid hms
      have HL := Lib.hid hlen
      rw [hlc, hc]
      have C := Lib.hid (fun W h => C.out W h)
      rw [hc, Fw.dgZ_0 hc] at C
      have HGL := Lib.hid (Fw.gn_length hlen)
      clear hc hok hms hlc hq hlen
      generalize Fw.lcZ r c zs ds s least = G at *
      generalize Fw.drZ r c zs ds s = Z at *
      go_enter Tryd.func25, Tryd.ntmps25
      go_wp2_with fail
      rw [← hbx, ← hW1]
      clear hbx hW1
      go_region_held3 (fun w' => w'.cell? ⟨w.heap.size, 0, none⟩ = some (.int .i64 r) ∧ w'.cell? ⟨w.heap.size, 1, none⟩ = some (.int .i64 c) ∧ w'.cell? ⟨w.heap.size, 2, none⟩ = some (.slice (some ⟨vb, 0, none⟩) zs.length vcap)) (go_keep)
        (first
          | (go_at_call 43; refine (CM.out _).mono ?_; rintro e w' ⟨rfl, rfl⟩)
          | (go_at_call 37; refine (CF.out _ (bdr1 _)).mono ?_; rintro e w1 ⟨rfl, b1⟩; have b10 := bt (bdr1 _) b1; obtain ⟨y0, y1, y2⟩ := K0.out w1 b10))
      all_goals (
        have B1 := Lib.hid b10
        clear CM CF
        go_wp2_with fail
        refine (C.out _ B1.out).mono ?_
        rintro e w2 ⟨gu, rfl, o2, b2⟩
        have B2 := Lib.hid (bt B1.out b2)
        obtain ⟨g, gcap, hgf, hg1, hg2⟩ := World.ownsRow.form o2 (by rw [HGL.out]; omega)
        subst hgf
        have O2 := Lib.hid o2
        have hgl : (Fw.gn zs Z).length ≤ 64 := by rw [HGL.out]; omega
        clear o2 b2 b1 b10 y0 y1 y2 hg1 hg2
        go_wp2_with (at_make; refine wpList_make_own _ rfl _ _ 22 rfl w2.heap.size 2 i0 (.int .i64 0) 1 Tryd.underlying22 hi hz0 hz1 .i64 .i64 _ (Fw.gn zs Z).length rfl rfl rfl ?c1 ?c2 ?c3 ?_)
        case c1 => rw [hz2]; omega
        case c2 => unfold maxLen; omega
        case c3 => exact Nat.le_refl _
        intro w3 hown hgrw
        have B3 := Lib.hid ((Below.refl w2.heap.size w2).grown hgrw (Nat.le_refl _) (fun j hj => by cases hj))
        have O3 : Hid (w3.ownsRow w2.heap.size 2 1 (.slice (some ⟨w2.heap.size, 0, none⟩) 0 (Fw.gn zs Z).length) 0 (iv (Fw.ld (Fw.gn zs Z) least 0))) := Lib.hid hown
        clear hown hgrw
        go_wp2_with fail
        go_loopw [13, 14, 15, 38] (fun o _ _ i wr => ∃ (k m g' cap' : Nat), k ≤ (Fw.gn zs Z).length ∧ i = .int .i64 k ∧ o = .slice (some ⟨g', 0, none⟩) m cap' ∧ m ≤ k ∧ Hid (m = (Fw.ld (Fw.gn zs Z) least k).length) ∧ Hid (wr.ownsRow w2.heap.size 2 1 (.slice (some ⟨g', 0, none⟩) m cap') m (iv (Fw.ld (Fw.gn zs Z) least k))) ∧ Hid (Below w2.heap.size w2 wr)) (fun _ _ _ i _ => (Fw.gn zs Z).length - (intOf i).toNat)
        case atStart => exact ⟨0, 0, w2.heap.size, (Fw.gn zs Z).length, Nat.zero_le _, rfl, rfl, Nat.le_refl _, Lib.hid rfl, O3, B3⟩
        case round =>
          obtain ⟨k, m, g', cap2, hk, rfl, rfl, hmk, hml, ho, hb⟩ := hrel
          by_cases hlt : k < (Fw.gn zs Z).length
          · have hltz : (k : Int) < ((Fw.gn zs Z).length : Int) := by omega
            have c1 := own_cell (Own.belowAll O2.out hb.out) (List.getElem?_eq_getElem hlt)
            have hgd : Hid ((Fw.gn zs Z).getD k 0 = (Fw.gn zs Z)[k]) := Lib.hid (by rw [List.getD_eq_getElem?_getD, List.getElem?_eq_getElem hlt]; rfl)
            have hbs := hb.out.size
            generalize (Fw.gn zs Z)[k] = z at *
            by_cases hle : least ≤ z
            · have hn2 := Lib.hid (Fw.ld_snoc_t (gs := Fw.gn zs Z) (least := least) (n := k) (by rw [hgd.out]; exact hle))
              go_wp2_with (at_builtin; refine wpList_append_own _ rfl _ _ 22 rfl w2.heap.size 2 i0 (.int .i64 0) 1 8 Tryd.underlying22 hi hz0 hz1 hz2 rfl (by decide) _ _ _ rfl (ho.out.alloc _) ⟨wr.heap.size, 0, none⟩ 1 1 [.int .i64 (k : Int)] rfl rfl (row_new _ [_] _) (iv_cell [(k : Int)]) ?c3 ?c4 ?c5 ?_)
              case c3 => unfold maxLen; omega
              case c4 => omega
              case c5 => simp; omega
              intro v' w5 hown' hgrow _
              have hbb := (hb.out.alloc hb.out.size _).grown hgrow (by simp; omega) (fun j hj => (World.ownsRow.lt ho.out j hj).1)
              rcases Go.Joins.ownsRow_forms hown' with ⟨-, h0⟩ | ⟨g5, cap5, rfl⟩
              · omega
              · have O5 : Hid (w5.ownsRow w2.heap.size 2 1 (.slice (some ⟨g5, 0, none⟩) (m + 1) cap5) (m + 1) (iv (Fw.ld (Fw.gn zs Z) least (k + 1)))) := Lib.hid (by rw [hn2.out, iv_append]; exact hown')
                have B5 := Lib.hid hbb
                have L5 : Hid (m + 1 = (Fw.ld (Fw.gn zs Z) least (k + 1)).length) := Lib.hid (by rw [hn2.out, List.length_append, ← hml.out]; rfl)
                clear hown' hgrow hbb
                go_wp2
                exact ⟨⟨k + 1, m + 1, g5, cap5, by omega, by go_num, rfl, by omega, L5, O5, B5⟩, by simp only [intOf]; omega⟩
            · have hn2 := Lib.hid (Fw.ld_snoc_f (gs := Fw.gn zs Z) (least := least) (n := k) (by rw [hgd.out]; exact hle))
              go_wp2
              exact ⟨⟨k + 1, m, g', cap2, by omega, by go_num, rfl, by omega, Lib.hid (by rw [hn2.out]; exact hml.out), Lib.hid (by rw [hn2.out]; exact ho.out), hb⟩, by simp only [intOf]; omega⟩
          · have hltz : ¬ (k : Int) < ((Fw.gn zs Z).length : Int) := by omega
            have hkz : k = zs.length := by have := HGL.out; omega
            have HE : Hid (Own w.heap.size wr (.slice (some ⟨g', 0, none⟩) m cap2) G) := Lib.hid (by
              have h := ho.out
              have hm := hml.out
              rw [hkz] at h hm
              rw [← hg.out] at h hm
              unfold Own
              rw [← hm]
              exact Go.Joins.ownsRow_le h (by have := hsz.out; have := B2.out.size; omega))
            clear hkz ho
            go_wp2
            go_ret2
            exact ⟨_, rfl, HE.out, bt HB.out (bt B2.out hb.out)⟩)
    · have hz := Lib.hid (Fw.lcZ_no (least := least) (fun h => hc (hlc.symm.trans h)))
      have hcb : (Fw.drC r c zs ds s != 0) = true := by simpa using hc
      rw [hlc, hz.out]
      clear hc hlc hq hz
      generalize Fw.dgZ r c zs ds s = Z at *
      generalize Fw.drC r c zs ds s = code at *
      go_enter Tryd.func25, Tryd.ntmps25
      go_wp2_with fail
      rw [← hbx, ← hW1]
      clear hbx hW1
      go_region_held3 (fun w' => w'.cell? ⟨w.heap.size, 0, none⟩ = some (.int .i64 r) ∧ w'.cell? ⟨w.heap.size, 1, none⟩ = some (.int .i64 c) ∧ w'.cell? ⟨w.heap.size, 2, none⟩ = some (.slice (some ⟨vb, 0, none⟩) zs.length vcap)) (go_keep)
        (first
          | (go_at_call 43; refine (CM.out _).mono ?_; rintro e w' ⟨rfl, rfl⟩)
          | (go_at_call 37; refine (CF.out _ (bdr1 _)).mono ?_; rintro e w1 ⟨rfl, b1⟩; have b10 := bt (bdr1 _) b1; obtain ⟨y0, y1, y2⟩ := K0.out w1 b10))
      all_goals (
        have B1 := Lib.hid b10
        clear CM CF
        go_wp2_with fail
        refine (C.out _ B1.out).mono ?_
        rintro e w2 ⟨gu, rfl, o2, b2⟩
        have B2 := Lib.hid (bt B1.out b2)
        clear o2 b2 b1 b10 y0 y1 y2
        go_wp2_with fail
        go_ret2
        exact ⟨_, rfl, Own.nil _ _, bt HB.out B2.out⟩)
end Go.Proofs.YtmidihmbehaegaaDoor
