/-
  The worst direction for a cell (chapter 6), by the model. No condition of its own.
-/
import Derived.Test.YtmidihmbehaegaaDoorFdWm
import Derived.Test.YtmidihmbehaegaaDoorFdQ
namespace Go.Proofs.YtmidihmbehaegaaDoor
open Go.RowKit Go.Shelf Go.Deep Go.WideShapes
set_option linter.unusedVariables false
set_option maxRecDepth 100000

set_option maxHeartbeats 12800000 in
theorem specWorstWind_any (w : World) (r c : Int) (v : Value) (zs : List Int) (s cell : Int) (ho : IAt w v zs) (hl : zs.length ≤ 1048576) :
    Calls Tryd.prog 26 #[.agg #[.int .i64 r, .int .i64 c, v], .int .i64 s, .int .i64 cell] w fun e w' => P3 (Fw.wwA r c zs s cell) e ∧ Below w.heap.size w w' := by
  obtain ⟨W1, hW1⟩ : ∃ W, W = boxF w r c v 26 := ⟨_, rfl⟩
  have HB : Hid (Below w.heap.size w W1) := Lib.hid (by rw [hW1]; exact boxF_below ..)
  have K0 : Hid (∀ W, Below W1.heap.size W1 W → FC W w.heap.size r c v) := Lib.hid (fun W h => by
    have k := boxF_cells w r c v 26
    rw [← hW1] at k
    exact k.all h)
  have CK := Lib.hid (l06Ok_any W1 w.heap.size r c v zs (K0.out W1 (Below.refl _ _)) (ho.sl.below HB.out) hl)
  have CS := Lib.hid (fun W => l06Share_any s W)
  have CI := Lib.hid (fun W => l00In_any cell 0 ((zs.length : Int) - 1) W)
  have hwl : IntKind.i64.wrap ((zs.length : Int) - 1) = (zs.length : Int) - 1 := IntWalk.i64_in _ (by omega)
  have HO := Lib.hid ho
  obtain ⟨vB, vb, vcap, rfl, hvo⟩ := ho
  have hbx : boxF w r c (.slice (some ⟨vb, 0, none⟩) zs.length vcap) 26 = w.alloc (.cells #[.int .i64 r, .int .i64 c, .slice (some ⟨vb, 0, none⟩) zs.length vcap] 26) := rfl
  have HVO := Lib.hid hvo
  clear hvo
  cases h1 : Fw.ok r c zs with
  | false =>
    have hr := Lib.hid (wwA_1 (s := s) (q := cell) h1)
    rw [h1] at CK
    clear h1
    go_enter Tryd.func26, Tryd.ntmps26
    go_wp2_with fail
    rw [← hbx, ← hW1]
    clear hbx hW1
    refine CK.out.mono ?_
    rintro e w1 ⟨rfl, b1⟩
    have KB := Lib.hid (K0.out w1 b1)
    have B1 := Lib.hid (bt HB.out b1)
    obtain ⟨x0, x1, x2⟩ := KB.out.three
    clear b1
    go_wp2_with fail
    exact bodyPost_ret (v := .tuple #[.int .i64 0, .int .i64 0, .int .i64 1]) (by simp [results, Tryd.results26, go_sem]) rfl ⟨hr.out, B1.out⟩
  | true =>
    cases h2 : Fw.okS s with
    | false =>
      have hr := Lib.hid (wwA_2 (q := cell) h1 (and_ft (Ar.inB 0 cell (zs.length - 1)) h2))
      rw [h1] at CK
      rw [h2] at CS
      clear h1 h2
      go_enter Tryd.func26, Tryd.ntmps26
      go_wp2_with fail
      rw [← hbx, ← hW1]
      clear hbx hW1
      refine CK.out.mono ?_
      rintro e w1 ⟨rfl, b1⟩
      have KB := Lib.hid (K0.out w1 b1)
      have B1 := Lib.hid (bt HB.out b1)
      obtain ⟨x0, x1, x2⟩ := KB.out.three
      clear b1
      go_wp2_with fail
      refine (CS.out _).mono ?_
      rintro e ws ⟨rfl, rfl⟩
      go_wp2_with fail
      exact bodyPost_ret (v := .tuple #[.int .i64 0, .int .i64 0, .int .i64 2]) (by simp [results, Tryd.results26, go_sem]) rfl ⟨hr.out, B1.out⟩
    | true =>
      cases h3 : Ar.inB 0 cell ((zs.length : Int) - 1) with
      | false =>
        have hr := Lib.hid (wwA_2 (q := cell) h1 (and_ff (Fw.okS s) h3))
        rw [h1] at CK
        rw [h2] at CS
        rw [h3] at CI
        clear h1 h2 h3
        go_enter Tryd.func26, Tryd.ntmps26
        go_wp2_with fail
        rw [← hbx, ← hW1]
        clear hbx hW1
        refine CK.out.mono ?_
        rintro e w1 ⟨rfl, b1⟩
        have KB := Lib.hid (K0.out w1 b1)
        have B1 := Lib.hid (bt HB.out b1)
        obtain ⟨x0, x1, x2⟩ := KB.out.three
        clear b1
        go_wp2_with fail
        refine (CS.out _).mono ?_
        rintro e ws ⟨rfl, rfl⟩
        go_wp2_with fail
        refine (CI.out _).mono ?_
        rintro e wm ⟨rfl, rfl⟩
        go_wp2_with fail
        exact bodyPost_ret (v := .tuple #[.int .i64 0, .int .i64 0, .int .i64 2]) (by simp [results, Tryd.results26, go_sem]) rfl ⟨hr.out, B1.out⟩
      | true =>
        have hb2 : Hid ((Fw.okS s && Ar.inB 0 cell ((zs.length : Int) - 1)) = true) := Lib.hid (by rw [h2, h3]; rfl)
        have hA := Lib.hid (wwA_3 h1 hb2.out)
        obtain ⟨s1, s2⟩ := (okS_iff s).1 h2
        obtain ⟨q, rfl, hqz⟩ : ∃ q : Nat, cell = q ∧ q < zs.length := by
          have hh := h3
          unfold Ar.inB at hh
          simp only [Bool.and_eq_true, decide_eq_true_eq] at hh
          exact ⟨cell.toNat, by omega, by omega⟩
        rw [Int.toNat_natCast] at hA
        have H1 := Lib.hid h1
        have hzms := Lib.hid ((Fw.ok_iff _ _ _).1 h1).2
        have hz64 := (Fw.fits_len ((Fw.ok_iff _ _ _).1 h1).1).2
        rw [h1] at CK
        rw [h2] at CS
        rw [h3] at CI
        clear h1 h2 h3
        go_enter Tryd.func26, Tryd.ntmps26
        go_wp2_with fail
        rw [← hbx, ← hW1]
        clear hbx hW1
        refine CK.out.mono ?_
        rintro e w1 ⟨rfl, b1⟩
        have KB := Lib.hid (K0.out w1 b1)
        have B1 := Lib.hid (bt HB.out b1)
        obtain ⟨x0, x1, x2⟩ := KB.out.three
        clear b1
        go_wp2_with fail
        refine (CS.out _).mono ?_
        rintro e ws ⟨rfl, rfl⟩
        go_wp2_with fail
        refine (CI.out _).mono ?_
        rintro e wm ⟨rfl, rfl⟩
        go_wp2_with fail
        clear x0 x1 x2 CS CI CK
        have BW := Lib.hid (Below.refl w1.heap.size w1)
        go_loopw [9, 10, 11] (fun b m i wr => ∃ k : Nat, k ≤ 4 ∧ i = .int .i64 k ∧ b = .int .i64 (Fw.ww r c s zs q k).1 ∧ m = .int .i64 (Fw.ww r c s zs q k).2 ∧ Hid (Below w1.heap.size w1 wr)) (fun _ _ i _ => 4 - (intOf i).toNat)
        case atStart => exact ⟨0, Nat.zero_le _, rfl, rfl, rfl, BW⟩
        case round =>
          obtain ⟨k, hk, rfl, rfl, rfl, hb⟩ := hrel
          by_cases hlt : k < 4
          · have hltz : (k : Int) < 4 := by omega
            have CT := Lib.hid (l06Step_any wr w.heap.size r c _ zs k s (KB.out.all hb.out) ((HO.out.all B1.out).all hb.out) H1.out (by omega) (by omega) s1 s2)
            have hst : Hid (Fw.okMs (Fw.st r c k s zs) = true → ((Fw.ww r c s zs q k).1 < 0 ∨ (Fw.ww r c s zs q k).2 < (Fw.st r c k s zs).getD q 0 - zs.getD q 0) → Fw.ww r c s zs q (k + 1) = ((k : Int), (Fw.st r c k s zs).getD q 0 - zs.getD q 0)) := Lib.hid (fun h h2 => Fw.wwS_t h h2)
            have hsf : Hid (Fw.okMs (Fw.st r c k s zs) = true → ¬ ((Fw.ww r c s zs q k).1 < 0 ∨ (Fw.ww r c s zs q k).2 < (Fw.st r c k s zs).getD q 0 - zs.getD q 0) → Fw.ww r c s zs q (k + 1) = Fw.ww r c s zs q k) := Lib.hid (fun h h2 => Fw.wwS_f h h2)
            have hsn : Hid (Fw.okMs (Fw.st r c k s zs) = false → Fw.ww r c s zs q (k + 1) = Fw.ww r c s zs q k) := Lib.hid (fun h => Fw.wwS_no h)
            have hlen := Lib.hid (Fw.st_length r c k s zs)
            obtain ⟨nx, hnx⟩ : ∃ p, p = Fw.ww r c s zs q (k + 1) := ⟨_, rfl⟩
            have HNX := Lib.hid hnx
            rw [← hnx] at hst hsf hsn
            clear hnx
            generalize Fw.st r c k s zs = zt at *
            generalize Fw.ww r c s zs q k = bb at *
            obtain ⟨bd, bm⟩ := bb
            have hz64 : zt.length ≤ 64 := by rw [hlen.out]; exact hz64
            go_wp2_with fail
            refine CT.out.mono ?_
            rintro e w3 ⟨g2, cp2, rfl, o3, b3⟩
            obtain ⟨W4, hW4⟩ : ∃ W, W = w3.alloc (.cells #[.int .i64 r, .int .i64 c, .slice (some ⟨g2, 0, none⟩) zt.length cp2] 26) := ⟨_, rfl⟩
            have bW : Below w3.heap.size w3 W4 := by rw [hW4]; exact (Below.refl _ _).alloc (Nat.le_refl _) _
            have kn : FC W4 w3.heap.size r c (.slice (some ⟨g2, 0, none⟩) zt.length cp2) := by rw [hW4]; exact boxF_cells w3 r c _ _
            have O4 := Lib.hid (Own.belowAll o3 bW)
            have B4 := Lib.hid (bt hb.out (bt b3 bW))
            have CE := Lib.hid (l06Masses_any W4 w3.heap.size r c _ zt kn (o3.sl.below bW) (by omega))
            have KN := Lib.hid kn
            clear CT o3 b3 bW kn hb
            go_wp2_with fail
            rw [← hW4]
            clear hW4
            generalize w3.heap.size = p at *
            obtain ⟨y0, y1, n2⟩ := KN.out.three
            obtain ⟨z0, z1, o2⟩ := (KB.out.all B4.out).three
            clear y0 y1 z0 z1
            have hq2 : q < zt.length := by rw [hlen.out]; exact hqz
            have l1 := own_atD O4.out hq2
            have l2 := own_atD (Own.belowAll HVO.out (bt B1.out B4.out)) hqz
            cases hm : Fw.okMs zt with
            | false =>
              have hn := Lib.hid (HNX.out.symm.trans (hsn.out hm))
              rw [hm] at CE
              clear hm hst hsf hsn l1 l2 n2 o2
              refine CE.out.mono ?_
              rintro e w4 ⟨rfl, rfl⟩
              go_wp2_with fail
              exact ⟨⟨k + 1, by omega, by go_num, by rw [hn.out], by rw [hn.out], B4⟩, by simp only [intOf]; omega⟩
            | true =>
              obtain ⟨a1, a2⟩ := Fw.okMs_getD hm q
              obtain ⟨e1, e2⟩ := Fw.okMs_getD hzms.out q
              have hst1 := Lib.hid (hst.out hm)
              have hsf1 := Lib.hid (hsf.out hm)
              rw [hm] at CE
              clear hm hst hsf hsn
              obtain ⟨dd, hdd⟩ : ∃ d, d = zt.getD q 0 - zs.getD q 0 := ⟨_, rfl⟩
              have hwr : IntKind.i64.wrap (zt.getD q 0 - zs.getD q 0) = dd := by rw [hdd]; exact IntWalk.i64_in _ (by omega)
              rw [← hdd] at hst1 hsf1
              clear hdd a1 a2 e1 e2
              generalize zt.getD q 0 = z1 at *
              generalize zs.getD q 0 = z2 at *
              have qb0 : (0 : Int) ≤ (q : Int) := by omega
              have qb1 : (q : Int) < (zs.length : Int) := by omega
              have qb2 : (q : Int) < (zt.length : Int) := by omega
              refine CE.out.mono ?_
              rintro e w4 ⟨rfl, rfl⟩
              clear CE
              go_wp2_with fail
              go_region_held3 (fun w' => w'.cell? ⟨p, 2, none⟩ = some (.slice (some ⟨g2, 0, none⟩) zt.length cp2) ∧ w'.cell? ⟨w.heap.size, 2, none⟩ = some (.slice (some ⟨vb, 0, none⟩) zs.length vcap) ∧ w'.cell? ⟨g2, q, none⟩ = some (.int .i64 z1) ∧ w'.cell? ⟨vb, q, none⟩ = some (.int .i64 z2)) (go_keep) (fail)
              have HBD := Lib.hid (bt B4.out (bdr1 _))
              clear l1 l2 n2 o2
              by_cases hbd : bd < 0
              · have hn := Lib.hid (HNX.out.symm.trans (hst1.out (Or.inl hbd)))
                go_wp2_with fail
                exact ⟨⟨k + 1, by omega, by go_num, by rw [hn.out], by rw [hn.out], HBD⟩, by simp only [intOf]; omega⟩
              · by_cases hbm : bm < dd
                · have hn := Lib.hid (HNX.out.symm.trans (hst1.out (Or.inr hbm)))
                  go_wp2_with fail
                  exact ⟨⟨k + 1, by omega, by go_num, by rw [hn.out], by rw [hn.out], HBD⟩, by simp only [intOf]; omega⟩
                · have hn := Lib.hid (HNX.out.symm.trans (hsf1.out (fun h => h.elim hbd hbm)))
                  go_wp2_with fail
                  exact ⟨⟨k + 1, by omega, by go_num, by rw [hn.out], by rw [hn.out], HBD⟩, by simp only [intOf]; omega⟩
          · have hltz : ¬ (k : Int) < 4 := by omega
            obtain rfl : k = 4 := by omega
            have hA2 := Lib.hid (fun (h : (Fw.ww r c s zs q 4).1 < 0) => P3.mk (hA.out.trans (wwO_no h)))
            have hA3 := Lib.hid (fun (h : ¬ (Fw.ww r c s zs q 4).1 < 0) => P3.mk (hA.out.trans (wwO_yes h)))
            generalize Fw.ww r c s zs q 4 = bb at *
            obtain ⟨bd, bm⟩ := bb
            by_cases hbd : bd < 0
            · have hr := Lib.hid (hA2.out hbd)
              go_wp2_with fail
              exact bodyPost_ret (v := .tuple #[.int .i64 0, .int .i64 0, .int .i64 6]) (by simp [results, Tryd.results26, go_sem]) rfl ⟨hr.out, bt B1.out hb.out⟩
            · have hr := Lib.hid (hA3.out hbd)
              go_wp2_with fail
              exact bodyPost_ret (v := .tuple #[.int .i64 bd, .int .i64 bm, .int .i64 0]) (by simp [results, Tryd.results26, go_sem]) rfl ⟨hr.out, bt B1.out hb.out⟩
end Go.Proofs.YtmidihmbehaegaaDoor
