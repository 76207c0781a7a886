/-
  When a field does not change any more (chapter 6), by the model. No condition of its own.
-/
import Derived.Test.YtmidihmbehaegaaDoorFdQ
import Derived.Test.YtmidihmbehaegaaDoorFdSa
namespace Go.Proofs.YtmidihmbehaegaaDoor
open Go.RowKit Go.Shelf Go.Deep Go.WideShapes
set_option linter.unusedVariables false
set_option maxRecDepth 100000

set_option maxHeartbeats 800000 in
theorem l04AbsF_any (a : Int) (w : World) (h1 : -1000000000000000 ≤ a) (h2 : a ≤ 1000000000000000) :
    Calls Tryd.prog 47 #[.int .i64 a] w fun e w' => e = .returned (.int .i64 (max a (-a))) ∧ w = w' := by
  go_enter Tryd.func47, Tryd.ntmps47
  go_wp2
  all_goals
    go_ret
    exact ⟨ret_int (by omega), rfl⟩
set_option maxHeartbeats 800000 in
theorem l00MaxF_any (a b c : Int) (w : World) (h : max a b = c) :
    Calls Tryd.prog 46 #[.int .i64 a, .int .i64 b] w fun e w' => e = .returned (.int .i64 c) ∧ w = w' := by
  go_enter Tryd.func46, Tryd.ntmps46
  go_wp2
  all_goals
    go_ret
    exact ⟨ret_int (by omega), rfl⟩
/-- the field variable of the walk: block o, its masses in row g (at first the caller's, then one of its own) -/
structure SN (w0 w : World) (r c : Int) (o g cap : Nat) (ys : List Int) : Prop where
  box : Whole w o 26 #[.int .i64 r, .int .i64 c, .slice (some ⟨g, 0, none⟩) ys.length cap]
  row : ∃ B, Own B w (.slice (some ⟨g, 0, none⟩) ys.length cap) ys
  bel : Below w0.heap.size w0 w
  og : o ≠ g
  ow : w0.heap.size ≤ o
theorem SN.next {w0 w w2 : World} {r c : Int} {o g cap g2 cap2 : Nat} {ys zt : List Int} (h : SN w0 w r c o g cap ys) (ho : Own w.heap.size w2 (.slice (some ⟨g2, 0, none⟩) zt.length cap2) zt) (hb : Below w.heap.size w w2) :
    SN w0 (setF w2 o r c (.slice (some ⟨g2, 0, none⟩) zt.length cap2)) r c o g2 cap2 zt := by
  have l1 := (World.ownsRow.lt ho g2 rfl).1
  have l2 := h.box.lt
  have hg := setF_only w2 o r c (.slice (some ⟨g2, 0, none⟩) zt.length cap2)
  exact ⟨setF_whole (h.box.all hb) _ _ _, ⟨_, Own.other ho hg (by omega)⟩, setF_below (bt h.bel hb) h.ow _ _ _, by omega, h.ow⟩
set_option maxHeartbeats 12800000 in
theorem specSettledField_any (w : World) (r c : Int) (v : Value) (zs : List Int) (s l : Int) (ho : IAt w v zs) (hl : zs.length ≤ 1048576) :
    Calls Tryd.prog 28 #[.agg #[.int .i64 r, .int .i64 c, v], .int .i64 s, .int .i64 l] w fun e w' => P2 (Fw.sfA r c zs s l) e ∧ Below w.heap.size w w' := by
  obtain ⟨W1, hW1⟩ : ∃ W, W = boxF w r c v 26 := ⟨_, rfl⟩
  have HB : Hid (Below w.heap.size w W1) := Lib.hid (by rw [hW1]; exact boxF_below ..)
  have K0 : Hid (∀ W, Below W1.heap.size W1 W → FC W w.heap.size r c v) := Lib.hid (fun W h => by
    have k := boxF_cells w r c v 26
    rw [← hW1] at k
    exact k.all h)
  have CK := Lib.hid (l06Ok_any W1 w.heap.size r c v zs (K0.out W1 (Below.refl _ _)) (ho.sl.below HB.out) hl)
  have CS := Lib.hid (fun W => l06Share_any s W)
  have CM := Lib.hid (fun W => l06Mass_any l W)
  have HO := Lib.hid ho
  obtain ⟨vB, vb, vcap, rfl, hvo⟩ := ho
  have hbx : boxF w r c (.slice (some ⟨vb, 0, none⟩) zs.length vcap) 26 = w.alloc (.cells #[.int .i64 r, .int .i64 c, .slice (some ⟨vb, 0, none⟩) zs.length vcap] 26) := rfl
  have HVO := Lib.hid hvo
  clear hvo
  cases h1 : Fw.ok r c zs with
  | false =>
    have hr := Lib.hid (sfA_1 (s := s) (l := l) h1)
    rw [h1] at CK
    clear h1
    go_enter Tryd.func28, Tryd.ntmps28
    go_wp2_with fail
    rw [← hbx, ← hW1]
    clear hbx hW1
    refine CK.out.mono ?_
    rintro e w1 ⟨rfl, b1⟩
    have B1 := Lib.hid (bt HB.out b1)
    clear b1
    go_wp2_with fail
    exact bodyPost_ret (v := .tuple #[.int .i64 0, .int .i64 1]) (by simp [results, Tryd.results28, go_sem]) rfl ⟨hr.out, B1.out⟩
  | true =>
    cases h2 : Fw.okS s with
    | false =>
      have hr := Lib.hid (sfA_2 (s := s) (l := l) h1 (and_ft (Fw.okM l) h2))
      rw [h1] at CK
      rw [h2] at CS
      clear h1 h2
      go_enter Tryd.func28, Tryd.ntmps28
      go_wp2_with fail
      rw [← hbx, ← hW1]
      clear hbx hW1
      refine CK.out.mono ?_
      rintro e w1 ⟨rfl, b1⟩
      have B1 := Lib.hid (bt HB.out b1)
      clear b1
      go_wp2_with fail
      refine (CS.out _).mono ?_
      rintro e ws ⟨rfl, rfl⟩
      go_wp2_with fail
      exact bodyPost_ret (v := .tuple #[.int .i64 0, .int .i64 2]) (by simp [results, Tryd.results28, go_sem]) rfl ⟨hr.out, B1.out⟩
    | true =>
      cases h3 : Fw.okM l with
      | false =>
        have hr := Lib.hid (sfA_2 (s := s) (l := l) h1 (and_ff (Fw.okS s) h3))
        rw [h1] at CK
        rw [h2] at CS
        rw [h3] at CM
        clear h1 h2 h3
        go_enter Tryd.func28, Tryd.ntmps28
        go_wp2_with fail
        rw [← hbx, ← hW1]
        clear hbx hW1
        refine CK.out.mono ?_
        rintro e w1 ⟨rfl, b1⟩
        have B1 := Lib.hid (bt HB.out b1)
        clear b1
        go_wp2_with fail
        refine (CS.out _).mono ?_
        rintro e ws ⟨rfl, rfl⟩
        go_wp2_with fail
        refine (CM.out _).mono ?_
        rintro e wm ⟨rfl, rfl⟩
        go_wp2_with fail
        exact bodyPost_ret (v := .tuple #[.int .i64 0, .int .i64 2]) (by simp [results, Tryd.results28, go_sem]) rfl ⟨hr.out, B1.out⟩
      | true =>
        have hb2 : Hid ((Fw.okS s && Fw.okM l) = true) := Lib.hid (by rw [h2, h3]; rfl)
        have hA := Lib.hid (sfA_3 (s := s) (l := l) h1 hb2.out)
        obtain ⟨s1, s2⟩ := (okS_iff s).1 h2
        have H1 := Lib.hid h1
        rw [h1] at CK
        rw [h2] at CS
        rw [h3] at CM
        clear h1 h2 h3
        go_enter Tryd.func28, Tryd.ntmps28
        go_wp2_with fail
        rw [← hbx, ← hW1]
        clear hbx hW1
        refine CK.out.mono ?_
        rintro e w1 ⟨rfl, b1⟩
        have KB := Lib.hid (K0.out w1 b1)
        have B1 := Lib.hid (bt HB.out b1)
        clear b1 K0 CK
        go_wp2_with fail
        refine (CS.out _).mono ?_
        rintro e ws ⟨rfl, rfl⟩
        go_wp2_with fail
        refine (CM.out _).mono ?_
        rintro e wm ⟨rfl, rfl⟩
        clear CS CM
        obtain ⟨x0, x1, x2⟩ := KB.out.three
        have HN0 : Hid (SN w (w1.alloc (.cells #[.int .i64 r, .int .i64 c, .slice (some ⟨vb, 0, none⟩) zs.length vcap] 26)) r c w1.heap.size vb vcap zs) := Lib.hid (by
          have ba : Below w1.heap.size w1 (w1.alloc (.cells #[.int .i64 r, .int .i64 c, .slice (some ⟨vb, 0, none⟩) zs.length vcap] 26)) := (Below.refl _ _).alloc (Nat.le_refl _) _
          have l1 := (World.ownsRow.lt HVO.out vb rfl).2
          have l2 := B1.out.size
          exact ⟨Whole.new _ _ _, ⟨_, (Own.belowAll HVO.out (bt B1.out ba))⟩, bt B1.out ba, by omega, l2⟩)
        go_wp2_with fail
        clear x0 x1 x2 KB
        generalize w1.alloc (.cells #[.int .i64 r, .int .i64 c, .slice (some ⟨vb, 0, none⟩) zs.length vcap] 26) = W2 at *
        generalize w1.heap.size = o at *
        go_loopw [9] (fun i wr => ∃ (k g cap : Nat) (ys : List Int), k ≤ 101 ∧ i = .int .i64 k ∧ Hid (SN w wr r c o g cap ys) ∧ Hid (Fw.ok r c ys = true) ∧ Hid (Fw.sfA r c zs s l = Fw.sf r c s l (101 - k) k ys)) (fun i _ => 101 - (intOf i).toNat)
        case atStart => exact ⟨0, vb, vcap, zs, Nat.zero_le _, rfl, HN0, H1, hA⟩
        case round =>
          obtain ⟨k, g, cap, ys, hk, rfl, hf, hok, hrun⟩ := hrel
          by_cases hlt : k < 101
          · have hltz : (k : Int) ≤ 100 := by omega
            obtain ⟨gB, hgo⟩ := hf.out.row
            have HGO := Lib.hid hgo
            have CT := Lib.hid (l06Step_any wr o r c _ ys 0 s hf.out.box.fc (hgo.at_ rfl) hok.out (by omega) (by omega) s1 s2)
            have hst := Lib.hid (fun (h : Fw.okMs (Fw.st r c 0 s ys) = true) (h2 : Fw.mc ys (Fw.st r c 0 s ys) ys.length ≤ l) => sf_in (r := r) (c := c) (s := s) (l := l) (ys := ys) hlt h h2)
            have hso := Lib.hid (fun (h : Fw.okMs (Fw.st r c 0 s ys) = true) (h2 : ¬ Fw.mc ys (Fw.st r c 0 s ys) ys.length ≤ l) => sf_on (r := r) (c := c) (s := s) (l := l) (ys := ys) hlt h h2)
            have hsf := Lib.hid (fun (h : Fw.okMs (Fw.st r c 0 s ys) = false) => sf_out (r := r) (c := c) (s := s) (l := l) (ys := ys) hlt h)
            have hok2 := Lib.hid (fun (h : Fw.okMs (Fw.st r c 0 s ys) = true) => Fw.st_ok (d := 0) (s := s) hok.out h)
            have hlen := Lib.hid (Fw.st_length r c 0 s ys)
            have hy64 := (Fw.fits_len ((Fw.ok_iff _ _ _).1 hok.out).1).2
            have hyms := Lib.hid ((Fw.ok_iff _ _ _).1 hok.out).2
            clear hgo
            generalize Fw.st r c 0 s ys = zt at *
            have hz64 : zt.length ≤ 64 := by rw [hlen.out]; exact hy64
            go_wp2_with fail
            refine CT.out.mono ?_
            rintro e w3 ⟨g2, cp2, rfl, o3, b3⟩
            obtain ⟨W4, hW4⟩ : ∃ W, W = w3.alloc (.cells #[.int .i64 r, .int .i64 c, .slice (some ⟨g2, 0, none⟩) zt.length cp2] 26) := ⟨_, rfl⟩
            have bW : Below w3.heap.size w3 W4 := by rw [hW4]; exact (Below.refl _ _).alloc (Nat.le_refl _) _
            have kn : FC W4 w3.heap.size r c (.slice (some ⟨g2, 0, none⟩) zt.length cp2) := by rw [hW4]; exact boxF_cells w3 r c _ _
            have O4 := Lib.hid (Own.belowAll o3 bW)
            have B4 := Lib.hid (bt b3 bW)
            have CE := Lib.hid (l06Masses_any W4 w3.heap.size r c _ zt kn (o3.sl.below bW) (by omega))
            have KN := Lib.hid kn
            clear CT o3 b3 bW kn
            go_wp2_with fail
            rw [← hW4]
            clear hW4
            generalize w3.heap.size = p at *
            have KK : Hid (∀ W, Below W4.heap.size W4 W → FC W p r c (.slice (some ⟨g2, 0, none⟩) zt.length cp2) ∧ FC W o r c (.slice (some ⟨g, 0, none⟩) ys.length cap) ∧ (∀ j, j < zt.length → W.cell? ⟨g2, j, none⟩ = some (.int .i64 (zt.getD j 0)) ∧ W.cell? ⟨g, j, none⟩ = some (.int .i64 (ys.getD j 0)))) := Lib.hid (fun W h => by
              have hW := bt B4.out h
              refine ⟨KN.out.all h, (hf.out.box.fc).all hW, fun j hj => ⟨own_atD (Own.belowAll O4.out h) hj, own_atD (Own.belowAll HGO.out hW) (by have := hlen.out; omega)⟩⟩)
            cases hm : Fw.okMs zt with
            | false =>
              have hr := Lib.hid (P2.mk (hrun.out.trans (hsf.out hm)))
              rw [hm] at CE
              clear hm hst hsf hok2 hrun hok HGO hso
              refine CE.out.mono ?_
              rintro e w4 ⟨rfl, rfl⟩
              go_wp2_with fail
              exact bodyPost_ret (v := .tuple #[.int .i64 0, .int .i64 6]) (by simp [results, Tryd.results28, go_sem]) rfl ⟨hr.out, bt hf.out.bel B4.out⟩
            | true =>
              have HO2 := Lib.hid (hok2.out hm)
              have hst1 := Lib.hid (hst.out hm)
              have hso1 := Lib.hid (hso.out hm)
              have hzms := Lib.hid hm
              rw [hm] at CE
              clear hm hst hsf hok2 hok HGO hso
              refine CE.out.mono ?_
              rintro e w4 ⟨rfl, rfl⟩
              have hylen : Hid (ys.length = zt.length) := Lib.hid hlen.out.symm
              clear CE hlen
              go_wp2_with fail
              go_loopw [11, 12] (fun t i wq => ∃ j : Nat, j ≤ zt.length ∧ i = .int .i64 j ∧ t = .int .i64 (Fw.mc ys zt j) ∧ Hid (Below W4.heap.size W4 wq)) (fun _ i _ => zt.length - (intOf i).toNat)
              case atStart => exact ⟨0, Nat.zero_le _, rfl, rfl, Lib.hid (Below.refl _ _)⟩
              case round =>
                obtain ⟨j, hj, rfl, rfl, hb⟩ := hrel
                obtain ⟨kp, ko, kr⟩ := KK.out _ hb.out
                have k2 := kp.c2
                have o2 := ko.c2
                by_cases hlj : j < zt.length
                · have hljz : (j : Int) < (zt.length : Int) := by omega
                  have hlyz : (j : Int) < (ys.length : Int) := by have := hylen.out; omega
                  have hj0 : (0 : Int) ≤ (j : Int) := by omega
                  obtain ⟨l1, l2⟩ := kr j hlj
                  obtain ⟨a1, a2⟩ := Fw.okMs_getD hzms.out j
                  obtain ⟨e1, e2⟩ := Fw.okMs_getD hyms.out j
                  obtain ⟨dd, hdd⟩ : ∃ d, d = zt.getD j 0 - ys.getD j 0 := ⟨_, rfl⟩
                  have CA := Lib.hid (fun W => l04AbsF_any dd W (by omega) (by omega))
                  have hn : Hid (max (Fw.mc ys zt j) (max dd (-dd)) = Fw.mc ys zt (j + 1)) := Lib.hid (by
                    show _ = max (Fw.mc ys zt j) (max (ys.getD j 0 - zt.getD j 0) (zt.getD j 0 - ys.getD j 0))
                    omega)
                  have hwr : IntKind.i64.wrap (zt.getD j 0 - ys.getD j 0) = dd := by rw [hdd]; exact IntWalk.i64_in _ (by omega)
                  clear hdd a1 a2 e1 e2
                  have CX := Lib.hid (fun W => l00MaxF_any _ _ _ W hn.out)
                  clear hn kr kp ko
                  obtain ⟨mn, hmn⟩ : ∃ m, m = Fw.mc ys zt (j + 1) := ⟨_, rfl⟩
                  have HMN := Lib.hid hmn
                  rw [← hmn] at CX
                  clear hmn
                  generalize zt.getD j 0 = z1 at *
                  generalize ys.getD j 0 = z2 at *
                  generalize Fw.mc ys zt j = m0 at CX ⊢
                  generalize max dd (-dd) = ad at *
                  go_wp2_with fail
                  go_region_held3 (fun w' => w'.cell? ⟨p, 2, none⟩ = some (.slice (some ⟨g2, 0, none⟩) zt.length cp2) ∧ w'.cell? ⟨o, 2, none⟩ = some (.slice (some ⟨g, 0, none⟩) ys.length cap) ∧ w'.cell? ⟨g2, j, none⟩ = some (.int .i64 z1) ∧ w'.cell? ⟨g, j, none⟩ = some (.int .i64 z2)) (go_keep)
                    (first
                      | (go_at_call 47; refine (CA.out _).mono ?_; rintro e w' ⟨rfl, rfl⟩)
                      | (go_at_call 46; refine (CX.out _).mono ?_; rintro e w' ⟨rfl, rfl⟩))
                  have HBD := Lib.hid (bt hb.out (bdr1 _))
                  go_wp2_with fail
                  exact ⟨⟨j + 1, by omega, by go_num, by rw [HMN.out], HBD⟩, by simp only [intOf]; omega⟩
                · have hljz : ¬ (j : Int) < (zt.length : Int) := by omega
                  have hjn : Hid (Fw.mc ys zt j = Fw.mc ys zt ys.length) := Lib.hid (by rw [show j = ys.length by have := hylen.out; omega])
                  rw [hjn.out]
                  clear kr hjn
                  generalize Fw.mc ys zt ys.length = m0 at *
                  by_cases hg : m0 ≤ l
                  · have hr := Lib.hid (P2.mk (hrun.out.trans (hst1.out (by omega))))
                    go_wp2_with fail
                    exact bodyPost_ret (v := .tuple #[.int .i64 k, .int .i64 0]) (by simp [results, Tryd.results28, go_sem]) rfl ⟨hr.out, bt hf.out.bel (bt B4.out hb.out)⟩
                  · have HR2 := Lib.hid (hrun.out.trans (hso1.out (by omega)))
                    obtain ⟨n0, n1, n2⟩ := kp.three
                    have KO := hf.out.box.all (bt B4.out hb.out)
                    obtain ⟨c0, c1, c2⟩ := KO.fc.three
                    have f0 := KO.free 0
                    have f1 := KO.free 1
                    have f2 := KO.free 2
                    have HN := Lib.hid (hf.out.next (Own.belowAll O4.out hb.out) (bt B4.out hb.out))
                    unfold setF at HN
                    clear KO ko kp
                    go_wp2_with fail
                    exact ⟨⟨k + 1, g2, cp2, zt, by omega, by go_num, HN, HO2, HR2⟩, by simp only [intOf]; omega⟩
          · have hltz : ¬ (k : Int) ≤ 100 := by omega
            have hr := Lib.hid (P2.mk (a := 0) (b := 3) (hrun.out.trans (by rw [show 101 - k = 0 by omega]; rfl)))
            go_wp2_with fail
            exact bodyPost_ret (v := .tuple #[.int .i64 0, .int .i64 3]) (by simp [results, Tryd.results28, go_sem]) rfl ⟨hr.out, hf.out.bel⟩
end Go.Proofs.YtmidihmbehaegaaDoor
