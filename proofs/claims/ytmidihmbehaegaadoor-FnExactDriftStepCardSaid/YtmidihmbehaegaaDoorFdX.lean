/-
  A step of drift (chapter 6), by the model and by the program. Its condition: impl.leeWays holds what the program's text lays.
-/
import Derived.Test.YtmidihmbehaegaaDoorFdR
import Derived.Test.YtmidihmbehaegaaDoorFdP
namespace Go.Proofs.YtmidihmbehaegaaDoor
open Go.RowKit Go.Shelf Go.Deep Go.Maps Go.WideShapes
set_option linter.unusedVariables false
set_option maxRecDepth 100000

theorem okDs_one (d : Int) : Fw.okDs [d] = Fw.okD d := by unfold Fw.okDs; simp
theorem both_one {d s : Int} (h1 : Fw.okD d = true) (h2 : Fw.okS s = true) : (Fw.okDs [d] && Fw.okS s) = true := by rw [okDs_one, h1, h2]; rfl
theorem FV.mkN {w0 w1 w2 : World} {q : Nat} {r c : Int} {g cap n : Nat} {zs : List Int} (b1 : Below w0.heap.size w0 w1) (kr : Whole w1 q 26 #[.int .i64 0, .int .i64 0, .slice none 0 0]) (hq : w0.heap.size ≤ q) (o2 : Own w1.heap.size w2 (.slice (some ⟨g, 0, none⟩) n cap) zs) (bl : Below w1.heap.size w1 w2) :
    FV w0 (w2.alloc (.cells #[.int .i64 r, .int .i64 c, .slice (some ⟨g, 0, none⟩) n cap] 26)) q r c w2.heap.size g cap n zs := by
  have hn := own_len o2
  subst hn
  obtain ⟨l1, l2⟩ := World.ownsRow.lt o2 g rfl
  have kq := kr.lt
  have l3 : w1.heap.size ≤ w2.heap.size := bl.size
  have ba : Below w2.heap.size w2 (w2.alloc (.cells #[.int .i64 r, .int .i64 c, .slice (some ⟨g, 0, none⟩) zs.length cap] 26)) := (Below.refl _ _).alloc (Nat.le_refl _) _
  exact ⟨Whole.new _ _ _, (Own.le o2 (by have := b1.size; omega)).belowAll ba, (kr.all bl).all ba, bt (bt b1 bl) ba, by omega, by omega, by omega, hq⟩
set_option maxHeartbeats 6400000 in
theorem specDriftStep_any (w : World) (r c : Int) (v : Value) (zs : List Int) (d s : Int) (ho : IAt w v zs) (hl : zs.length ≤ 1048576) :
    Calls Tryd.prog 10 #[.agg #[.int .i64 r, .int .i64 c, v], .int .i64 d, .int .i64 s] w (RFC w (Fw.drR r c zs [d] s) (Fw.drK r c zs [d] s) (Fw.drZ r c zs [d] s) (Fw.drC r c zs [d] s)) := by
  have HB := Lib.hid (twoF_below w r c v 26 26)
  have C := Lib.hid (l06Ok_any (twoF w r c v 26 26) w.heap.size r c v zs (twoF_new w r c v 26 26).1.fc (ho.sl.below HB.out) hl)
  have CW := Lib.hid (fun W => l06Wind_any d W)
  have CS := Lib.hid (fun W => l06Share_any s W)
  have HO := Lib.hid ho
  clear ho
  cases h1 : Fw.ok r c zs with
  | false =>
    have hr := Lib.hid (Fw.dr_1 (ds := [d]) (s := s) h1)
    rw [h1] at C
    clear h1
    go_enter Tryd.func10, Tryd.ntmps10
    go_wp2_with fail
    refine C.out.mono ?_
    rintro e w1 ⟨rfl, b1⟩
    have KX := Lib.hid (twoF_kept b1).1
    have KR := Lib.hid (twoF_kept b1).2
    have B1 := Lib.hid (bt HB.out b1)
    clear b1
    have KQ := KR.out
    obtain ⟨c0, c1, c2⟩ := KQ.fc.three
    have f0 := KQ.free 0
    have f1 := KQ.free 1
    have f2 := KQ.free 2
    have HP := Lib.hid (setF_whole KQ 0 0 (.slice none 0 0)).fc.three
    have HS := Lib.hid (setF_below B1.out (Nat.le_succ _) 0 0 (.slice none 0 0))
    clear KQ
    go_wp2_with fail
    obtain ⟨d0, d1, d2⟩ := HP.out
    unfold setF at d0 d1 d2 HS
    exact bodyPost_ret (v := .tuple #[.agg #[.int .i64 0, .int .i64 0, .slice none 0 0], .int .i64 1]) (by simp [results, Tryd.results10, go_sem, d0, d1, d2]) rfl (RFC.mk hr.out (Own.nil _ _) HS.out)
  | true =>
    rw [h1] at C
    cases h2 : Fw.okD d with
    | false =>
      have hr := Lib.hid (Fw.dr_2 (ds := [d]) (s := s) h1 (and_ft (Fw.okS s) ((okDs_one d).trans h2)))
      rw [h2] at CW
      clear h1 h2
      go_enter Tryd.func10, Tryd.ntmps10
      go_wp2_with fail
      refine C.out.mono ?_
      rintro e w1 ⟨rfl, b1⟩
      have KX := Lib.hid (twoF_kept b1).1
      have KR := Lib.hid (twoF_kept b1).2
      have B1 := Lib.hid (bt HB.out b1)
      clear b1
      go_wp2_with fail
      refine (CW.out _).mono ?_
      rintro e w' ⟨rfl, rfl⟩
      have KQ := KR.out
      obtain ⟨c0, c1, c2⟩ := KQ.fc.three
      have f0 := KQ.free 0
      have f1 := KQ.free 1
      have f2 := KQ.free 2
      have HP := Lib.hid (setF_whole KQ 0 0 (.slice none 0 0)).fc.three
      have HS := Lib.hid (setF_below B1.out (Nat.le_succ _) 0 0 (.slice none 0 0))
      clear KQ
      go_wp2_with fail
      obtain ⟨d0, d1, d2⟩ := HP.out
      unfold setF at d0 d1 d2 HS
      exact bodyPost_ret (v := .tuple #[.agg #[.int .i64 0, .int .i64 0, .slice none 0 0], .int .i64 2]) (by simp [results, Tryd.results10, go_sem, d0, d1, d2]) rfl (RFC.mk hr.out (Own.nil _ _) HS.out)
    | true =>
      rw [h2] at CW
      cases h3 : Fw.okS s with
      | false =>
        have hr := Lib.hid (Fw.dr_2 (ds := [d]) (s := s) h1 (and_ff (Fw.okDs [d]) h3))
        rw [h3] at CS
        clear h1 h2 h3
        go_enter Tryd.func10, Tryd.ntmps10
        go_wp2_with fail
        refine C.out.mono ?_
        rintro e w1 ⟨rfl, b1⟩
        have KX := Lib.hid (twoF_kept b1).1
        have KR := Lib.hid (twoF_kept b1).2
        have B1 := Lib.hid (bt HB.out b1)
        clear b1
        go_wp2_with fail
        refine (CW.out _).mono ?_
        rintro e w' ⟨rfl, rfl⟩
        go_wp2_with fail
        refine (CS.out _).mono ?_
        rintro e w' ⟨rfl, rfl⟩
        have KQ := KR.out
        obtain ⟨c0, c1, c2⟩ := KQ.fc.three
        have f0 := KQ.free 0
        have f1 := KQ.free 1
        have f2 := KQ.free 2
        have HP := Lib.hid (setF_whole KQ 0 0 (.slice none 0 0)).fc.three
        have HS := Lib.hid (setF_below B1.out (Nat.le_succ _) 0 0 (.slice none 0 0))
        clear KQ
        go_wp2_with fail
        obtain ⟨d0, d1, d2⟩ := HP.out
        unfold setF at d0 d1 d2 HS
        exact bodyPost_ret (v := .tuple #[.agg #[.int .i64 0, .int .i64 0, .slice none 0 0], .int .i64 2]) (by simp [results, Tryd.results10, go_sem, d0, d1, d2]) rfl (RFC.mk hr.out (Own.nil _ _) HS.out)
      | true =>
        have H1 := Lib.hid h1
        have hb2 := Lib.hid (both_one h2 h3)
        obtain ⟨e1, e2⟩ := (okD_iff d).1 h2
        obtain ⟨s1, s2⟩ := (okS_iff s).1 h3
        have hl64 := (Fw.fits_len ((Fw.ok_iff _ _ _).1 h1).1).2
        rw [h3] at CS
        clear h1 h2 h3
        go_enter Tryd.func10, Tryd.ntmps10
        go_wp2_with fail
        refine C.out.mono ?_
        rintro e w1 ⟨rfl, b1⟩
        have KX := Lib.hid (twoF_kept b1).1
        have KR := Lib.hid (twoF_kept b1).2
        have B1 := Lib.hid (bt HB.out b1)
        clear b1
        go_wp2_with fail
        refine (CW.out _).mono ?_
        rintro e w' ⟨rfl, rfl⟩
        go_wp2_with fail
        refine (CS.out _).mono ?_
        rintro e w' ⟨rfl, rfl⟩
        have CT := Lib.hid (fun W (h : Below w1.heap.size w1 W) => l06Step_any W w.heap.size r c v zs d s (KX.out.all h) ((HO.out.all B1.out).all h) H1.out e1 e2 s1 s2)
        have hsl : (Fw.st r c d s zs).length ≤ zs.length := Nat.le_of_eq (Fw.st_length ..)
        have hro := Lib.hid (run_one (r := r) (c := c) (s := s) (d := d) (zs := zs))
        generalize Fw.st r c d s zs = zt at *
        clear C CW CS HO HB
        go_wp2_with fail
        refine (CT.out _ (Below.refl _ _)).mono ?_
        rintro e w2 ⟨g, cap, rfl, o2, b2⟩
        have HF := Lib.hid (FV.mkN (r := r) (c := c) B1.out KR.out (Nat.le_succ _) o2 b2)
        have CE := Lib.hid (l06Masses_any (w2.alloc (.cells #[.int .i64 r, .int .i64 c, .slice (some ⟨g, 0, none⟩) zt.length cap] 26)) w2.heap.size r c _ zt HF.out.box.fc HF.out.row.sl (by omega))
        clear o2 b2 KX KR CT B1
        cases hm : Fw.okMs zt with
        | true =>
          have hr := Lib.hid (Fw.dr_0 (ds := [d]) (ys := zt) H1.out hb2.out (hro.out.trans (if_pos hm)))
          rw [hm] at CE
          clear hm hro
          go_wp2_with fail
          refine CE.out.mono ?_
          rintro e w4 ⟨rfl, rfl⟩
          have KQ := HF.out.res
          obtain ⟨c0, c1, c2⟩ := KQ.fc.three
          obtain ⟨j0, j1, j2⟩ := (HF.out.box).fc.three
          have f0 := KQ.free 0
          have f1 := KQ.free 1
          have f2 := KQ.free 2
          have HP := Lib.hid (setF_whole KQ r c (.slice (some ⟨g, 0, none⟩) zt.length cap)).fc.three
          have HS := Lib.hid (setF_below HF.out.bel (Nat.le_succ _) r c (.slice (some ⟨g, 0, none⟩) zt.length cap))
          have HO := Lib.hid (Own.other HF.out.row (setF_only (w2.alloc (.cells #[.int .i64 r, .int .i64 c, .slice (some ⟨g, 0, none⟩) zt.length cap] 26)) (w.heap.size + 1) r c (.slice (some ⟨g, 0, none⟩) zt.length cap)) (by have := HF.out.Aq; omega))
          clear KQ
          go_wp2_with fail
          obtain ⟨d0, d1, d2⟩ := HP.out
          unfold setF at d0 d1 d2 HS HO
          exact bodyPost_ret (v := .tuple #[.agg #[.int .i64 r, .int .i64 c, .slice (some ⟨g, 0, none⟩) zt.length cap], .int .i64 0]) (by simp [results, Tryd.results10, go_sem, d0, d1, d2]) rfl (RFC.mk hr.out HO.out HS.out)
        | false =>
          have hr := Lib.hid (Fw.dr_6 (ds := [d]) H1.out hb2.out (hro.out.trans (if_neg (by rw [hm]; decide))))
          rw [hm] at CE
          clear hm hro
          go_wp2_with fail
          refine CE.out.mono ?_
          rintro e w4 ⟨rfl, rfl⟩
          have KQ := HF.out.res
          obtain ⟨c0, c1, c2⟩ := KQ.fc.three
          have f0 := KQ.free 0
          have f1 := KQ.free 1
          have f2 := KQ.free 2
          have HP := Lib.hid (setF_whole KQ 0 0 (.slice none 0 0)).fc.three
          have HS := Lib.hid (setF_below HF.out.bel (Nat.le_succ _) 0 0 (.slice none 0 0))
          clear KQ
          go_wp2_with fail
          obtain ⟨d0, d1, d2⟩ := HP.out
          unfold setF at d0 d1 d2 HS
          exact bodyPost_ret (v := .tuple #[.agg #[.int .i64 0, .int .i64 0, .slice none 0 0], .int .i64 6]) (by simp [results, Tryd.results10, go_sem, d0, d1, d2]) rfl (RFC.mk hr.out (Own.nil _ _) HS.out)
end Go.Proofs.YtmidihmbehaegaaDoor
