/-
  Steps of drift one after the other (chapter 6), by the program. Its condition: impl.leeWays holds what the program's text lays.
-/
import Derived.Test.YtmidihmbehaegaaDoorFdP
import Derived.Test.YtmidihmbehaegaaDoorFdR
namespace Go.Proofs.YtmidihmbehaegaaDoor
open Go.RowKit Go.Shelf Go.Deep Go.Maps Go.WideShapes
set_option linter.unusedVariables false
set_option maxRecDepth 100000

set_option maxHeartbeats 12800000 in
theorem implDriftRun_any (w : World) (r c : Int) (v : Value) (zs : List Int) (u : Value) (ds : List Int) (s : Int) (ho : IAt w v zs) (hl : zs.length ≤ 1048576) (hu : Sl w u ds) (hl2 : ds.length ≤ 1048576) (hw : WaysAt w) :
    Calls Tryd.prog 18 #[.agg #[.int .i64 r, .int .i64 c, v], u, .int .i64 s] w (RFC w (Fw.drR r c zs ds s) (Fw.drK r c zs ds s) (Fw.drZ r c zs ds s) (Fw.drC r c zs ds s)) := by
  obtain ⟨ua, ucap, rfl⟩ := hu.form
  have HB := Lib.hid (twoF_below w r c v 26 26)
  have CS := Lib.hid (fun W => isShare_any s W)
  have CG := Lib.hid (fun W (h : Below (twoF w r c v 26 26).heap.size (twoF w r c v 26 26) W) => areGusts_any W _ ds ((hu.below HB.out).below h) hl2)
  have CF := Lib.hid (fun b W (h : Below (twoF w r c v 26 26).heap.size (twoF w r c v 26 26) W) => fieldCode_any W r c v zs b ((ho.sl.below HB.out).below h) hl)
  have HO := Lib.hid ho
  have HU := Lib.hid hu
  have HW := Lib.hid hw
  have K0 := Lib.hid (fun W (h : Below (twoF w r c v 26 26).heap.size (twoF w r c v 26 26) W) => (twoF_kept h).1.three)
  obtain ⟨x0, x1, x2⟩ := K0.out _ (Below.refl _ _)
  clear ho hu hw
  cases h2 : Fw.okDs ds with
  | false =>
    have CF0 := Lib.hid (CF.out false)
    rw [h2] at CG
    cases h1 : Fw.ok r c zs with
    | false =>
      have hr := Lib.hid (Fw.dr_1 (ds := ds) (s := s) h1)
      rw [h1, show Fw.cd false false = 1 from rfl] at CF0
      clear h1 h2
      go_enter Tryd.func18, Tryd.ntmps18
      go_wp2_with fail
      first | (go_region_with (first
          | (go_at_call 38; refine (CG.out _ (bdr1 _)).mono ?_; rintro e wA ⟨rfl, bA⟩; have bA0 := bt (bdr1 _) bA; obtain ⟨z0, z1, z2⟩ := K0.out wA bA0)
          | (go_at_call 37; refine (CF0.out _ bA0).mono ?_; rintro e w1 ⟨rfl, b1⟩; have b10 := bt bA0 b1; obtain ⟨y0, y1, y2⟩ := K0.out w1 b10))) | fail "region"
      all_goals (
        have KR := (twoF_kept b10).2
        obtain ⟨c0, c1, c2⟩ := KR.fc.three
        have f0 := KR.free 0
        have f1 := KR.free 1
        have f2 := KR.free 2
        have HP := Lib.hid (setF_whole KR 0 0 (.slice none 0 0)).fc.three
        have HS := Lib.hid (setF_below (bt HB.out b10) (Nat.le_succ _) 0 0 (.slice none 0 0))
        clear KR
        go_wp2_with fail
        obtain ⟨d0, d1, d2⟩ := HP.out
        unfold setF at d0 d1 d2 HS
        exact bodyPost_ret (v := .tuple #[.agg #[.int .i64 0, .int .i64 0, .slice none 0 0], .int .i64 1]) (by simp [results, Tryd.results18, go_sem, d0, d1, d2]) rfl (RFC.mk hr.out (Own.nil _ _) HS.out)
      )
    | true =>
      have hr := Lib.hid (Fw.dr_2 (s := s) h1 (and_ft (Fw.okS s) h2))
      rw [h1, show Fw.cd true false = 2 from rfl] at CF0
      clear h1 h2
      go_enter Tryd.func18, Tryd.ntmps18
      go_wp2_with fail
      first | (go_region_with (first
          | (go_at_call 38; refine (CG.out _ (bdr1 _)).mono ?_; rintro e wA ⟨rfl, bA⟩; have bA0 := bt (bdr1 _) bA; obtain ⟨z0, z1, z2⟩ := K0.out wA bA0)
          | (go_at_call 37; refine (CF0.out _ bA0).mono ?_; rintro e w1 ⟨rfl, b1⟩; have b10 := bt bA0 b1; obtain ⟨y0, y1, y2⟩ := K0.out w1 b10))) | fail "region"
      all_goals (
        have KR := (twoF_kept b10).2
        obtain ⟨c0, c1, c2⟩ := KR.fc.three
        have f0 := KR.free 0
        have f1 := KR.free 1
        have f2 := KR.free 2
        have HP := Lib.hid (setF_whole KR 0 0 (.slice none 0 0)).fc.three
        have HS := Lib.hid (setF_below (bt HB.out b10) (Nat.le_succ _) 0 0 (.slice none 0 0))
        clear KR
        go_wp2_with fail
        obtain ⟨d0, d1, d2⟩ := HP.out
        unfold setF at d0 d1 d2 HS
        exact bodyPost_ret (v := .tuple #[.agg #[.int .i64 0, .int .i64 0, .slice none 0 0], .int .i64 2]) (by simp [results, Tryd.results18, go_sem, d0, d1, d2]) rfl (RFC.mk hr.out (Own.nil _ _) HS.out)
      )
  | true =>
    rw [h2] at CG
    cases h3 : Fw.okS s with
    | false =>
      have CF0 := Lib.hid (CF.out false)
      rw [h3] at CS
      cases h1 : Fw.ok r c zs with
      | false =>
        have hr := Lib.hid (Fw.dr_1 (ds := ds) (s := s) h1)
        rw [h1, show Fw.cd false false = 1 from rfl] at CF0
        clear h1 h2 h3
        go_enter Tryd.func18, Tryd.ntmps18
        go_wp2_with fail
        first | (go_region_held3 (fun w' => w'.cell? ⟨w.heap.size, 0, none⟩ = some (.int .i64 r) ∧ w'.cell? ⟨w.heap.size, 1, none⟩ = some (.int .i64 c) ∧ w'.cell? ⟨w.heap.size, 2, none⟩ = some v) (go_keep)
          (first
            | (go_at_call 38; refine (CG.out _ (bdr1 _)).mono ?_; rintro e wA ⟨rfl, bA⟩; have bA0 := bt (bdr1 _) bA; obtain ⟨z0, z1, z2⟩ := K0.out wA bA0)
            | (go_at_call 39; refine (CS.out _).mono ?_; rintro e w' ⟨rfl, rfl⟩)
            | (go_at_call 37; refine (CF0.out _ bA0).mono ?_; rintro e w1 ⟨rfl, b1⟩; have b10 := bt bA0 b1; obtain ⟨y0, y1, y2⟩ := K0.out w1 b10))) | fail "region"
        have KR := (twoF_kept b10).2
        obtain ⟨c0, c1, c2⟩ := KR.fc.three
        have f0 := KR.free 0
        have f1 := KR.free 1
        have f2 := KR.free 2
        have HP := Lib.hid (setF_whole KR 0 0 (.slice none 0 0)).fc.three
        have HS := Lib.hid (setF_below (bt HB.out b10) (Nat.le_succ _) 0 0 (.slice none 0 0))
        clear KR
        go_wp2_with fail
        obtain ⟨d0, d1, d2⟩ := HP.out
        unfold setF at d0 d1 d2 HS
        exact bodyPost_ret (v := .tuple #[.agg #[.int .i64 0, .int .i64 0, .slice none 0 0], .int .i64 1]) (by simp [results, Tryd.results18, go_sem, d0, d1, d2]) rfl (RFC.mk hr.out (Own.nil _ _) HS.out)
      | true =>
        have hr := Lib.hid (Fw.dr_2 (s := s) h1 (and_ff (Fw.okDs ds) h3))
        rw [h1, show Fw.cd true false = 2 from rfl] at CF0
        clear h1 h2 h3
        go_enter Tryd.func18, Tryd.ntmps18
        go_wp2_with fail
        first | (go_region_held3 (fun w' => w'.cell? ⟨w.heap.size, 0, none⟩ = some (.int .i64 r) ∧ w'.cell? ⟨w.heap.size, 1, none⟩ = some (.int .i64 c) ∧ w'.cell? ⟨w.heap.size, 2, none⟩ = some v) (go_keep)
          (first
            | (go_at_call 38; refine (CG.out _ (bdr1 _)).mono ?_; rintro e wA ⟨rfl, bA⟩; have bA0 := bt (bdr1 _) bA; obtain ⟨z0, z1, z2⟩ := K0.out wA bA0)
            | (go_at_call 39; refine (CS.out _).mono ?_; rintro e w' ⟨rfl, rfl⟩)
            | (go_at_call 37; refine (CF0.out _ bA0).mono ?_; rintro e w1 ⟨rfl, b1⟩; have b10 := bt bA0 b1; obtain ⟨y0, y1, y2⟩ := K0.out w1 b10))) | fail "region"
        have KR := (twoF_kept b10).2
        obtain ⟨c0, c1, c2⟩ := KR.fc.three
        have f0 := KR.free 0
        have f1 := KR.free 1
        have f2 := KR.free 2
        have HP := Lib.hid (setF_whole KR 0 0 (.slice none 0 0)).fc.three
        have HS := Lib.hid (setF_below (bt HB.out b10) (Nat.le_succ _) 0 0 (.slice none 0 0))
        clear KR
        go_wp2_with fail
        obtain ⟨d0, d1, d2⟩ := HP.out
        unfold setF at d0 d1 d2 HS
        exact bodyPost_ret (v := .tuple #[.agg #[.int .i64 0, .int .i64 0, .slice none 0 0], .int .i64 2]) (by simp [results, Tryd.results18, go_sem, d0, d1, d2]) rfl (RFC.mk hr.out (Own.nil _ _) HS.out)
    | true =>
      have CF0 := Lib.hid (CF.out true)
      have hb2 : Hid ((Fw.okDs ds && Fw.okS s) = true) := Lib.hid (by rw [h2, h3]; rfl)
      obtain ⟨s1, s2⟩ := (okS_iff s).1 h3
      have HDs := Lib.hid (okDs_all h2)
      have hd24 := HDs.out.1
      rw [h3] at CS
      cases h1 : Fw.ok r c zs with
      | false =>
        have hr := Lib.hid (Fw.dr_1 (ds := ds) (s := s) h1)
        rw [h1, show Fw.cd false true = 1 from rfl] at CF0
        clear h1 h2 h3
        go_enter Tryd.func18, Tryd.ntmps18
        go_wp2_with fail
        first | (go_region_held3 (fun w' => w'.cell? ⟨w.heap.size, 0, none⟩ = some (.int .i64 r) ∧ w'.cell? ⟨w.heap.size, 1, none⟩ = some (.int .i64 c) ∧ w'.cell? ⟨w.heap.size, 2, none⟩ = some v) (go_keep)
          (first
            | (go_at_call 38; refine (CG.out _ (bdr1 _)).mono ?_; rintro e wA ⟨rfl, bA⟩; have bA0 := bt (bdr1 _) bA; obtain ⟨z0, z1, z2⟩ := K0.out wA bA0)
            | (go_at_call 39; refine (CS.out _).mono ?_; rintro e w' ⟨rfl, rfl⟩)
            | (go_at_call 37; refine (CF0.out _ bA0).mono ?_; rintro e w1 ⟨rfl, b1⟩; have b10 := bt bA0 b1; obtain ⟨y0, y1, y2⟩ := K0.out w1 b10))) | fail "region"
        have KR := (twoF_kept b10).2
        obtain ⟨c0, c1, c2⟩ := KR.fc.three
        have f0 := KR.free 0
        have f1 := KR.free 1
        have f2 := KR.free 2
        have HP := Lib.hid (setF_whole KR 0 0 (.slice none 0 0)).fc.three
        have HS := Lib.hid (setF_below (bt HB.out b10) (Nat.le_succ _) 0 0 (.slice none 0 0))
        clear KR
        go_wp2_with fail
        obtain ⟨d0, d1, d2⟩ := HP.out
        unfold setF at d0 d1 d2 HS
        exact bodyPost_ret (v := .tuple #[.agg #[.int .i64 0, .int .i64 0, .slice none 0 0], .int .i64 1]) (by simp [results, Tryd.results18, go_sem, d0, d1, d2]) rfl (RFC.mk hr.out (Own.nil _ _) HS.out)
      | true =>
        have H1 := Lib.hid h1
        have hfit := ((Fw.ok_iff _ _ _).1 h1).1
        have hms := Lib.hid ((Fw.ok_iff _ _ _).1 h1).2
        have hl64 := (Fw.fits_len hfit).2
        rw [h1, show Fw.cd true true = 0 from rfl] at CF0
        clear h1 h2 h3 hfit
        go_enter Tryd.func18, Tryd.ntmps18
        go_wp2_with fail
        first | (go_region_held3 (fun w' => w'.cell? ⟨w.heap.size, 0, none⟩ = some (.int .i64 r) ∧ w'.cell? ⟨w.heap.size, 1, none⟩ = some (.int .i64 c) ∧ w'.cell? ⟨w.heap.size, 2, none⟩ = some v) (go_keep)
          (first
            | (go_at_call 38; refine (CG.out _ (bdr1 _)).mono ?_; rintro e wA ⟨rfl, bA⟩; have bA0 := bt (bdr1 _) bA; obtain ⟨z0, z1, z2⟩ := K0.out wA bA0)
            | (go_at_call 39; refine (CS.out _).mono ?_; rintro e w' ⟨rfl, rfl⟩)
            | (go_at_call 37; refine (CF0.out _ bA0).mono ?_; rintro e w1 ⟨rfl, b1⟩; have b10 := bt bA0 b1; obtain ⟨y0, y1, y2⟩ := K0.out w1 b10))) | fail "region"
        have KX := Lib.hid (twoF_kept b10).1
        have KR := Lib.hid (twoF_kept b10).2
        have B1 := Lib.hid (bt HB.out b10)
        have HU1 := Lib.hid (HU.out.below B1.out)
        have HW1 := Lib.hid (HW.out.below B1.out)
        have CN := Lib.hid (fun W (h : Below w1.heap.size w1 W) => newDrifting_any W r c v zs ((HO.out.all B1.out).all h) hl64)
        clear CF CF0 CG CS K0 bA bA0 b1 b10 z0 z1 z2 x0 x1 x2 HB HU HW
        try clear y0 y1 y2
        obtain ⟨y0, y1, y2⟩ := KX.out.three
        have KK := Lib.hid (fun W (h : Below w1.heap.size w1 W) => (KX.out.all h).three)
        go_wp2_with fail
        refine (CN.out _ (Below.refl _ _)).mono ?_
        rintro e w2 ⟨p, A, ca, X, cb, M, rfl, hd, bN0⟩
        have HD : Hid (DR w1.heap.size w2 p r c zs.length A ca X cb M zs (List.replicate zs.length 0) (.map []) 0) := Lib.hid hd
        have BN := Lib.hid bN0
        have HF := Lib.hid (Fw.OF.none hms.out)
        have hgB := World.block_lt_of_cell? w1 _ HW1.out.eight.1.1
        simp only at hgB
        have HGB := Lib.hid hgB
        have hKl := Lib.hid KR.out.lt
        have hBl := Lib.hid B1.out.size
        clear hd bN0 CN KK KX HO y0 y1 y2 hms hgB
        go_wp2_with fail
        go_loopw [11, 28] (fun _ i wr => ∃ (k A ca X cb q : Nat) (ys bs : List Int) (m : DataW Unit), k ≤ ds.length ∧ i = .int .i64 k ∧ q ≤ 128 * k ∧ Hid (DR w1.heap.size wr p r c zs.length A ca X cb M ys bs m q) ∧ Hid (Fw.OF m ys) ∧ Hid (Fw.ok r c ys = true) ∧ Hid (Below w1.heap.size w1 wr) ∧ Hid (Fw.run r c s zs ds = Fw.run r c s ys (ds.drop k))) (fun _ i _ => ds.length - (intOf i).toNat)
        case atStart => exact ⟨0, A, ca, X, cb, 0, zs, _, _, Nat.zero_le _, rfl, Nat.zero_le _, HD, HF, H1, BN, Lib.hid (by rw [List.drop_zero])⟩
        case round =>
          obtain ⟨k, A, ca, X, cb, q, ys, bs, m, hk, rfl, hq, hd, ho, hok, hb, hrun⟩ := hrel
          by_cases hlt : k < ds.length
          · have hltz : (k : Int) < (ds.length : Int) := by omega
            have HU2 := Lib.hid (HU1.out.below hb.out)
            obtain ⟨b', off, cap1, hn, hbl, hcc⟩ := HU2.out.atI hlt
            simp only [Value.slice.injEq] at hn
            obtain ⟨rfl, -, rfl⟩ := hn
            have k1 := hcc k hlt
            obtain ⟨d1, d2⟩ := (okD_iff _).1 (HDs.out.2 _ (List.getElem_mem hlt))
            have CT := Lib.hid (step_any w1.heap.size wr p r c zs.length A ca X cb M ys bs m q ds[k] s hd.out (HW1.out.belowB hb.out HGB.out) HGB.out hok.out ho.out (by omega) d1 d2 s1 s2)
            unfold ST at CT
            have hst := Lib.hid (fun (h : Fw.okMs (Fw.st r c ds[k] s ys) = true) => run_drop_t (r := r) (c := c) (s := s) (ys := ys) hlt h)
            have hsf := Lib.hid (fun (h : Fw.okMs (Fw.st r c ds[k] s ys) = false) => run_drop_f (r := r) (c := c) (s := s) (ys := ys) hlt h)
            have hok2 := Lib.hid (fun (h : Fw.okMs (Fw.st r c ds[k] s ys) = true) => Fw.st_ok (d := ds[k]) (s := s) hok.out h)
            clear hcc
            generalize Fw.st r c ds[k] s ys = zt at *
            generalize ds[k] = dk at *
            cases hm : Fw.okMs zt with
            | true =>
              have HO2 := Lib.hid (hok2.out hm)
              have HR2 : Hid (Fw.run r c s zs ds = Fw.run r c s zt (ds.drop (k + 1))) := Lib.hid (hrun.out.trans (hst.out hm))
              rw [hm] at CT
              clear hm hst hsf hok2 hrun hok hd ho
              go_wp2_with fail
              refine CT.out.mono ?_
              rintro e w3 ⟨m3, rfl, hd3, ho3, hb3⟩
              have HD3 := Lib.hid hd3
              have HF3 := Lib.hid ho3
              have HB3 := Lib.hid (hb.out.trans hb3)
              clear hd3 ho3 hb3 hb k1
              go_wp2_with fail
              exact ⟨⟨k + 1, X, cb, A, ca, q + 128, zt, ys, m3, by omega, by go_num, by omega, HD3, HF3, HO2, HB3, HR2⟩, by simp only [intOf]; omega⟩
            | false =>
              have hr := Lib.hid (Fw.dr_6 (ds := ds) H1.out hb2.out (hrun.out.trans (hsf.out hm)))
              rw [hm] at CT
              clear hm hst hsf hok2 hrun hok hd ho
              go_wp2_with fail
              refine CT.out.mono ?_
              rintro e w3 ⟨m3, rfl, -, -, hb3⟩
              have HB3 := Lib.hid (hb.out.trans hb3)
              clear hb3 hb k1
              have KR := KR.out.all HB3.out
              obtain ⟨c0, c1, c2⟩ := KR.fc.three
              have f0 := KR.free 0
              have f1 := KR.free 1
              have f2 := KR.free 2
              have HP := Lib.hid (setF_whole KR 0 0 (.slice none 0 0)).fc.three
              have HS := Lib.hid (setF_below (bt B1.out HB3.out) (Nat.le_succ _) 0 0 (.slice none 0 0))
              clear KR
              go_wp2_with fail
              obtain ⟨d0, d1, d2⟩ := HP.out
              unfold setF at d0 d1 d2 HS
              exact bodyPost_ret (v := .tuple #[.agg #[.int .i64 0, .int .i64 0, .slice none 0 0], .int .i64 6]) (by simp [results, Tryd.results18, go_sem, d0, d1, d2]) rfl (RFC.mk hr.out (Own.nil _ _) HS.out)
          · have hltz : ¬ (k : Int) < (ds.length : Int) := by omega
            have hkz : k = ds.length := by omega
            have hr := Lib.hid (Fw.dr_0 (ds := ds) (ys := ys) H1.out hb2.out (by rw [hrun.out, hkz, List.drop_length]; rfl))
            clear hkz
            obtain ⟨j0, j1, j2, j3, j4⟩ := hd.out.five
            have KQ := KR.out.all hb.out
            obtain ⟨c0, c1, c2⟩ := KQ.fc.three
            have f0 := KQ.free 0
            have f1 := KQ.free 1
            have f2 := KQ.free 2
            have HP := Lib.hid (setF_whole KQ r c (.slice (some ⟨A, 0, none⟩) zs.length ca)).fc.three
            have HS := Lib.hid (setF_below (bt B1.out hb.out) (Nat.le_succ _) r c (.slice (some ⟨A, 0, none⟩) zs.length ca))
            have HO := Lib.hid (Own.le (Own.otherB hd.out.row (setF_only wr (w.heap.size + 1) r c (.slice (some ⟨A, 0, none⟩) zs.length ca)) hKl.out) hBl.out)
            clear KQ
            go_wp2_with fail
            obtain ⟨d0, d1, d2⟩ := HP.out
            unfold setF at d0 d1 d2 HS HO
            exact bodyPost_ret (v := .tuple #[.agg #[.int .i64 r, .int .i64 c, .slice (some ⟨A, 0, none⟩) zs.length ca], .int .i64 0]) (by simp [results, Tryd.results18, go_sem, d0, d1, d2]) rfl (RFC.mk hr.out HO.out HS.out)
end Go.Proofs.YtmidihmbehaegaaDoor
