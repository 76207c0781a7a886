/-
  Steps of drift one after the other (chapter 6), by the model. No condition of its own.
-/
import Derived.Test.YtmidihmbehaegaaDoorFdU
namespace Go.Proofs.YtmidihmbehaegaaDoor
open Go.RowKit Go.Shelf Go.Deep
set_option linter.unusedVariables false
set_option maxRecDepth 100000

theorem FV.next {w0 w w2 : World} {q : Nat} {r c : Int} {o A cap n g2 cap2 n2 : Nat} {ys ys2 : List Int} (h : FV w0 w q r c o A cap n ys) (ho : Own w.heap.size w2 (.slice (some ⟨g2, 0, none⟩) n2 cap2) ys2) (hb : Below w.heap.size w w2) :
    FV w0 (setF w2 o r c (.slice (some ⟨g2, 0, none⟩) n2 cap2)) q r c o g2 cap2 n2 ys2 := by
  have hn := own_len ho
  subst hn
  have l1 := (World.ownsRow.lt ho g2 rfl).1
  have l2 := h.box.lt
  have l3 := h.bel.size
  have l4 := h.res.lt
  have hg := setF_only w2 o r c (.slice (some ⟨g2, 0, none⟩) ys2.length cap2)
  exact ⟨setF_whole (h.box.all hb) _ _ _, Own.other (Own.le ho l3) hg (by omega), (h.res.all hb).far hg (by have := h.oq; omega), setF_below (bt h.bel hb) (by have := h.oq; have := h.wq; omega) _ _ _, by omega, h.oq, by omega, h.wq⟩
set_option maxHeartbeats 25600000 in
theorem l06Run_any (w : World) (b : Nat) (r c : Int) (v u : Value) (zs ds : List Int) (s : Int) (hc : FC w b r c v) (hv : IAt w v zs) (hl : zs.length ≤ 1048576) (hu : Sl w u ds) (hl2 : ds.length ≤ 1048576) :
    Calls Tryd.prog 36 #[.pointer (some ⟨b, 0, none⟩), u, .int .i64 s] w (RFC w (Fw.drR r c zs ds s) (Fw.drK r c zs ds s) (Fw.drZ r c zs ds s) (Fw.drC r c zs ds s)) := by
  obtain ⟨ua, ucap, rfl⟩ := hu.form
  have HZ : Hid (Below w.heap.size w (w.alloc (.cells #[.int .i64 0, .int .i64 0, .slice none 0 0] 26))) := Lib.hid ((Below.refl _ _).alloc (Nat.le_refl _) _)
  have KZ : Hid (Whole (w.alloc (.cells #[.int .i64 0, .int .i64 0, .slice none 0 0] 26)) w.heap.size 26 #[.int .i64 0, .int .i64 0, .slice none 0 0]) := Lib.hid (Whole.new _ _ _)
  have HC := Lib.hid (hc.all HZ.out)
  have HV0 := Lib.hid hv
  have HU0 := Lib.hid hu
  have CK := Lib.hid (l06Ok_any _ b r c v zs HC.out (hv.all HZ.out).sl hl)
  have CS := Lib.hid (fun W => l06Share_any s W)
  clear hc hv hu
  cases h1 : Fw.ok r c zs with
  | false =>
    have hr := Lib.hid (Fw.dr_1 (ds := ds) (s := s) h1)
    rw [h1] at CK
    clear h1
    go_enter Tryd.func36, Tryd.ntmps36
    go_wp2_with fail
    refine CK.out.mono ?_
    rintro e w1 ⟨rfl, b1⟩
    have KR1 := Lib.hid (KZ.out.all b1)
    have B1 := Lib.hid (bt HZ.out b1)
    clear b1
    have KR := KR1.out
    obtain ⟨c0, c1', c2'⟩ := KR.fc.three
    have f0 := KR.free 0
    have f1 := KR.free 1
    have f2 := KR.free 2
    have HP := Lib.hid (setF_whole KR 0 0 (.slice none 0 0)).fc.three
    have HS := Lib.hid (setF_below B1.out (Nat.le_refl _) 0 0 (.slice none 0 0))
    clear KR
    go_wp2_with fail
    obtain ⟨d0, d1', d2'⟩ := HP.out
    unfold setF at d0 d1' d2' HS
    exact bodyPost_ret (v := .tuple #[.agg #[.int .i64 0, .int .i64 0, .slice none 0 0], .int .i64 1]) (by simp [results, Tryd.results36, go_sem, d0, d1', d2']) rfl (RFC.mk hr.out (Own.nil _ _) HS.out)
  | true =>
    have H1 := Lib.hid h1
    rw [h1] at CK
    clear h1
    obtain ⟨hfit, hms⟩ := (Fw.ok_iff _ _ _).1 H1.out
    have hl64 := (Fw.fits_len hfit).2
    clear hfit hms
    by_cases h24 : ds.length ≤ 24
    · cases h2 : Fw.okS s with
      | false =>
        have hr := Lib.hid (Fw.dr_2 (s := s) H1.out (and_ff (Fw.okDs ds) h2))
        rw [h2] at CS
        clear h2
        go_enter Tryd.func36, Tryd.ntmps36
        go_wp2_with fail
        refine CK.out.mono ?_
        rintro e w1 ⟨rfl, b1⟩
        have KR1 := Lib.hid (KZ.out.all b1)
        have B1 := Lib.hid (bt HZ.out b1)
        clear b1
        go_wp2_with fail
        refine (CS.out _).mono ?_
        rintro e w2 ⟨rfl, rfl⟩
        have KR := KR1.out
        obtain ⟨c0, c1', c2'⟩ := KR.fc.three
        have f0 := KR.free 0
        have f1 := KR.free 1
        have f2 := KR.free 2
        have HP := Lib.hid (setF_whole KR 0 0 (.slice none 0 0)).fc.three
        have HS := Lib.hid (setF_below B1.out (Nat.le_refl _) 0 0 (.slice none 0 0))
        clear KR
        go_wp2_with fail
        obtain ⟨d0, d1', d2'⟩ := HP.out
        unfold setF at d0 d1' d2' HS
        exact bodyPost_ret (v := .tuple #[.agg #[.int .i64 0, .int .i64 0, .slice none 0 0], .int .i64 2]) (by simp [results, Tryd.results36, go_sem, d0, d1', d2']) rfl (RFC.mk hr.out (Own.nil _ _) HS.out)
      | true =>
        have H2 := Lib.hid h2
        obtain ⟨s1, s2⟩ := (okS_iff s).1 h2
        rw [h2] at CS
        clear h2
        go_enter Tryd.func36, Tryd.ntmps36
        go_wp2_with fail
        refine CK.out.mono ?_
        rintro e w1 ⟨rfl, b1⟩
        have KR1 := Lib.hid (KZ.out.all b1)
        have B1 := Lib.hid (bt HZ.out b1)
        have HC1 := Lib.hid (HC.out.all b1)
        clear b1 KZ HZ HC CK
        go_wp2_with fail
        refine (CS.out _).mono ?_
        rintro e w2 ⟨rfl, rfl⟩
        have HU1 := Lib.hid (HU0.out.below B1.out)
        have HV1 := Lib.hid (HV0.out.all B1.out)
        clear HV0 CS
        go_wp2_with fail
        go_loop [8] (fun i => ∃ k : Nat, k ≤ ds.length ∧ i = .int .i64 k ∧ Hid (∀ j (hj : j < ds.length), j < k → Fw.okD ds[j] = true)) (fun i => ds.length - (intOf i).toNat)
        case atStart => exact ⟨0, Nat.zero_le _, rfl, Lib.hid (fun j hj h => absurd h (Nat.not_lt_zero _))⟩
        case round =>
          obtain ⟨k, hk, rfl, hp⟩ := hrel
          by_cases hlt : k < ds.length
          · obtain ⟨b', off, cap1, hn, hbl, hcc⟩ := HU1.out.atI hlt
            simp only [Value.slice.injEq] at hn
            obtain ⟨rfl, -, rfl⟩ := hn
            have k1 := hcc k hlt
            have CW := Lib.hid (fun W => l06Wind_any ds[k] W)
            clear hcc
            cases hq : Fw.okD ds[k] with
            | true =>
              have hn : Hid (∀ j (hj : j < ds.length), j < k + 1 → Fw.okD ds[j] = true) := Lib.hid (fun j hj h => by
                by_cases e : j = k
                · subst e; exact hq
                · exact hp.out j hj (by omega))
              rw [hq] at CW
              clear hq
              generalize ds[k] = z at *
              go_wp2_with fail
              refine (CW.out _).mono ?_
              rintro e w3 ⟨rfl, rfl⟩
              go_wp2_with fail
              exact ⟨⟨k + 1, by omega, by go_num, hn⟩, by simp only [intOf]; omega⟩
            | false =>
              have hr := Lib.hid (Fw.dr_2 (s := s) H1.out (and_ft (Fw.okS s) (okDs_no hlt hq)))
              rw [hq] at CW
              clear hq
              generalize ds[k] = z at *
              go_wp2_with fail
              refine (CW.out _).mono ?_
              rintro e w3 ⟨rfl, rfl⟩
              have KR := KR1.out
              obtain ⟨c0, c1', c2'⟩ := KR.fc.three
              have f0 := KR.free 0
              have f1 := KR.free 1
              have f2 := KR.free 2
              have HP := Lib.hid (setF_whole KR 0 0 (.slice none 0 0)).fc.three
              have HS := Lib.hid (setF_below B1.out (Nat.le_refl _) 0 0 (.slice none 0 0))
              clear KR
              go_wp2_with fail
              obtain ⟨d0, d1', d2'⟩ := HP.out
              unfold setF at d0 d1' d2' HS
              exact bodyPost_ret (v := .tuple #[.agg #[.int .i64 0, .int .i64 0, .slice none 0 0], .int .i64 2]) (by simp [results, Tryd.results36, go_sem, d0, d1', d2']) rfl (RFC.mk hr.out (Own.nil _ _) HS.out)
          · have hkz : k = ds.length := by omega
            have hD : Hid (Fw.okDs ds = true) := Lib.hid (okDs_yes h24 (fun j hj => hp.out j hj (by omega)))
            have hb2 : Hid ((Fw.okDs ds && Fw.okS s) = true) := Lib.hid (by rw [hD.out, H2.out]; rfl)
            subst hkz
            obtain ⟨x0, x1, x2⟩ := HC1.out.three
            have nx0 := World.new_ne w1 ⟨b, 0, none⟩ x0
            have nx1 := World.new_ne w1 ⟨b, 1, none⟩ x1
            have nx2 := World.new_ne w1 ⟨b, 2, none⟩ x2
            have CO := Lib.hid (fun W (h : Below w1.heap.size w1 W) => l00Own_any W v zs (HV1.out.all h) (by omega))
            have KK := Lib.hid (fun W (h : Below w1.heap.size w1 W) => (HC1.out.all h).three)
            have HDs := Lib.hid (okDs_all hD.out).2
            clear hp
            go_wp2_with fail
            go_region_held3 (fun w' => w'.cell? ⟨b, 0, none⟩ = some (.int .i64 r) ∧ w'.cell? ⟨b, 1, none⟩ = some (.int .i64 c) ∧ w'.cell? ⟨b, 2, none⟩ = some v) (go_keep)
              (first
                | (go_at_call 49; refine (CO.out _ (bdr1 _)).mono ?_; rintro e w2 ⟨g, cap, rfl, o2, b2⟩; have b20 : Below w1.heap.size w1 w2 := bt (bdr1 _) b2; obtain ⟨y0, y1, y2⟩ := KK.out w2 b20)
                | (go_at_call 49; refine (CO.out _ (bdA _ _)).mono ?_; rintro e w2 ⟨g, cap, rfl, o2, b2⟩; have b20 : Below w1.heap.size w1 w2 := bt (bdA _ _) b2; obtain ⟨y0, y1, y2⟩ := KK.out w2 b20; obtain ⟨⟨t0, t1, t2⟩, u0, u1, u2⟩ := (new_kept b2).three))
            all_goals (
              first
                | (have HF := Lib.hid (FV.mkA (r := r) (c := c) B1.out KR1.out (Nat.le_refl _) o2 b2)
                   have HX : Hid (Below w1.heap.size w1 (w2.alloc (.cells #[.int .i64 r, .int .i64 c, .slice (some ⟨g, 0, none⟩) zs.length cap] 26))) := Lib.hid (b20.alloc b20.size _)
                   generalize w2.alloc (.cells #[.int .i64 r, .int .i64 c, .slice (some ⟨g, 0, none⟩) zs.length cap] 26) = W at HF HX ⊢
                   generalize w2.heap.size = o at HF ⊢)
                | (have HF := Lib.hid (FV.mkB (r := r) (c := c) B1.out KR1.out (Nat.le_refl _) o2 b2)
                   have HX := Lib.hid (setF_below b20 (Nat.le_refl _) r c (.slice (some ⟨g, 0, none⟩) zs.length cap))
                   unfold setF at HF HX
                   generalize ((w2.setCell ⟨w1.heap.size, 0, none⟩ (.int .i64 r)).setCell ⟨w1.heap.size, 1, none⟩ (.int .i64 c)).setCell ⟨w1.heap.size, 2, none⟩ (.slice (some ⟨g, 0, none⟩) zs.length cap) = W at HF HX ⊢
                   generalize hoo : w1.heap.size = o at HF ⊢
                   clear hoo)
              clear nx0 nx1 nx2 x0 x1 x2 CO KK o2 b2 b20 y0 y1 y2 HX
              try clear t0 t1 t2 u0 u1 u2
              go_wp2_with fail
              go_loopw [10] (fun i wr => ∃ (k A cp : Nat) (ys : List Int), k ≤ ds.length ∧ i = .int .i64 k ∧ ys.length = zs.length ∧ Hid (FV w wr w.heap.size r c o A cp ys.length ys) ∧ Hid (Fw.ok r c ys = true) ∧ Hid (Fw.run r c s zs ds = Fw.run r c s ys (ds.drop k))) (fun i _ => ds.length - (intOf i).toNat)
              case atStart => exact ⟨0, g, cap, zs, Nat.zero_le _, rfl, rfl, HF, H1, Lib.hid (by rw [List.drop_zero])⟩
              case round =>
                obtain ⟨k, A, cp, ys, hk, rfl, hyl, hf, hok, hrun⟩ := hrel
                have hy1 : ys.length ≤ zs.length := by omega
                have hy2 : zs.length ≤ ys.length := by omega
                clear hyl
                by_cases hlt : k < ds.length
                · have HU2 := Lib.hid (HU0.out.below hf.out.bel)
                  obtain ⟨b', off, cap1, hn, hbl, hcc⟩ := HU2.out.atI hlt
                  simp only [Value.slice.injEq] at hn
                  obtain ⟨rfl, -, rfl⟩ := hn
                  have k1 := hcc k hlt
                  obtain ⟨d1, d2⟩ := (okD_iff _).1 (HDs.out _ (List.getElem_mem hlt))
                  have CT := Lib.hid (l06Step_any wr o r c _ ys ds[k] s hf.out.box.fc (hf.out.row.at_ rfl) hok.out d1 d2 s1 s2)
                  have hst := Lib.hid (fun (h : Fw.okMs (Fw.st r c ds[k] s ys) = true) => run_drop_t (r := r) (c := c) (s := s) (ys := ys) hlt h)
                  have hsf := Lib.hid (fun (h : Fw.okMs (Fw.st r c ds[k] s ys) = false) => run_drop_f (r := r) (c := c) (s := s) (ys := ys) hlt h)
                  have hs1 : (Fw.st r c ds[k] s ys).length ≤ ys.length := Nat.le_of_eq (Fw.st_length ..)
                  have hs2 : ys.length ≤ (Fw.st r c ds[k] s ys).length := Nat.le_of_eq (Fw.st_length ..).symm
                  have hok2 := Lib.hid (fun (h : Fw.okMs (Fw.st r c ds[k] s ys) = true) => Fw.st_ok (d := ds[k]) (s := s) hok.out h)
                  clear hcc
                  generalize Fw.st r c ds[k] s ys = zt at *
                  generalize ds[k] = dk at *
                  go_wp2_with fail
                  refine CT.out.mono ?_
                  rintro e w3 ⟨g2, cp2, rfl, o3, b3⟩
                  have HF3 := Lib.hid (hf.out.next o3 b3)
                  have KO := hf.out.box.all b3
                  obtain ⟨j0, j1, j2⟩ := KO.fc.three
                  have p0 := KO.free 0
                  have p1 := KO.free 1
                  have p2 := KO.free 2
                  have CE := Lib.hid (l06Masses_any _ o r c _ zt HF3.out.box.fc HF3.out.row.sl (by omega))
                  unfold setF at HF3 CE
                  clear o3 b3 KO k1 CT
                  cases hm : Fw.okMs zt with
                  | true =>
                    have HO2 := Lib.hid (hok2.out hm)
                    have HR2 : Hid (Fw.run r c s zs ds = Fw.run r c s zt (ds.drop (k + 1))) := Lib.hid (hrun.out.trans (hst.out hm))
                    rw [hm] at CE
                    clear hm hst hsf hok2 hrun hok hf
                    go_wp2_with fail
                    refine CE.out.mono ?_
                    rintro e w4 ⟨rfl, rfl⟩
                    go_wp2_with fail
                    exact ⟨⟨k + 1, g2, cp2, zt, by omega, by go_num, by omega, HF3, HO2, HR2⟩, by simp only [intOf]; omega⟩
                  | false =>
                    have hr := Lib.hid (Fw.dr_6 (ds := ds) H1.out hb2.out (hrun.out.trans (hsf.out hm)))
                    rw [hm] at CE
                    clear hm hst hsf hok2 hrun hok hf
                    go_wp2_with fail
                    refine CE.out.mono ?_
                    rintro e w4 ⟨rfl, rfl⟩
                    clear j0 j1 j2 p0 p1 p2
                    have KR := HF3.out.res
                    obtain ⟨c0, c1', c2'⟩ := KR.fc.three
                    have f0 := KR.free 0
                    have f1 := KR.free 1
                    have f2 := KR.free 2
                    have HP := Lib.hid (setF_whole KR 0 0 (.slice none 0 0)).fc.three
                    have HS := Lib.hid (setF_below HF3.out.bel (Nat.le_refl _) 0 0 (.slice none 0 0))
                    clear KR
                    go_wp2_with fail
                    obtain ⟨d0, d1', d2'⟩ := HP.out
                    unfold setF at d0 d1' d2' HS
                    exact bodyPost_ret (v := .tuple #[.agg #[.int .i64 0, .int .i64 0, .slice none 0 0], .int .i64 6]) (by simp [results, Tryd.results36, go_sem, d0, d1', d2']) rfl (RFC.mk hr.out (Own.nil _ _) HS.out)
                · have hkz : k = ds.length := by omega
                  have hr := Lib.hid (Fw.dr_0 (ds := ds) (ys := ys) H1.out hb2.out (by rw [hrun.out, hkz, List.drop_length]; rfl))
                  clear hkz
                  have KR := hf.out.res
                  obtain ⟨c0, c1', c2'⟩ := KR.fc.three
                  obtain ⟨j0, j1, j2⟩ := (hf.out.box).fc.three
                  have f0 := KR.free 0
                  have f1 := KR.free 1
                  have f2 := KR.free 2
                  have HP := Lib.hid (setF_whole KR r c (.slice (some ⟨A, 0, none⟩) ys.length cp)).fc.three
                  have HS := Lib.hid (setF_below hf.out.bel (Nat.le_refl _) r c (.slice (some ⟨A, 0, none⟩) ys.length cp))
                  have HO := Lib.hid (Own.other hf.out.row (setF_only wr w.heap.size r c (.slice (some ⟨A, 0, none⟩) ys.length cp)) (by have := hf.out.Aq; omega))
                  clear KR
                  go_wp2_with fail
                  obtain ⟨d0, d1', d2'⟩ := HP.out
                  unfold setF at d0 d1' d2' HS HO
                  exact bodyPost_ret (v := .tuple #[.agg #[.int .i64 r, .int .i64 c, (.slice (some ⟨A, 0, none⟩) ys.length cp)], .int .i64 0]) (by simp [results, Tryd.results36, go_sem, d0, d1', d2']) rfl (RFC.mk hr.out HO.out HS.out))
    · have hr := Lib.hid (Fw.dr_2 (s := s) H1.out (and_ft (Fw.okS s) (okDs_long h24)))
      go_enter Tryd.func36, Tryd.ntmps36
      go_wp2_with fail
      refine CK.out.mono ?_
      rintro e w1 ⟨rfl, b1⟩
      have KR1 := Lib.hid (KZ.out.all b1)
      have B1 := Lib.hid (bt HZ.out b1)
      clear b1
      have KR := KR1.out
      obtain ⟨c0, c1', c2'⟩ := KR.fc.three
      have f0 := KR.free 0
      have f1 := KR.free 1
      have f2 := KR.free 2
      have HP := Lib.hid (setF_whole KR 0 0 (.slice none 0 0)).fc.three
      have HS := Lib.hid (setF_below B1.out (Nat.le_refl _) 0 0 (.slice none 0 0))
      clear KR
      go_wp2_with fail
      obtain ⟨d0, d1', d2'⟩ := HP.out
      unfold setF at d0 d1' d2' HS
      exact bodyPost_ret (v := .tuple #[.agg #[.int .i64 0, .int .i64 0, .slice none 0 0], .int .i64 2]) (by simp [results, Tryd.results36, go_sem, d0, d1', d2']) rfl (RFC.mk hr.out (Own.nil _ _) HS.out)
end Go.Proofs.YtmidihmbehaegaaDoor
