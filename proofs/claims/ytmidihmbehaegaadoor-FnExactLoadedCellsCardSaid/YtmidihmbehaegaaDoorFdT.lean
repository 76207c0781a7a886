/-
  A step of drift (chapter 6), by the model. No condition of its own.
-/
import Derived.Test.YtmidihmbehaegaaDoorFdN
namespace Go.Proofs.YtmidihmbehaegaaDoor
open Go.RowKit Go.Shelf Go.Deep
set_option linter.unusedVariables false
set_option maxRecDepth 100000

/-- what a call leaves that answers a field of the call's own -/
def RF (w : World) (r c : Int) (zs : List Int) (e : Ending) (w' : World) : Prop :=
  ∃ g cap, e = .returned (.agg #[.int .i64 r, .int .i64 c, .slice (some ⟨g, 0, none⟩) zs.length cap]) ∧ Own w.heap.size w' (.slice (some ⟨g, 0, none⟩) zs.length cap) zs ∧ Below w.heap.size w w'
theorem RF.mk {w w' : World} {r c : Int} {zs zs' : List Int} {g n cap : Nat} (h : zs = zs') (ho : Own w.heap.size w' (.slice (some ⟨g, 0, none⟩) n cap) zs') (hb : Below w.heap.size w w') : RF w r c zs (.returned (.agg #[.int .i64 r, .int .i64 c, .slice (some ⟨g, 0, none⟩) n cap])) w' := by
  subst h
  have := own_len ho
  subst this
  exact ⟨g, cap, rfl, ho, hb⟩
theorem own_atD {B g n cap : Nat} {w : World} {zs : List Int} (h : Own B w (.slice (some ⟨g, 0, none⟩) n cap) zs) {k : Nat} (hk : k < zs.length) : w.cell? ⟨g, k, none⟩ = some (.int .i64 (zs.getD k 0)) :=
  own_cell h (by rw [List.getD_eq_getElem?_getD, List.getElem?_eq_getElem hk]; rfl)
set_option maxHeartbeats 12800000 in
theorem l06Step_any (w : World) (b : Nat) (r c : Int) (v : Value) (zs : List Int) (d s : Int) (hc : FC w b r c v) (hv : IAt w v zs) (hok : Fw.ok r c zs = true) (d1 : 0 ≤ d) (d2 : d ≤ 3) (s1 : 0 ≤ s) (s2 : s ≤ 1000) :
    Calls Tryd.prog 34 #[.pointer (some ⟨b, 0, none⟩), .int .i64 d, .int .i64 s] w (RF w r c (Fw.st r c d s zs)) := by
  obtain ⟨hfit, hms⟩ := (Fw.ok_iff _ _ _).1 hok
  obtain ⟨⟨r1, r2⟩, ⟨c1, c2⟩, hlen⟩ := (Fw.fits_iff _ _ _).1 hfit
  have hl64 := (Fw.fits_len hfit).2
  have hl1 := (Fw.fits_len hfit).1
  have HM := Lib.hid hms
  have HL := Lib.hid hlen
  have HZ : Hid (Below w.heap.size w (w.alloc (.cells #[.int .i64 0, .int .i64 0, .slice none 0 0] 26))) := Lib.hid ((Below.refl _ _).alloc (Nat.le_refl _) _)
  have KR : Hid (Whole (w.alloc (.cells #[.int .i64 0, .int .i64 0, .slice none 0 0] 26)) w.heap.size 26 #[.int .i64 0, .int .i64 0, .slice none 0 0]) := Lib.hid (Whole.new _ _ _)
  have HC0 := Lib.hid hc
  obtain ⟨B, vb, vcap, rfl, hvo⟩ := hv
  have hv : IAt w (.slice (some ⟨vb, 0, none⟩) zs.length vcap) zs := ⟨B, vb, vcap, rfl, hvo⟩
  have HVO := Lib.hid hvo
  clear hvo
  have HC := Lib.hid (hc.all HZ.out)
  have HV := Lib.hid (hv.all HZ.out)
  clear hc hv hok hfit hms hlen
  go_enter Tryd.func34, Tryd.ntmps34
  go_wp2_with fail
  generalize w.alloc (.cells #[.int .i64 0, .int .i64 0, .slice none 0 0] 26) = w1 at HZ KR HC HV ⊢
  have CO := Lib.hid (fun W (h : Below w1.heap.size w1 W) => l00Own_any W (.slice (some ⟨vb, 0, none⟩) zs.length vcap) zs (HV.out.all h) (by omega))
  have KK := Lib.hid (fun W (h : Below w1.heap.size w1 W) => (HC.out.all h).three)
  obtain ⟨x0, x1, x2⟩ := HC.out.three
  have nx0 := World.new_ne w1 ⟨b, 0, none⟩ x0
  have nx1 := World.new_ne w1 ⟨b, 1, none⟩ x1
  have nx2 := World.new_ne w1 ⟨b, 2, none⟩ x2
  go_region_held3 (fun w' => w'.cell? ⟨b, 0, none⟩ = some (.int .i64 r) ∧ w'.cell? ⟨b, 1, none⟩ = some (.int .i64 c) ∧ w'.cell? ⟨b, 2, none⟩ = some (.slice (some ⟨vb, 0, none⟩) zs.length vcap)) (go_keep)
    (first
      | (go_at_call 49; refine (CO.out _ (bdr1 _)).mono ?_; rintro e w2 ⟨g, cap, rfl, o2, b2⟩; have b20 : Below w1.heap.size w1 w2 := bt (bdr1 _) b2; obtain ⟨y0, y1, y2⟩ := KK.out w2 b20)
      | (go_at_call 49; refine (CO.out _ (bdA _ _)).mono ?_; rintro e w2 ⟨g, cap, rfl, o2, b2⟩; have b20 : Below w1.heap.size w1 w2 := bt (bdA _ _) b2; obtain ⟨y0, y1, y2⟩ := KK.out w2 b20; obtain ⟨⟨t0, t1, t2⟩, u0, u1, u2⟩ := (new_kept b2).three))
  all_goals (
    first
      | (have HF := Lib.hid (FV.mkA (r := r) (c := c) HZ.out KR.out (Nat.le_refl _) o2 b2)
         generalize w2.alloc (.cells #[.int .i64 r, .int .i64 c, .slice (some ⟨g, 0, none⟩) zs.length cap] 26) = W at HF ⊢
         generalize w2.heap.size = o at HF ⊢)
      | (have HF := Lib.hid (FV.mkB (r := r) (c := c) HZ.out KR.out (Nat.le_refl _) o2 b2)
         unfold setF at HF
         generalize ((w2.setCell ⟨w1.heap.size, 0, none⟩ (.int .i64 r)).setCell ⟨w1.heap.size, 1, none⟩ (.int .i64 c)).setCell ⟨w1.heap.size, 2, none⟩ (.slice (some ⟨g, 0, none⟩) zs.length cap) = W at HF ⊢
         generalize hoo : w1.heap.size = o at HF ⊢
         clear hoo)
    clear nx0 nx1 nx2 x0 x1 x2 CO KK o2 b2 b20 y0 y1 y2 KR HC HV HZ
    try clear t0 t1 t2 u0 u1 u2
    go_wp2_with fail
    go_loopw [8, 9, 10] (fun i _ _ wr => ∃ k : Nat, k ≤ zs.length ∧ i = .int .i64 k ∧ Hid (FV w wr w.heap.size r c o g cap zs.length (Fw.stp r c d s zs k))) (fun i _ _ _ => zs.length - (intOf i).toNat)
    case atStart => exact ⟨0, Nat.zero_le _, rfl, HF⟩
    case round =>
      obtain ⟨k, hk, rfl, hf⟩ := hrel
      have HFC := Lib.hid (HC0.out.all hf.out.bel)
      obtain ⟨x0, x1, x2⟩ := HFC.out.three
      by_cases hlt : k < zs.length
      · have hltz : (k : Int) < (zs.length : Int) := by omega
        have hkr : (k : Int) < r * c := by rw [← HL.out]; exact hltz
        have CN := Lib.hid (l06Next_any wr b r c _ HFC.out k d r1 r2 c1 c2 hkr d1 d2)
        obtain ⟨n0, n1⟩ := Fw.nx_bd r c k d c1
        have hne := Fw.nx_ne c1 (Int.natCast_nonneg k) hkr d1 d2
        have hmx : max 0 (r * c) = r * c := by have := Fw.prod_le r1 r2 c1 c2; omega
        by_cases hnx : Fw.nx r c k d < 0
        · have HN : Hid (FV w wr w.heap.size r c o g cap zs.length (Fw.stp r c d s zs (k + 1))) := Lib.hid (by rw [Fw.stp_no hnx]; exact hf.out)
          clear hf hne n1 hmx hkr
          generalize Fw.nx r c k d = t at *
          go_wp2_with fail
          refine CN.out.mono ?_
          rintro e w3 ⟨rfl, rfl⟩
          go_wp2_with fail
          exact ⟨⟨k + 1, by omega, by go_num, HN⟩, by simp only [intOf]; omega⟩
        · obtain ⟨t, ht⟩ : ∃ t : Nat, Fw.nx r c k d = (t : Int) := ⟨(Fw.nx r c k d).toNat, by omega⟩
          have htl : t < zs.length := by have := HL.out; omega
          have hkt : k ≠ t := by intro e; apply hne; rw [ht, e]
          have hst := Lib.hid (Fw.stp_set (s := s) (zs := zs) hnx (by rw [ht]; rfl) hkt)
          have a1 := Fw.stp_abs (r := r) (c := c) (d := d) s1 s2 HM.out k k
          have a2 := Fw.stp_abs (r := r) (c := c) (d := d) s1 s2 HM.out k t
          obtain ⟨z0, z1⟩ := Fw.okMs_getD HM.out k
          obtain ⟨g0, g1, g2, g3⟩ := Fw.gv_bd s1 s2 z0 z1
          have hsl := Fw.stp_length r c d s zs k
          have l1 := own_atD hf.out.row (k := k) (by omega)
          have l2 := own_atD hf.out.row (k := t) (by omega)
          have l3 := own_atD (HVO.out) hlt
          have l3' : wr.cell? ⟨vb, k, none⟩ = some (.int .i64 (zs.getD k 0)) := (hf.out.bel.cell (p := ⟨vb, k, none⟩) (World.ownsRow.lt HVO.out vb rfl).2).trans l3
          have p1 := own_free hf.out.row k
          have p2 := own_free hf.out.row t
          have k2 := hf.out.box.at_ 2
          simp only [List.getElem?_toArray, List.getElem?_cons_succ, List.getElem?_cons_zero] at k2
          have og := hf.out.oA
          have go : g ≠ o := fun e => og e.symm
          have hvg : vb ≠ g := by have := (World.ownsRow.lt HVO.out vb rfl).2; have := hf.out.Aq; have := hf.out.wq; omega
          have CD := Lib.hid (fun W => l01Div_any (zs.getD k 0 * s) 1000 W (by omega) (by omega) (by omega) (by omega) (by omega))
          rw [show Ar.dr (zs.getD k 0 * s) 1000 = Fw.gv s (zs.getD k 0) from rfl] at CD
          have HN : Hid (FV w ((wr.setCell ⟨g, k, none⟩ (.int .i64 ((Fw.stp r c d s zs k).getD k 0 - Fw.gv s (zs.getD k 0)))).setCell ⟨g, t, none⟩ (.int .i64 ((Fw.stp r c d s zs k).getD t 0 + Fw.gv s (zs.getD k 0)))) w.heap.size r c o g cap zs.length (Fw.stp r c d s zs (k + 1))) := Lib.hid (by rw [← hst.out]; exact (hf.out.put k _).put t _)
          rw [ht] at CN
          clear hst hf l3 hne n0 n1 hmx hkr hnx ht hsl
          generalize Fw.gv s (zs.getD k 0) = q at *
          generalize (Fw.stp r c d s zs k).getD k 0 = ya at *
          generalize (Fw.stp r c d s zs k).getD t 0 = yb at *
          generalize zs.getD k 0 = z at *
          go_wp2_with fail
          refine CN.out.mono ?_
          rintro e w3 ⟨rfl, rfl⟩
          go_wp2_with fail
          with_reducible refine (CD.out _).mono ?_
          rintro e w3 ⟨rfl, rfl⟩
          go_wp2_with fail
          exact ⟨⟨k + 1, by omega, by go_num, HN⟩, by simp only [intOf]; omega⟩
      · have hltz : ¬ (k : Int) < (zs.length : Int) := by omega
        have hkz : k = zs.length := by omega
        subst hkz
        have HE : Hid (FV w wr w.heap.size r c o g cap zs.length (Fw.st r c d s zs)) := hf
        have KR := HE.out.res
        obtain ⟨c0, c1', c2'⟩ := KR.fc.three
        obtain ⟨j0, j1, j2⟩ := HE.out.box.fc.three
        have f0 := KR.free 0
        have f1 := KR.free 1
        have f2 := KR.free 2
        have HP := Lib.hid (setF_whole KR r c (.slice (some ⟨g, 0, none⟩) zs.length cap)).fc.three
        have HS := Lib.hid (setF_below HE.out.bel (Nat.le_refl _) r c (.slice (some ⟨g, 0, none⟩) zs.length cap))
        have HO := Lib.hid (Own.other HE.out.row (setF_only wr w.heap.size r c (.slice (some ⟨g, 0, none⟩) zs.length cap)) (by have := HE.out.Aq; omega))
        clear KR hf
        go_wp2_with fail
        obtain ⟨d0, d1', d2'⟩ := HP.out
        unfold setF at d0 d1' d2' HS HO
        exact bodyPost_ret (v := .agg #[.int .i64 r, .int .i64 c, .slice (some ⟨g, 0, none⟩) zs.length cap]) (by simp [results, Tryd.results34, go_sem, d0, d1', d2']) rfl (RF.mk rfl HO.out HS.out))
end Go.Proofs.YtmidihmbehaegaaDoor
