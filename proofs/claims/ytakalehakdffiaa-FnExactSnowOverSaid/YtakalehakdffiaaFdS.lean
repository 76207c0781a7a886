/-
  SnowOver of chapter 6, by the program and by the model. No condition of its own.
-/
import Derived.Test.YtakalehakdffiaaFdV
namespace Go.Proofs.Ytakalehakdffiaa
open Go.RowKit Go.Shelf Go.Deep
set_option linter.unusedVariables false
set_option maxRecDepth 100000

theorem stCode_any (a b : Bool) (w : World) : Calls Try.prog 50 #[.bool a, .bool b] w fun e w' => e = .returned (.int .i64 (Fw.cd a b)) ∧ w = w' := by
  cases a <;> cases b
  all_goals
    go_enter Try.func50, Try.ntmps50
    go_wp2
    go_ret
    exact ⟨rfl, rfl⟩
set_option maxHeartbeats 800000 in
theorem fieldCode_any (w : World) (r c : Int) (v : Value) (zs : List Int) (b : Bool) (hv : Sl w v zs) (hl : zs.length ≤ 1048576) :
    Calls Try.prog 42 #[.agg #[.int .i64 r, .int .i64 c, v], .bool b] w fun e w' => e = .returned (.int .i64 (Fw.cd (Fw.ok r c zs) b)) ∧ Below w.heap.size w w' := by
  have HB := Lib.hid (boxF_below w r c v 27)
  have C := Lib.hid (implValidField_any (boxF w r c v 27) r c v zs (hv.below HB.out) hl)
  have CS := Lib.hid (fun W => stCode_any (Fw.ok r c zs) b W)
  clear hv
  generalize Fw.cd (Fw.ok r c zs) b = q at *
  generalize Fw.ok r c zs = o at *
  go_enter Try.func42, Try.ntmps42
  go_wp2_with fail
  refine C.out.mono ?_
  rintro e w1 ⟨rfl, b1⟩
  have B1 := Lib.hid (bt HB.out b1)
  clear b1
  go_wp2_with fail
  refine (CS.out _).mono ?_
  rintro e w2 ⟨rfl, rfl⟩
  go_wp2_with fail
  go_ret
  exact ⟨rfl, B1.out⟩
theorem set_own {B g n cap : Nat} {w : World} {zs : List Int} (h : Own B w (.slice (some ⟨g, 0, none⟩) n cap) zs) (k : Nat) (x : Int) : Own B (w.setCell ⟨g, k, none⟩ (.int .i64 x)) (.slice (some ⟨g, 0, none⟩) n cap) (zs.set k x) := by
  have hn := own_len h
  subst hn
  have := (World.ownsRow.stored h k (.int .i64 x)).1
  unfold Own
  rw [List.length_set]
  have e : iv (zs.set k x) = (iv zs).set k (.int .i64 x) := by unfold iv; rw [List.map_set]
  rw [e]; exact this
theorem own_cell {B g n cap : Nat} {w : World} {zs : List Int} (h : Own B w (.slice (some ⟨g, 0, none⟩) n cap) zs) {k : Nat} {x : Int} (hk : zs[k]? = some x) : w.cell? ⟨g, k, none⟩ = some (.int .i64 x) := by
  have hn := own_len h
  have hlt : k < zs.length := (List.getElem?_eq_some_iff.1 hk).1
  subst hn
  have h' : w.ownsRow B 2 1 (.slice (some ⟨g, 0, none⟩) zs.length cap) zs.length (iv zs) := h
  have := h'.cellAt k (by omega)
  rw [this]; exact iv_at hk
theorem own_free {B g n cap : Nat} {w : World} {zs : List Int} (h : Own B w (.slice (some ⟨g, 0, none⟩) n cap) zs) (k : Nat) : w.frozen? ⟨g, k, none⟩ = false := by
  have hn := own_len h
  subst hn
  have h' : w.ownsRow B 2 1 (.slice (some ⟨g, 0, none⟩) zs.length cap) zs.length (iv zs) := h
  exact h'.frozenAt k

theorem Own.other {B x g n cap : Nat} {w w1 : World} {zs : List Int} (h : Own B w (.slice (some ⟨g, 0, none⟩) n cap) zs) (hg : w.grownBy w1 (some x)) (hx : g ≠ x) : Own B w1 (.slice (some ⟨g, 0, none⟩) n cap) zs := by
  have hn := own_len h
  subst hn
  exact own_other h hg hx
/-- a field variable of the call's own: block o, its masses in row A; an empty field in block q -/
structure FV (w0 w : World) (q : Nat) (r c : Int) (o A cap n : Nat) (ys : List Int) : Prop where
  box : Whole w o 27 #[.int .i64 r, .int .i64 c, .slice (some ⟨A, 0, none⟩) n cap]
  row : Own w0.heap.size w (.slice (some ⟨A, 0, none⟩) n cap) ys
  res : Whole w q 27 #[.int .i64 0, .int .i64 0, .slice none 0 0]
  bel : Below w0.heap.size w0 w
  oA : o ≠ A
  oq : q < o
  Aq : q < A
  wq : w0.heap.size ≤ q
theorem FV.put {w0 w : World} {q : Nat} {r c : Int} {o A cap n : Nat} {ys : List Int} (h : FV w0 w q r c o A cap n ys) (k : Nat) (x : Int) : FV w0 (w.setCell ⟨A, k, none⟩ (.int .i64 x)) q r c o A cap n (ys.set k x) := by
  have hg : w.grownBy (w.setCell ⟨A, k, none⟩ (.int .i64 x)) (some A) := only_setCell (p := ⟨A, k, none⟩) (World.grownBy.refl _ _) rfl _
  exact ⟨h.box.far hg h.oA, set_own h.row k x, h.res.far hg (by have := h.Aq; omega), h.bel.setCell (p := ⟨A, k, none⟩) (by have := h.Aq; have := h.wq; show w0.heap.size ≤ A; omega) _, h.oA, h.oq, h.Aq, h.wq⟩
theorem FV.mkA {w0 w1 w2 : World} {q : Nat} {r c : Int} {g cap n : Nat} {zs : List Int} (b1 : Below w0.heap.size w0 w1) (kr : Whole w1 q 27 #[.int .i64 0, .int .i64 0, .slice none 0 0]) (hq : w0.heap.size ≤ q) (o2 : Own w1.drew.heap.size w2 (.slice (some ⟨g, 0, none⟩) n cap) zs) (b2 : Below w1.drew.heap.size w1.drew w2) :
    FV w0 (w2.alloc (.cells #[.int .i64 r, .int .i64 c, .slice (some ⟨g, 0, none⟩) n cap] 27)) q r c w2.heap.size g cap n zs := by
  have hn := own_len o2
  subst hn
  obtain ⟨l1, l2⟩ := World.ownsRow.lt o2 g rfl
  have bl : Below w1.heap.size w1 w2 := bt (bdr1 _) b2
  have kq := kr.lt
  have l3 : w1.heap.size ≤ w2.heap.size := bl.size
  have ba : Below w2.heap.size w2 (w2.alloc (.cells #[.int .i64 r, .int .i64 c, .slice (some ⟨g, 0, none⟩) zs.length cap] 27)) := (Below.refl _ _).alloc (Nat.le_refl _) _
  have l4 : w1.heap.size ≤ g := by simpa using l1
  exact ⟨Whole.new _ _ _, (Own.le o2 (by have := b1.size; simp; omega)).belowAll ba, (kr.all bl).all ba, bt (bt b1 bl) ba, by omega, by omega, by omega, hq⟩
theorem FV.mkB {w0 w1 w2 : World} {q : Nat} {r c : Int} {g cap n : Nat} {zs : List Int} (b1 : Below w0.heap.size w0 w1) (kr : Whole w1 q 27 #[.int .i64 0, .int .i64 0, .slice none 0 0]) (hq : w0.heap.size ≤ q)
    (o2 : Own (w1.alloc (.cells #[.int .i64 0, .int .i64 0, .slice none 0 0] 27)).drew.heap.size w2 (.slice (some ⟨g, 0, none⟩) n cap) zs) (b2 : Below (w1.alloc (.cells #[.int .i64 0, .int .i64 0, .slice none 0 0] 27)).drew.heap.size (w1.alloc (.cells #[.int .i64 0, .int .i64 0, .slice none 0 0] 27)).drew w2) :
    FV w0 (setF w2 w1.heap.size r c (.slice (some ⟨g, 0, none⟩) n cap)) q r c w1.heap.size g cap n zs := by
  have hn := own_len o2
  subst hn
  obtain ⟨l1, l2⟩ := World.ownsRow.lt o2 g rfl
  have l1' : w1.heap.size + 1 ≤ g := by simpa using l1
  have bl : Below w1.heap.size w1 w2 := bt (bdA _ _) b2
  have kq := kr.lt
  have hg := setF_only w2 w1.heap.size r c (.slice (some ⟨g, 0, none⟩) zs.length cap)
  exact ⟨setF_whole (new_kept b2) _ _ _, Own.other (Own.le o2 (by have := b1.size; simp; omega)) hg (by omega), (kr.all bl).far hg (by omega), setF_below (bt b1 bl) (by have := b1.size; omega) _ _ _, by omega, by omega, by omega, hq⟩

set_option maxHeartbeats 6400000 in
theorem specSnowOver_any (w : World) (r c : Int) (v : Value) (zs : List Int) (m : Int) (ho : IAt w v zs) (hl : zs.length ≤ 1048576) :
    Calls Try.prog 19 #[.agg #[.int .i64 r, .int .i64 c, v], .int .i64 m] w (RFC w (Fw.soR r c zs m) (Fw.soK r c zs m) (Fw.soZ r c zs m) (Fw.soC r c zs m)) := by
  have HB := Lib.hid (twoF_below w r c v 27 27)
  have C := Lib.hid (l06Ok_any (twoF w r c v 27 27) w.heap.size r c v zs (twoF_new w r c v 27 27).1.fc (ho.sl.below HB.out) hl)
  have CM := Lib.hid (fun W => l06Mass_any m W)
  have HO := Lib.hid ho
  clear ho
  cases h1 : Fw.ok r c zs with
  | false =>
    have hr := Lib.hid (Fw.so_1 (m := m) h1)
    rw [h1] at C
    clear h1
    go_enter Try.func19, Try.ntmps19
    go_wp2_with fail
    refine C.out.mono ?_
    rintro e w1 ⟨rfl, b1⟩
    have KR := (twoF_kept b1).2
    have B1 := Lib.hid (bt HB.out b1)
    obtain ⟨c0, c1, c2⟩ := KR.fc.three
    have f0 := KR.free 0
    have f1 := KR.free 1
    have f2 := KR.free 2
    have HP := Lib.hid (setF_whole KR 0 0 (.slice none 0 0)).fc.three
    have HS := Lib.hid (setF_below B1.out (Nat.le_succ _) 0 0 (.slice none 0 0))
    clear b1 KR
    go_wp2_with fail
    obtain ⟨d0, d1, d2⟩ := HP.out
    unfold setF at d0 d1 d2 HS
    exact bodyPost_ret (v := .tuple #[.agg #[.int .i64 0, .int .i64 0, .slice none 0 0], .int .i64 1]) (by simp [results, Try.results19, go_sem, d0, d1, d2]) rfl (RFC.mk hr.out (Own.nil _ _) HS.out)
  | true =>
    cases h2 : Fw.okM m with
    | false =>
      have hr := Lib.hid (Fw.so_2 h1 h2)
      rw [h1] at C
      rw [h2] at CM
      clear h1 h2
      go_enter Try.func19, Try.ntmps19
      go_wp2_with fail
      refine C.out.mono ?_
      rintro e w1 ⟨rfl, b1⟩
      have KR := (twoF_kept b1).2
      have B1 := Lib.hid (bt HB.out b1)
      clear b1
      go_wp2_with fail
      refine (CM.out _).mono ?_
      rintro e w2 ⟨rfl, rfl⟩
      obtain ⟨c0, c1, c2⟩ := KR.fc.three
      have f0 := KR.free 0
      have f1 := KR.free 1
      have f2 := KR.free 2
      have HP := Lib.hid (setF_whole KR 0 0 (.slice none 0 0)).fc.three
      have HS := Lib.hid (setF_below B1.out (Nat.le_succ _) 0 0 (.slice none 0 0))
      clear KR
      go_wp2_with fail
      obtain ⟨d0, d1, d2⟩ := HP.out
      unfold setF at d0 d1 d2 HS
      exact bodyPost_ret (v := .tuple #[.agg #[.int .i64 0, .int .i64 0, .slice none 0 0], .int .i64 2]) (by simp [results, Try.results19, go_sem, d0, d1, d2]) rfl (RFC.mk hr.out (Own.nil _ _) HS.out)
    | true =>
      have H1 := Lib.hid h1
      have H2 := Lib.hid h2
      obtain ⟨m0, m1⟩ := (Fw.okM_iff _).1 h2
      have hfit := ((Fw.ok_iff _ _ _).1 h1).1
      have hms := Lib.hid ((Fw.ok_iff _ _ _).1 h1).2
      have hl64 := (Fw.fits_len hfit).2
      rw [h1] at C
      rw [h2] at CM
      clear h1 h2 hfit
      go_enter Try.func19, Try.ntmps19
      go_wp2_with fail
      refine C.out.mono ?_
      rintro e w1 ⟨rfl, b1⟩
      have KX := Lib.hid (twoF_kept b1).1
      have KR := Lib.hid (twoF_kept b1).2
      have B1 := Lib.hid (bt HB.out b1)
      clear b1
      go_wp2_with fail
      refine (CM.out _).mono ?_
      rintro e w2 ⟨rfl, rfl⟩
      obtain ⟨x0, x1, x2⟩ := KX.out.three
      have CO := Lib.hid (fun W (h : Below w1.heap.size w1 W) => l00Own_any W v zs ((HO.out.all B1.out).all h) hl)
      have KK := Lib.hid (fun W (h : Below w1.heap.size w1 W) => (KX.out.all h).three)
      have nx0 := World.new_ne w1 ⟨w.heap.size, 0, none⟩ x0
      have nx1 := World.new_ne w1 ⟨w.heap.size, 1, none⟩ x1
      have nx2 := World.new_ne w1 ⟨w.heap.size, 2, none⟩ x2
      go_wp2_with fail
      go_region_held3 (fun w' => w'.cell? ⟨w.heap.size, 0, none⟩ = some (.int .i64 r) ∧ w'.cell? ⟨w.heap.size, 1, none⟩ = some (.int .i64 c) ∧ w'.cell? ⟨w.heap.size, 2, none⟩ = some v) (go_keep)
        (first
        | (go_at_call 40; refine (CO.out _ (bdr1 _)).mono ?_; rintro e w2 ⟨g, cap, rfl, o2, b2⟩; have b20 : Below w1.heap.size w1 w2 := bt (bdr1 _) b2; obtain ⟨y0, y1, y2⟩ := KK.out w2 b20)
        | (go_at_call 40; refine (CO.out _ (bdA _ _)).mono ?_; rintro e w2 ⟨g, cap, rfl, o2, b2⟩; have b20 : Below w1.heap.size w1 w2 := bt (bdA _ _) b2; obtain ⟨y0, y1, y2⟩ := KK.out w2 b20; obtain ⟨⟨t0, t1, t2⟩, u0, u1, u2⟩ := (new_kept b2).three))
      all_goals (
        first
          | (have HF := Lib.hid (FV.mkA (r := r) (c := c) B1.out KR.out (Nat.le_succ _) o2 b2); generalize w2.alloc (.cells #[.int .i64 r, .int .i64 c, .slice (some ⟨g, 0, none⟩) zs.length cap] 27) = W at HF ⊢; generalize w2.heap.size = o at HF ⊢)
          | (have HF := Lib.hid (FV.mkB (r := r) (c := c) B1.out KR.out (Nat.le_succ _) o2 b2); unfold setF at HF; generalize ((w2.setCell ⟨w1.heap.size, 0, none⟩ (.int .i64 r)).setCell ⟨w1.heap.size, 1, none⟩ (.int .i64 c)).setCell ⟨w1.heap.size, 2, none⟩ (.slice (some ⟨g, 0, none⟩) zs.length cap) = W at HF ⊢; generalize w1.heap.size = o at HF ⊢)
        clear nx0 nx1 nx2 x0 x1 x2 CO KK o2 b2 b20 y0 y1 y2 KX KR C CM
        try clear t0 t1 t2 u0 u1 u2
        go_wp2_with fail
        go_loopw [7] (fun i wr => ∃ k : Nat, k ≤ zs.length ∧ i = .int .i64 k ∧ Hid (FV w wr (w.heap.size + 1) r c o g cap zs.length (Fw.up m zs k))) (fun i _ => zs.length - (intOf i).toNat)
        case atStart => exact ⟨0, Nat.zero_le _, rfl, by rw [Fw.up_0]; exact HF⟩
        case round =>
          obtain ⟨k, hk, rfl, hf⟩ := hrel
          have k2 := hf.out.box.at_ 2
          simp only [List.getElem?_toArray, List.getElem?_cons_succ, List.getElem?_cons_zero] at k2
          by_cases hlt : k < zs.length
          · have hz := own_cell hf.out.row (Fw.up_at (m := m) hlt)
            have hfz := own_free hf.out.row k
            have HN : Hid (FV w (wr.setCell ⟨g, k, none⟩ (.int .i64 (zs[k] + m))) (w.heap.size + 1) r c o g cap zs.length (Fw.up m zs (k + 1))) := Lib.hid (by rw [← Fw.up_set hlt]; exact hf.out.put k _)
            obtain ⟨e1, e2⟩ := Fw.map_bd m0 hms.out hlt
            clear hf
            generalize zs[k] = z at *
            go_wp2
            exact ⟨⟨k + 1, by omega, by go_num, HN⟩, by simp only [intOf]; omega⟩
          · have hkz : k = zs.length := by omega
            subst hkz
            have HE : Hid (FV w wr (w.heap.size + 1) r c o g cap zs.length (zs.map (· + m))) := Lib.hid (by rw [← Fw.up_all]; exact hf.out)
            have CE := Lib.hid (l06Masses_any wr o r c _ (zs.map (· + m)) HE.out.box.fc HE.out.row.sl (by simp; omega))
            clear hf
            cases h3 : Fw.okMs (zs.map (· + m)) with
            | false =>
              have hr := Lib.hid (Fw.so_6 H1.out H2.out h3)
              rw [h3] at CE
              clear h3
              go_wp2_with fail
              refine CE.out.mono ?_
              rintro e w3 ⟨rfl, rfl⟩
              have KR := HE.out.res
              obtain ⟨c0, c1, c2⟩ := KR.fc.three
              have f0 := KR.free 0
              have f1 := KR.free 1
              have f2 := KR.free 2
              have HP := Lib.hid (setF_whole KR 0 0 (.slice none 0 0)).fc.three
              have HS := Lib.hid (setF_below HE.out.bel (Nat.le_succ _) 0 0 (.slice none 0 0))
              clear KR
              go_wp2_with fail
              obtain ⟨d0, d1, d2⟩ := HP.out
              unfold setF at d0 d1 d2 HS
              exact bodyPost_ret (v := .tuple #[.agg #[.int .i64 0, .int .i64 0, .slice none 0 0], .int .i64 6]) (by simp [results, Try.results19, go_sem, d0, d1, d2]) rfl (RFC.mk hr.out (Own.nil _ _) HS.out)
            | true =>
              have hr := Lib.hid (Fw.so_0 H1.out H2.out h3)
              rw [h3] at CE
              clear h3
              go_wp2_with fail
              refine CE.out.mono ?_
              rintro e w3 ⟨rfl, rfl⟩
              have KR := HE.out.res
              obtain ⟨c0, c1, c2⟩ := KR.fc.three
              obtain ⟨j0, j1, j2⟩ := HE.out.box.fc.three
              have f0 := KR.free 0
              have f1 := KR.free 1
              have f2 := KR.free 2
              have HP := Lib.hid (setF_whole KR r c (.slice (some ⟨g, 0, none⟩) zs.length cap)).fc.three
              have HS := Lib.hid (setF_below HE.out.bel (Nat.le_succ _) r c (.slice (some ⟨g, 0, none⟩) zs.length cap))
              have HO := Lib.hid (Own.other HE.out.row (setF_only wr (w.heap.size + 1) r c (.slice (some ⟨g, 0, none⟩) zs.length cap)) (by have := HE.out.Aq; omega))
              clear KR
              go_wp2_with fail
              obtain ⟨d0, d1, d2⟩ := HP.out
              unfold setF at d0 d1 d2 HS HO
              exact bodyPost_ret (v := .tuple #[.agg #[.int .i64 r, .int .i64 c, .slice (some ⟨g, 0, none⟩) zs.length cap], .int .i64 0]) (by simp [results, Try.results19, go_sem, d0, d1, d2]) rfl (RFC.mk hr.out HO.out HS.out))
set_option maxHeartbeats 6400000 in
theorem implSnowOver_any (w : World) (r c : Int) (v : Value) (zs : List Int) (m : Int) (ho : IAt w v zs) (hl : zs.length ≤ 1048576) :
    Calls Try.prog 20 #[.agg #[.int .i64 r, .int .i64 c, v], .int .i64 m] w (RFC w (Fw.soR r c zs m) (Fw.soK r c zs m) (Fw.soZ r c zs m) (Fw.soC r c zs m)) := by
  have HB := Lib.hid (twoF_below w r c v 27 27)
  have CM := Lib.hid (fun W => isDrift_any m W)
  have CF := Lib.hid (fun W (h : Below (twoF w r c v 27 27).heap.size (twoF w r c v 27 27) W) => fieldCode_any W r c v zs (Fw.okM m) ((ho.sl.below HB.out).below h) hl)
  have HO := Lib.hid ho
  have K0 := Lib.hid (fun W (h : Below (twoF w r c v 27 27).heap.size (twoF w r c v 27 27) W) => (twoF_kept h).1.three)
  obtain ⟨x0, x1, x2⟩ := K0.out _ (Below.refl _ _)
  clear ho
  cases h1 : Fw.ok r c zs with
  | false =>
    have hr := Lib.hid (Fw.so_1 (m := m) h1)
    rw [h1, show Fw.cd false (Fw.okM m) = 1 from rfl] at CF
    clear h1
    generalize Fw.okM m = bm at *
    go_enter Try.func20, Try.ntmps20
    go_wp2_with fail
    go_region_held3 (fun w' => w'.cell? ⟨w.heap.size, 0, none⟩ = some (.int .i64 r) ∧ w'.cell? ⟨w.heap.size, 1, none⟩ = some (.int .i64 c) ∧ w'.cell? ⟨w.heap.size, 2, none⟩ = some v) (go_keep)
      (first
        | (go_at_call 29; refine (CM.out _).mono ?_; rintro e w' ⟨rfl, rfl⟩)
        | (go_at_call 42; refine (CF.out _ (bdr1 _)).mono ?_; rintro e w1 ⟨rfl, b1⟩; have b10 := bt (bdr1 _) b1; obtain ⟨y0, y1, y2⟩ := K0.out w1 b10))
    have KR := (twoF_kept b10).2
    obtain ⟨c0, c1, c2⟩ := KR.fc.three
    have f0 := KR.free 0
    have f1 := KR.free 1
    have f2 := KR.free 2
    have HP := Lib.hid (setF_whole KR 0 0 (.slice none 0 0)).fc.three
    have HS := Lib.hid (setF_below (bt HB.out b10) (Nat.le_succ _) 0 0 (.slice none 0 0))
    clear KR
    go_wp2_with fail
    obtain ⟨d0, d1, d2⟩ := HP.out
    unfold setF at d0 d1 d2 HS
    exact bodyPost_ret (v := .tuple #[.agg #[.int .i64 0, .int .i64 0, .slice none 0 0], .int .i64 1]) (by simp [results, Try.results20, go_sem, d0, d1, d2]) rfl (RFC.mk hr.out (Own.nil _ _) HS.out)
  | true =>
    cases h2 : Fw.okM m with
    | false =>
      have hr := Lib.hid (Fw.so_2 h1 h2)
      rw [h1, h2, show Fw.cd true false = 2 from rfl] at CF
      rw [h2] at CM
      clear h1 h2
      go_enter Try.func20, Try.ntmps20
      go_wp2_with fail
      go_region_held3 (fun w' => w'.cell? ⟨w.heap.size, 0, none⟩ = some (.int .i64 r) ∧ w'.cell? ⟨w.heap.size, 1, none⟩ = some (.int .i64 c) ∧ w'.cell? ⟨w.heap.size, 2, none⟩ = some v) (go_keep)
        (first
          | (go_at_call 29; refine (CM.out _).mono ?_; rintro e w' ⟨rfl, rfl⟩)
          | (go_at_call 42; refine (CF.out _ (bdr1 _)).mono ?_; rintro e w1 ⟨rfl, b1⟩; have b10 := bt (bdr1 _) b1; obtain ⟨y0, y1, y2⟩ := K0.out w1 b10))
      have KR := (twoF_kept b10).2
      obtain ⟨c0, c1, c2⟩ := KR.fc.three
      have f0 := KR.free 0
      have f1 := KR.free 1
      have f2 := KR.free 2
      have HP := Lib.hid (setF_whole KR 0 0 (.slice none 0 0)).fc.three
      have HS := Lib.hid (setF_below (bt HB.out b10) (Nat.le_succ _) 0 0 (.slice none 0 0))
      clear KR
      go_wp2_with fail
      obtain ⟨d0, d1, d2⟩ := HP.out
      unfold setF at d0 d1 d2 HS
      exact bodyPost_ret (v := .tuple #[.agg #[.int .i64 0, .int .i64 0, .slice none 0 0], .int .i64 2]) (by simp [results, Try.results20, go_sem, d0, d1, d2]) rfl (RFC.mk hr.out (Own.nil _ _) HS.out)
    | true =>
      have H1 := Lib.hid h1
      have H2 := Lib.hid h2
      obtain ⟨m0, m1⟩ := (Fw.okM_iff _).1 h2
      have hfit := Lib.hid ((Fw.ok_iff _ _ _).1 h1).1
      have hms := Lib.hid ((Fw.ok_iff _ _ _).1 h1).2
      have hl64 := (Fw.fits_len hfit.out).2
      rw [h1, h2, show Fw.cd true true = 0 from rfl] at CF
      rw [h2] at CM
      clear h1 h2
      go_enter Try.func20, Try.ntmps20
      go_wp2_with fail
      go_region_held3 (fun w' => w'.cell? ⟨w.heap.size, 0, none⟩ = some (.int .i64 r) ∧ w'.cell? ⟨w.heap.size, 1, none⟩ = some (.int .i64 c) ∧ w'.cell? ⟨w.heap.size, 2, none⟩ = some v) (go_keep)
        (first
          | (go_at_call 29; refine (CM.out _).mono ?_; rintro e w' ⟨rfl, rfl⟩)
          | (go_at_call 42; refine (CF.out _ (bdr1 _)).mono ?_; rintro e w1 ⟨rfl, b1⟩; have b10 := bt (bdr1 _) b1; obtain ⟨y0, y1, y2⟩ := K0.out w1 b10))
      have KX := Lib.hid (twoF_kept b10).1
      have KR := Lib.hid (twoF_kept b10).2
      have B1 := Lib.hid (bt HB.out b10)
      have CO := Lib.hid (fun W (h : Below w1.heap.size w1 W) => cloneI_any W v zs ((HO.out.all B1.out).all h) hl)
      have KK := Lib.hid (fun W (h : Below w1.heap.size w1 W) => (KX.out.all h).three)
      have nx0 := World.new_ne w1 ⟨w.heap.size, 0, none⟩ y0
      have nx1 := World.new_ne w1 ⟨w.heap.size, 1, none⟩ y1
      have nx2 := World.new_ne w1 ⟨w.heap.size, 2, none⟩ y2
      clear b1 b10 CF CM K0 HB x0 x1 x2
      go_wp2_with fail
      go_region_held3 (fun w' => w'.cell? ⟨w.heap.size, 0, none⟩ = some (.int .i64 r) ∧ w'.cell? ⟨w.heap.size, 1, none⟩ = some (.int .i64 c) ∧ w'.cell? ⟨w.heap.size, 2, none⟩ = some v) (go_keep)
        (first
        | (go_at_call 43; refine (CO.out _ (bdr1 _)).mono ?_; rintro e w2 ⟨g, cap, rfl, o2, b2⟩; have b20 : Below w1.heap.size w1 w2 := bt (bdr1 _) b2; obtain ⟨p0, p1, p2⟩ := KK.out w2 b20)
        | (go_at_call 43; refine (CO.out _ (bdA _ _)).mono ?_; rintro e w2 ⟨g, cap, rfl, o2, b2⟩; have b20 : Below w1.heap.size w1 w2 := bt (bdA _ _) b2; obtain ⟨p0, p1, p2⟩ := KK.out w2 b20; obtain ⟨⟨t0, t1, t2⟩, u0, u1, u2⟩ := (new_kept b2).three))
      all_goals (
        first
          | (have HF := Lib.hid (FV.mkA (r := r) (c := c) B1.out KR.out (Nat.le_succ _) o2 b2); generalize w2.alloc (.cells #[.int .i64 r, .int .i64 c, .slice (some ⟨g, 0, none⟩) zs.length cap] 27) = W at HF ⊢; generalize w2.heap.size = o at HF ⊢)
          | (have HF := Lib.hid (FV.mkB (r := r) (c := c) B1.out KR.out (Nat.le_succ _) o2 b2); unfold setF at HF; generalize ((w2.setCell ⟨w1.heap.size, 0, none⟩ (.int .i64 r)).setCell ⟨w1.heap.size, 1, none⟩ (.int .i64 c)).setCell ⟨w1.heap.size, 2, none⟩ (.slice (some ⟨g, 0, none⟩) zs.length cap) = W at HF ⊢; generalize w1.heap.size = o at HF ⊢)
        clear nx0 nx1 nx2 CO KK o2 b2 b20 y0 y1 y2 KX KR p0 p1 p2
        try clear t0 t1 t2 u0 u1 u2
        have j2 := HF.out.box.at_ 2
        simp only [List.getElem?_toArray, List.getElem?_cons_succ, List.getElem?_cons_zero] at j2
        go_wp2_with fail
        go_loopw [8, 28] (fun _ i wr => ∃ k : Nat, k ≤ zs.length ∧ i = .int .i64 k ∧ Hid (FV w wr (w.heap.size + 1) r c o g cap zs.length (Fw.up m zs k))) (fun _ i _ => zs.length - (intOf i).toNat)
        case atStart => exact ⟨0, Nat.zero_le _, rfl, by rw [Fw.up_0]; exact HF⟩
        case round =>
          obtain ⟨k, hk, rfl, hf⟩ := hrel
          clear j2
          have k2 := hf.out.box.at_ 2
          simp only [List.getElem?_toArray, List.getElem?_cons_succ, List.getElem?_cons_zero] at k2
          by_cases hlt : k < zs.length
          · have hltz : (k : Int) < (zs.length : Int) := by omega
            have hz := own_cell hf.out.row (Fw.up_at (m := m) hlt)
            have hfz := own_free hf.out.row k
            have HN : Hid (FV w (wr.setCell ⟨g, k, none⟩ (.int .i64 (zs[k] + m))) (w.heap.size + 1) r c o g cap zs.length (Fw.up m zs (k + 1))) := Lib.hid (by rw [← Fw.up_set hlt]; exact hf.out.put k _)
            obtain ⟨e1, e2⟩ := Fw.map_bd m0 hms.out hlt
            clear hf
            generalize zs[k] = z at *
            go_wp2
            exact ⟨⟨k + 1, by omega, by go_num, HN⟩, by simp only [intOf]; omega⟩
          · have hltz : ¬ (k : Int) < (zs.length : Int) := by omega
            have hkz : k = zs.length := by omega
            subst hkz
            have HE : Hid (FV w wr (w.heap.size + 1) r c o g cap zs.length (zs.map (· + m))) := Lib.hid (by rw [← Fw.up_all]; exact hf.out)
            have CE := Lib.hid (implValidField_any wr r c _ (zs.map (· + m)) HE.out.row.sl (by simp; omega))
            rw [ok_t (by rw [List.length_map]; exact hfit.out)] at CE
            have JB := Lib.hid (fun W (h : Below wr.heap.size wr W) => HE.out.box.all h)
            have JR := Lib.hid (fun W (h : Below wr.heap.size wr W) => HE.out.res.all h)
            have JO := Lib.hid (fun W (h : Below wr.heap.size wr W) => HE.out.row.belowAll h)
            have J3 := Lib.hid (fun W (h : Below wr.heap.size wr W) => bt HE.out.bel h)
            obtain ⟨q0, q1, q2⟩ := HE.out.box.fc.three
            clear hf k2
            cases h3 : Fw.okMs (zs.map (· + m)) with
            | false =>
              have hr := Lib.hid (Fw.so_6 H1.out H2.out h3)
              rw [h3] at CE
              clear h3
              go_wp2_with fail
              refine CE.out.mono ?_
              rintro e w3 ⟨rfl, b3⟩
              have KR := JR.out w3 b3
              obtain ⟨c0, c1, c2⟩ := KR.fc.three
              have f0 := KR.free 0
              have f1 := KR.free 1
              have f2 := KR.free 2
              have HP := Lib.hid (setF_whole KR 0 0 (.slice none 0 0)).fc.three
              have HS := Lib.hid (setF_below (J3.out w3 b3) (Nat.le_succ _) 0 0 (.slice none 0 0))
              clear KR
              go_wp2_with fail
              obtain ⟨d0, d1, d2⟩ := HP.out
              unfold setF at d0 d1 d2 HS
              exact bodyPost_ret (v := .tuple #[.agg #[.int .i64 0, .int .i64 0, .slice none 0 0], .int .i64 6]) (by simp [results, Try.results20, go_sem, d0, d1, d2]) rfl (RFC.mk hr.out (Own.nil _ _) HS.out)
            | true =>
              have hr := Lib.hid (Fw.so_0 H1.out H2.out h3)
              rw [h3] at CE
              clear h3
              go_wp2_with fail
              refine CE.out.mono ?_
              rintro e w3 ⟨rfl, b3⟩
              clear q0 q1 q2
              have KR := JR.out w3 b3
              obtain ⟨c0, c1, c2⟩ := KR.fc.three
              obtain ⟨j0, j1, j2⟩ := (JB.out w3 b3).fc.three
              have f0 := KR.free 0
              have f1 := KR.free 1
              have f2 := KR.free 2
              have HP := Lib.hid (setF_whole KR r c (.slice (some ⟨g, 0, none⟩) zs.length cap)).fc.three
              have HS := Lib.hid (setF_below (J3.out w3 b3) (Nat.le_succ _) r c (.slice (some ⟨g, 0, none⟩) zs.length cap))
              have HO := Lib.hid (Own.other (JO.out w3 b3) (setF_only w3 (w.heap.size + 1) r c (.slice (some ⟨g, 0, none⟩) zs.length cap)) (by have := HE.out.Aq; omega))
              clear KR b3
              go_wp2_with fail
              obtain ⟨d0, d1, d2⟩ := HP.out
              unfold setF at d0 d1 d2 HS HO
              exact bodyPost_ret (v := .tuple #[.agg #[.int .i64 r, .int .i64 c, .slice (some ⟨g, 0, none⟩) zs.length cap], .int .i64 0]) (by simp [results, Try.results20, go_sem, d0, d1, d2]) rfl (RFC.mk hr.out HO.out HS.out))
end Go.Proofs.Ytakalehakdffiaa
