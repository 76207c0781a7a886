/-
  A drawn profile is valid and short. No condition but the bytes' number.
-/
import Derived.Test.YtfbfdiejffjbmaaDoorDrP
namespace Go.Proofs.YtfbfdiejffjbmaaDoor
open Go.RowKit Go.Deep
set_option linter.unusedVariables false
set_option maxRecDepth 100000

theorem fl_snocD (l : List Lay) (x : Lay) : iv (La.fl (l ++ [x])) = iv (La.fl l) ++ iv (La.lv x) := by
  rw [La.fl_app, iv_append]; simp [La.fl]
set_option maxHeartbeats 3200000 in
theorem l03Draw_any (B : Nat) (w : World) (g n : Nat) (v : Value) (k : Nat) (s : Int) (hs : Src w g v k s) (hv : Bs B w v n) (hg : B ≤ g) (hk : k ≤ 800000) (hl : n ≤ 1048576) :
    Calls Tryd.prog 26 #[.pointer (some ⟨g, 0, none⟩)] w fun e w' => ∃ (xs : List Lay) (q cap : Nat), e = .returned (.slice (some ⟨q, 0, none⟩) xs.length cap) ∧ xs.length ≤ 5 ∧ Hid (∀ x ∈ xs, La.Fits x) ∧ LOwn w.heap.size w' (.slice (some ⟨q, 0, none⟩) xs.length cap) xs ∧ Below B w w' := by
  obtain ⟨i0, hi, hz0, hzz, hz2⟩ := info_parts info_layer
  have hgw := hs.lt
  have hBw : B ≤ w.heap.size := by omega
  have HS := Lib.hid hs
  have HV := Lib.hid hv
  clear hs hv
  have CD := Lib.hid (fun (W : World) (k : Nat) (s : Int) h1 h2 h3 => drawOne_any B W g n v k s h1 h2 hg h3 hl)
  go_enter Tryd.func26, Tryd.ntmps26
  go_wp2_with fail
  refine (pick_k B (w.alloc (.cells #[] 27)) g n v k s 6 (src_alloc HS.out _) (HV.out.below ((Below.refl _ _).alloc hBw _)) hg (by omega) hl (by omega) (by omega)).mono ?_
  rintro e w1 ⟨p, s1, k1, rfl, p0, p1, hk1, S1, b1, kb1⟩
  obtain ⟨p, rfl⟩ := Int.eq_ofNat_of_zero_le p0
  have HS1 := Lib.hid S1
  have HB1 : Hid (Below B w w1) := Lib.hid (((Below.refl B w).alloc hBw _).trans b1)
  have O1 : Hid (w1.ownsRow w.heap.size 27 7 (.slice (some ⟨w.heap.size, 0, none⟩) 0 0) 0 []) := Lib.hid (own_keep (World.ownsRow_lit w #[] 0 (Nat.le_refl _) (by decide) (by simp)) kb1 hgw)
  have hz1 : w.heap.size < w1.heap.size := by have := kb1.1; simp at this; omega
  clear S1 b1 kb1
  go_wp2_with fail
  go_loopw [3, 4] (fun u i wr => ∃ (j m q cap : Nat) (xs : List Lay) (kk : Nat) (ss : Int), i = .int .i64 j ∧ u = .slice (some ⟨q, 0, none⟩) m cap ∧ m + j ≤ 5 ∧ Hid (xs.length = m) ∧ Hid (∀ x ∈ xs, La.Fits x) ∧ Hid (kk ≤ k + 2 + 20 * m) ∧ Hid (wr.ownsRow w.heap.size 27 7 (.slice (some ⟨q, 0, none⟩) m cap) m (iv (La.fl xs))) ∧ Hid (Src wr g v kk ss) ∧ Hid (Below B w wr) ∧ Hid (w.heap.size ≤ wr.heap.size)) (fun _ i _ => (intOf i).toNat)
  case atStart => exact ⟨p, 0, w.heap.size, 0, [], k1, s1, rfl, rfl, by omega, Lib.hid rfl, Lib.hid (fun x hx => by cases hx), Lib.hid (by omega), O1, HS1, HB1, Lib.hid (by omega)⟩
  case round =>
    obtain ⟨j, m, q, cap, xs, kk, ss, rfl, rfl, hm, hlen, hfit, hkk, ho, hsr, hb, hsz⟩ := hrel
    rcases j with _ | j
    · have HL : Hid (∃ (ys : List Lay) (q' cap' : Nat), Ending.returned (.slice (some ⟨q, 0, none⟩) m cap) = .returned (.slice (some ⟨q', 0, none⟩) ys.length cap') ∧ ys.length ≤ 5 ∧ Hid (∀ x ∈ ys, La.Fits x) ∧ LOwn w.heap.size wr (.slice (some ⟨q', 0, none⟩) ys.length cap') ys ∧ Below B w wr) :=
        Lib.hid ⟨xs, q, cap, by rw [hlen.out], by have := hlen.out; omega, hfit, by unfold LOwn; rw [hlen.out]; exact ho.out, hb.out⟩
      have hj : ¬ (((0 : Nat) : Int) > 0) := by omega
      clear ho hsr hb
      rw [show ((0 : Nat) : Int) = 0 from rfl]
      go_wp2
      go_ret
      exact HL.out
    · have hj : (0 : Int) < ((j + 1 : Nat) : Int) := by omega
      have hgr : g < wr.heap.size := hsr.out.lt
      have hk2 := hkk.out
      go_wp2_with fail
      refine (CD.out wr kk ss hsr.out (HV.out.below hb.out) (by omega)).mono ?_
      rintro e w2 ⟨y, s2, k2, rfl, fy, hk2', S2, b2, kb2⟩
      have HS2 := Lib.hid S2
      have HB2 := Lib.hid (hb.out.trans b2)
      have O2 := Lib.hid (own_keep ho.out kb2 hgw)
      have HF := Lib.hid fy
      have hz2' : w.heap.size ≤ w2.heap.size := by have := kb2.1; have := hsz.out; omega
      have hk3 := Lib.hid (show k2 ≤ k + 2 + 20 * (m + 1) by omega)
      clear S2 b2 kb2 fy ho
      go_wp2_with (at_builtin; refine wpList_append_own _ rfl _ _ 24 rfl w.heap.size 27 i0 _ 7 56 Tryd.underlying24 hi hz0 hzz hz2 rfl (by decide) _ _ _ rfl (O2.out.alloc _) ⟨w2.heap.size, 0, none⟩ 1 1 (iv (La.lv y)) rfl rfl (row_new _ (iv (La.lv y)) _) (iv_cell _) ?c3 ?c4 ?c5 ?_)
      case c3 => unfold maxLen; omega
      case c4 => omega
      case c5 => first | omega | (simp; omega)
      intro v4 w4 own4 grow4 _
      have hform : ∃ g' cap'', v4 = .slice (some ⟨g', 0, none⟩) (m + 1) cap'' := by
        rcases Go.Joins.ownsRow_forms own4 with ⟨-, h0⟩ | ⟨g', cap'', h⟩
        · omega
        · exact ⟨g', cap'', h⟩
      obtain ⟨g', cap'', rfl⟩ := hform
      have hq : w.heap.size ≤ q := (World.ownsRow.lt O2.out q rfl).1
      have N1 : Hid (w4.ownsRow w.heap.size 27 7 (.slice (some ⟨g', 0, none⟩) (m + 1) cap'') (m + 1) (iv (La.fl (xs ++ [y])))) := Lib.hid (by rw [fl_snocD]; exact own4)
      have N2 : Hid (Src w4 g v k2 s2) := Lib.hid (src_grown (src_alloc HS2.out _) grow4 (by simp only [Value.ownBlock, ne_eq, Option.some.injEq]; omega))
      have N3 : Hid (Below B w w4) := Lib.hid ((HB2.out.alloc (by omega) _).grown grow4 (by simp; omega) (fun j hj => by simp only [Value.ownBlock, Option.some.injEq] at hj; omega))
      have N4 : Hid (w.heap.size ≤ w4.heap.size) := Lib.hid (by have := grow4.size; simp at this; omega)
      have N5 : Hid (∀ x ∈ xs ++ [y], La.Fits x) := Lib.hid (fun x hx => by
        rcases List.mem_append.1 hx with hx | hx
        · exact hfit.out x hx
        · rw [List.mem_singleton] at hx; rw [hx]; exact HF.out)
      clear own4 grow4
      go_wp2
      exact ⟨⟨j, m + 1, g', cap'', xs ++ [y], k2, s2, by go_num, rfl, by omega, Lib.hid (by rw [List.length_append, hlen.out]; rfl), N5, hk3, N1, N2, N3, N4⟩, by simp only [intOf]; omega⟩
set_option maxHeartbeats 1600000 in
theorem r8Profile_any (w : World) (v : Value) (n : Nat) (hv : Bs w.heap.size w v n) (hl : n ≤ 1048576) :
    Calls Tryd.prog 8 #[v] w fun e w' => ∃ (xs : List Lay) (q cap : Nat), e = .returned (.slice (some ⟨q, 0, none⟩) xs.length cap) ∧ xs.length ≤ 5 ∧ Hid (∀ x ∈ xs, La.Fits x) ∧ LOwn w.heap.size w' (.slice (some ⟨q, 0, none⟩) xs.length cap) xs ∧ Below w.heap.size w w' := by
  obtain ⟨a, cap, rfl⟩ := hv.form
  have HV := Lib.hid hv
  clear hv
  have F := Lib.hid (l00From_any a n cap w)
  have C := Lib.hid (fun (W : World) (k : Nat) (s : Int) h1 h2 h3 => l03Draw_any w.heap.size W w.heap.size n (.slice a n cap) k s h1 h2 (Nat.le_refl _) h3 hl)
  go_enter Tryd.func8, Tryd.ntmps8
  go_wp2_with fail
  refine F.out.mono ?_
  rintro e w1 ⟨rfl, S1, b1⟩
  have HS1 := Lib.hid S1
  have HB1 := Lib.hid b1
  clear S1 b1 F
  go_wp2_with fail
  refine (C.out w1 0 0 HS1.out (HV.out.below HB1.out) (by omega)).mono ?_
  rintro e w2 ⟨xs, q, cap2, rfl, h5, hf, o2, b2⟩
  have O2 := Lib.hid (o2.le HB1.out.size)
  have HB2 := Lib.hid (HB1.out.trans b2)
  clear o2 b2
  go_wp2_with fail
  go_ret
  exact ⟨xs, q, cap2, rfl, h5, hf, O2.out, HB2.out⟩
end Go.Proofs.YtfbfdiejffjbmaaDoor
