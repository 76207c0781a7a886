/-
  The steepest slopes of all cells, by the model and by the program. The conditions: the table of ways as it is laid (the program).
-/
import Derived.Test.YtobcflcmlejajabDoorTrM
import Derived.Test.YtobcflcmlejajabDoorGn
namespace Go.Proofs.YtobcflcmlejajabDoor
open Go.RowKit Go.Shelf Go.Deep Go.Maps Go.WideShapes
set_option linter.unusedVariables false
set_option maxRecDepth 100000
namespace Gw
/-- the slopes of the first n cells -/
def slF (r c s : Int) (zs : List Int) (n : Nat) : List Int := (List.range n).map (fun k => (stp r c s zs k 8).2)
theorem slF_succ (r c s : Int) (zs : List Int) (n : Nat) : slF r c s zs (n + 1) = slF r c s zs n ++ [(stp r c s zs n 8).2] := by unfold slF; rw [List.range_succ, List.map_append]; rfl
theorem slF_len (r c s : Int) (zs : List Int) (n : Nat) : (slF r c s zs n).length = n := by unfold slF; simp
def slL (r c s : Int) (zs : List Int) : List Int := if ok r c s zs = true then slF r c s zs zs.length else []
def slC (r c s : Int) (zs : List Int) : Int := if ok r c s zs = true then 0 else 1
theorem sl_t {r c s : Int} {zs : List Int} (h : ok r c s zs = true) : slL r c s zs = slF r c s zs zs.length ∧ slC r c s zs = 0 := by unfold slL slC; rw [if_pos h, if_pos h]; exact ⟨rfl, rfl⟩
theorem sl_f {r c s : Int} {zs : List Int} (h : ok r c s zs = false) : slL r c s zs = [] ∧ slC r c s zs = 1 := by unfold slL slC; rw [h]; exact ⟨rfl, rfl⟩
theorem slL_len {r c s : Int} {zs : List Int} (h : zs.length ≤ 1048576) : (slL r c s zs).length ≤ 1048576 := by
  unfold slL; split
  · rw [slF_len]; exact h
  · simp
/-- a row of slopes whose first k are known -/
def slP (r c s : Int) (zs : List Int) (k : Nat) : List Int := slF r c s zs k ++ List.replicate (zs.length - k) 0
theorem slP_zero (r c s : Int) (zs : List Int) : slP r c s zs 0 = List.replicate zs.length 0 := rfl
theorem slP_all (r c s : Int) (zs : List Int) : slP r c s zs zs.length = slF r c s zs zs.length := by unfold slP; simp
theorem slP_len {r c s : Int} {zs : List Int} {k : Nat} (h : k ≤ zs.length) : (slP r c s zs k).length = zs.length := by unfold slP; rw [List.length_append, slF_len, List.length_replicate]; omega
theorem slP_set {r c s : Int} {zs : List Int} {k : Nat} (h : k < zs.length) : (slP r c s zs k).set k (stp r c s zs k 8).2 = slP r c s zs (k + 1) := by
  unfold slP
  have hl := slF_len r c s zs k
  rw [List.set_append_right _ _ (by omega), hl, Nat.sub_self, show zs.length - k = (zs.length - (k + 1)) + 1 by omega, List.replicate_succ, List.set_cons_zero, slF_succ, List.append_assoc]; rfl
theorem slP_at {r c s : Int} {zs : List Int} {k : Nat} (h : k < zs.length) : (slP r c s zs k)[k]? = some 0 := by
  unfold slP
  have hl := slF_len r c s zs k
  rw [List.getElem?_append_right (by omega), hl, Nat.sub_self, show zs.length - k = (zs.length - (k + 1)) + 1 by omega, List.replicate_succ]; rfl
theorem best_slope {r c s : Int} {zs : List Int} (s1 : 1 ≤ s) (s2 : s ≤ 100) (k : Nat) : slO r c s zs k (bsO r c s zs k ((List.range 8).filter (goB r c k))) = (stp r c s zs k 8).2 := by
  rcases best_upto (r := r) (c := c) (zs := zs) s1 s2 k 8 with ⟨h1, h2⟩ | ⟨i, h1, h2, h3, h4⟩
  · rw [h1, h2]; rfl
  · rw [h1, h3]; rfl
end Gw
theorem setT_own {B g n cap : Nat} {w : World} {zs : List Int} (h : Own B w (.slice (some ⟨g, 0, none⟩) n cap) zs) (k : Nat) (x : Int) : Own B (w.setCell ⟨g, k, none⟩ (.int .i64 x)) (.slice (some ⟨g, 0, none⟩) n cap) (zs.set k x) := by
  have hn := own_len h
  subst hn
  have := (World.ownsRow.stored h k (.int .i64 x)).1
  unfold Own
  rw [List.length_set]
  have e : iv (zs.set k x) = (iv zs).set k (.int .i64 x) := by unfold iv; rw [List.map_set]
  rw [e]; exact this
theorem ownT_free {B g n cap : Nat} {w : World} {zs : List Int} (h : Own B w (.slice (some ⟨g, 0, none⟩) n cap) zs) (k : Nat) : w.frozen? ⟨g, k, none⟩ = false := by
  have hn := own_len h
  subst hn
  have h' : w.ownsRow B 2 1 (.slice (some ⟨g, 0, none⟩) zs.length cap) zs.length (iv zs) := h
  exact h'.frozenAt k
set_option maxHeartbeats 6400000 in
theorem l11Slopes_any (w : World) (b : Nat) (r c s : Int) (v : Value) (zs : List Int) (hc : GC w b r c s v) (hv : Sl w v zs) (G : Gw.Good r c s zs) :
    Calls Tryd.prog 34 #[.pointer (some ⟨b, 0, none⟩)] w (RJp w (Gw.slF r c s zs zs.length)) := by
  obtain ⟨i0, hi, hz0, hz1, hz2⟩ := info_parts info_i64
  have hlen := G.len
  have hrc : wrap64 (r * c) = (zs.length : Int) := by rw [← G.n]; exact IntWalk.wrap64_in _ ⟨by omega, by omega⟩
  have HC := Lib.hid hc
  have CS := Lib.hid (fun (k : Nat) (hk : k < zs.length) W (h : Below w.heap.size w W) => l09Steepest_any W b r c s v zs k (hc.all h) (hv.below h) G hk)
  have O1 : Hid (Own w.heap.size (w.alloc (.cells #[] 2)) (.slice (some ⟨w.heap.size, 0, none⟩) 0 0) (Gw.slF r c s zs 0)) := Lib.hid (World.ownsRow_lit _ _ _ (Nat.le_refl _) (by decide) (by decide))
  have B1 := Lib.hid ((Below.refl w.heap.size w).alloc (Nat.le_refl _) (.cells #[] 2))
  clear hc hv G
  go_enter Tryd.func34, Tryd.ntmps34
  go_wp2_with fail
  go_loopw [3, 4, 5, 6] (fun u i _ _ wr => ∃ k : Nat, k ≤ zs.length ∧ i = .int .i64 (k : Int) ∧ Hid (Own w.heap.size wr u (Gw.slF r c s zs k)) ∧ Hid (Below w.heap.size w wr)) (fun _ i _ _ _ => zs.length - (intOf i).toNat)
  case atStart => exact ⟨0, by omega, rfl, O1, B1⟩
  case round =>
    obtain ⟨k, hk, rfl, hO, hb⟩ := hrel
    clear O1 B1
    have hlm : (Gw.slF r c s zs k).length ≤ 64 := by rw [Gw.slF_len]; omega
    have hss := Lib.hid (Gw.slF_succ r c s zs k)
    have hend := Lib.hid (fun (h : k = zs.length) => congrArg (Gw.slF r c s zs) h)
    generalize hl : Gw.slF r c s zs k = l at *
    obtain ⟨x0, x1, x2, x3⟩ := (HC.out.all hb.out).four
    have hbl0 := (HC.out.all hb.out).lt
    by_cases hlt : k < zs.length
    · have hltz : (k : Int) < (zs.length : Int) := by omega
      have C := Lib.hid (fun W h => CS.out k hlt W h)
      generalize Gw.stp r c s zs k 8 = p at *
      clear hl
      go_wp2_with fail
      go_quiet (fail)
      have BQ := Lib.hid (bt hb.out (below_drewW wr nq))
      have OQ := Lib.hid (own_belowAll hO.out (below_drewW wr nq))
      clear hb hO
      go_wp2_with fail
      refine (C.out _ BQ.out).mono ?_
      rintro e w3 ⟨rfl, b3⟩
      have B3 := Lib.hid (bt BQ.out b3)
      have O3 := Lib.hid (own_belowAll OQ.out b3)
      clear b3 BQ OQ C
      go_wp2_with (at_builtin; refine wpList_append_own _ rfl _ _ 22 rfl w.heap.size 2 i0 (.int .i64 0) 1 8 Tryd.underlying22 hi hz0 hz1 hz2 rfl (by decide) _ _ _ rfl (own_belowAll O3.out ((Below.refl _ _).alloc (Nat.le_refl _) _)) ⟨w3.heap.size, 0, none⟩ 1 1 [.int .i64 p.2] rfl rfl (row_new _ [_] _) (iv_cell [p.2]) (by unfold maxLen; omega) (by omega) (by have := B3.out.size; first | omega | (simp; omega)) ?_)
      intro v2 wa hown' hgrow _
      have Owa := Lib.hid (show Own w.heap.size wa v2 (l ++ [p.2]) by unfold Own; rw [iv_append, List.length_append]; first | exact hown' | (rw [List.length_append]; exact hown'))
      have Bwa : Hid (Below w.heap.size w wa) := Lib.hid ((B3.out.alloc B3.out.size _).grown hgrow (by have := B3.out.size; simp; omega) (fun j hj => (World.ownsRow.lt O3.out j hj).1))
      clear hown' hgrow B3 O3
      go_wp2
      exact ⟨⟨k + 1, by omega, by go_num, Lib.hid (by rw [hss.out]; exact Owa.out), Bwa⟩, by simp only [intOf]; omega⟩
    · have hltz : ¬ (k : Int) < (zs.length : Int) := by omega
      have hll2 : Hid (Gw.slF r c s zs zs.length = l) := Lib.hid (by rw [← hl, show k = zs.length by omega])
      clear hl
      go_wp2_with fail
      go_quiet (fail)
      have BQ := Lib.hid (bt hb.out (below_drewW wr nq))
      have OQ := Lib.hid (own_belowAll hO.out (below_drewW wr nq))
      clear hb hO
      go_wp2_with fail
      go_ret
      exact ⟨_, rfl, by rw [hll2.out]; exact OQ.out, BQ.out⟩
set_option maxHeartbeats 1600000 in
theorem specSlopesOf_any (w : World) (r c s : Int) (v : Value) (zs : List Int) (hv : Sl w v zs) (hl : zs.length ≤ 1048576) :
    Calls Tryd.prog 11 #[.agg #[.int .i64 r, .int .i64 c, .int .i64 s, v]] w (RIp w (Gw.slL r c s zs) (Gw.slC r c s zs)) := by
  have HB := Lib.hid (boxG_below w r c s v 28)
  have C := Lib.hid (l09Ok_any (boxG w r c s v 28) w.heap.size r c s v zs (boxG_cells w r c s v 28) (hv.below HB.out) hl)
  have HK := Lib.hid (fun W (h : Below (boxG w r c s v 28).heap.size (boxG w r c s v 28) W) => (boxG_kept h : GC W w.heap.size r c s v))
  have HVV := Lib.hid hv
  clear hv
  cases hq : Gw.ok r c s zs with
  | false =>
    rw [hq] at C
    have E := Lib.hid (Gw.sl_f hq)
    clear hq
    go_enter Tryd.func11, Tryd.ntmps11
    go_wp2_with fail
    refine C.out.mono ?_
    rintro e w1 ⟨rfl, b1⟩
    have B1 := Lib.hid (bt HB.out b1)
    clear b1
    go_wp2_with fail
    exact bodyPost_ret (v := .tuple #[.slice none 0 0, .int .i64 1]) (by simp [results, Tryd.results11, go_sem]) rfl (by rw [E.out.1, E.out.2]; exact RIp.no B1.out)
  | true =>
    have G := (Gw.ok_iff _ _ _ _).1 hq
    have E := Lib.hid (Gw.sl_t hq)
    have CL := Lib.hid (fun W (h : Below (boxG w r c s v 28).heap.size (boxG w r c s v 28) W) => l11Slopes_any W w.heap.size r c s v zs (HK.out W h) (HVV.out.below (bt HB.out h)) G)
    rw [hq] at C
    clear hq G
    generalize Gw.slF r c s zs zs.length = l at *
    go_enter Tryd.func11, Tryd.ntmps11
    go_wp2_with fail
    refine C.out.mono ?_
    rintro e w1 ⟨rfl, b1⟩
    have N1 := Lib.hid b1
    clear b1
    go_wp2_with fail
    refine (CL.out _ N1.out).mono ?_
    rintro e w2 ⟨u, rfl, o2, b2⟩
    have B2 := Lib.hid (bt (bt HB.out N1.out) b2)
    have O2 := Lib.hid (Own.le o2 (bt HB.out N1.out).size)
    clear b2 o2
    go_wp2_with fail
    exact bodyPost_ret (v := .tuple #[u, .int .i64 0]) (by simp [results, Tryd.results11, go_sem]) rfl (by rw [E.out.1, E.out.2]; exact RIp.yes rfl rfl O2.out B2.out)
set_option maxHeartbeats 6400000 in
theorem implSlopesOf_any (w : World) (r c s : Int) (v : Value) (zs : List Int) (ho : IAt w v zs) (hl : zs.length ≤ 1048576) (hA : AspAt w) :
    Calls Tryd.prog 13 #[.agg #[.int .i64 r, .int .i64 c, .int .i64 s, v]] w (RIp w (Gw.slL r c s zs) (Gw.slC r c s zs)) := by
  obtain ⟨i0, hi, hz0, hz1, hz2⟩ := info_parts info_i64
  obtain ⟨Bo, g0, cap, rfl, hown⟩ := ho
  have HB := Lib.hid (boxG_below w r c s (.slice (some ⟨g0, 0, none⟩) zs.length cap) 28)
  have HK := Lib.hid (fun W (h : Below (boxG w r c s (.slice (some ⟨g0, 0, none⟩) zs.length cap) 28).heap.size (boxG w r c s (.slice (some ⟨g0, 0, none⟩) zs.length cap) 28) W) => (boxG_kept h : GC W w.heap.size r c s (.slice (some ⟨g0, 0, none⟩) zs.length cap)))
  have HO := Lib.hid (hown.belowAll HB.out)
  have HA := Lib.hid (hA.below HB.out)
  have C := Lib.hid (implValidGrid_any (boxG w r c s (.slice (some ⟨g0, 0, none⟩) zs.length cap) 28) r c s _ zs HO.out.sl hl)
  obtain ⟨x0, x1, x2, x3⟩ := (boxG_cells w r c s (.slice (some ⟨g0, 0, none⟩) zs.length cap) 28).four
  clear hown hA
  cases hq : Gw.ok r c s zs with
  | false =>
    rw [hq] at C
    have E := Lib.hid (Gw.sl_f hq)
    clear hq
    unfold boxG at C x0 x1 x2 x3
    go_enter Tryd.func13, Tryd.ntmps13
    go_wp2_with fail
    refine C.out.mono ?_
    rintro e w1 ⟨rfl, b1⟩
    have B1 := Lib.hid (bt HB.out b1)
    clear b1
    go_wp2_with fail
    exact bodyPost_ret (v := .tuple #[.slice none 0 0, .int .i64 1]) (by simp [results, Tryd.results13, go_sem]) rfl (by rw [E.out.1, E.out.2]; exact RIp.no B1.out)
  | true =>
    have G := (Gw.ok_iff _ _ _ _).1 hq
    have E := Lib.hid (Gw.sl_t hq)
    obtain ⟨R, rfl⟩ : ∃ R : Nat, r = (R : Int) := ⟨r.toNat, (Int.toNat_of_nonneg (by have := G.r1; omega)).symm⟩
    obtain ⟨C', rfl⟩ : ∃ C : Nat, c = (C : Int) := ⟨c.toNat, (Int.toNat_of_nonneg (by have := G.c1; omega)).symm⟩
    have hlen := G.len
    have hL : zs.length = R * C' := good_len G
    have g1 := G.r1; have g2 := G.r2; have g3 := G.c1; have g4 := G.c2
    have CT := Lib.hid (fun W (h : Below (boxG w R C' s (.slice (some ⟨g0, 0, none⟩) zs.length cap) 28).heap.size (boxG w R C' s (.slice (some ⟨g0, 0, none⟩) zs.length cap) 28) W) => terrainOf_any W R C' g0 0 zs.length cap s hL (by omega) (own_cap HO.out) (by omega) (by omega) (by omega) (by omega))
    have CS := Lib.hid (fun W g cap' kn (hkl : kn < zs.length) (h : Below (boxG w R C' s (.slice (some ⟨g0, 0, none⟩) zs.length cap) 28).heap.size (boxG w R C' s (.slice (some ⟨g0, 0, none⟩) zs.length cap) 28) W) (hr : RowsAt W g g0 0 C' R) => steepest_any W R C' kn g0 cap g cap' s zs G hkl hr (own_cells (HO.out.belowAll h)) (own_lt (HO.out.belowAll h)) (HA.out.below h))
    have SV := Lib.hid (fun k => Gw.best_slope (r := R) (c := C') (zs := zs) (s := s) G.s1 G.s2 k)
    rw [hq] at C
    clear hq G hL g1 g2 g3 g4
    unfold boxG at C x0 x1 x2 x3
    go_enter Tryd.func13, Tryd.ntmps13
    go_wp2_with fail
    refine C.out.mono ?_
    rintro e w1 ⟨rfl, b1⟩
    have N1 := Lib.hid b1
    obtain ⟨x0, x1, x2, x3⟩ := (HK.out w1 b1).four
    clear b1
    go_wp2_with fail
    refine (CT.out _ N1.out).mono ?_
    rintro e w2 ⟨g, cap', rfl, hr, hg, b2⟩
    have TE := Lib.hid (Whole.new w2 55 #[.int .i64 R, .int .i64 C', .int .i64 s, .slice (some ⟨g0, 0, none⟩) zs.length cap, .slice (some ⟨g, 0, none⟩) R cap'])
    have N3 : Hid (Below (boxG w R C' s (.slice (some ⟨g0, 0, none⟩) zs.length cap) 28).heap.size (boxG w R C' s (.slice (some ⟨g0, 0, none⟩) zs.length cap) 28) (w2.alloc (.cells #[.int .i64 R, .int .i64 C', .int .i64 s, .slice (some ⟨g0, 0, none⟩) zs.length cap, .slice (some ⟨g, 0, none⟩) R cap'] 55))) := Lib.hid (Below.alloc (bt N1.out b2) (bt N1.out b2).size _)
    have HR := Lib.hid (hr.all ((Below.refl _ w2).alloc (Nat.le_refl _) (.cells #[.int .i64 R, .int .i64 C', .int .i64 s, .slice (some ⟨g0, 0, none⟩) zs.length cap, .slice (some ⟨g, 0, none⟩) R cap'] 55)))
    obtain ⟨x0, x1, x2, x3⟩ := (HK.out _ N3.out).four
    clear b2 hr hg
    have hs0 : w.heap.size ≤ (w2.alloc (.cells #[.int .i64 R, .int .i64 C', .int .i64 s, .slice (some ⟨g0, 0, none⟩) zs.length cap, .slice (some ⟨g, 0, none⟩) R cap'] 55)).heap.size := Nat.le_trans HB.out.size N3.out.size
    go_wp2_with (at_make; refine wpList_make_full _ rfl _ _ 22 rfl w.heap.size 2 i0 (.int .i64 0) 1 Tryd.underlying22 hi hz0 hz1 .i64 .i64 _ _ zs.length rfl rfl rfl rfl ?c1 ?c2 ?c3 ?_)
    case c1 => rw [hz2]; omega
    case c2 => unfold maxLen; omega
    case c3 => first | exact hs0 | (simpa using hs0)
    intro w6 hown' hgrow
    have hs3 : (w2.alloc (.cells #[.int .i64 R, .int .i64 C', .int .i64 s, .slice (some ⟨g0, 0, none⟩) zs.length cap, .slice (some ⟨g, 0, none⟩) R cap'] 55)).heap.size = w2.heap.size + 1 := by simp
    have HS3 := Lib.hid hs3
    clear hs3
    generalize w2.alloc (.cells #[.int .i64 R, .int .i64 C', .int .i64 s, .slice (some ⟨g0, 0, none⟩) zs.length cap, .slice (some ⟨g, 0, none⟩) R cap'] 55) = w3 at *
    have O6 : Hid (Own w.heap.size w6 (.slice (some ⟨w2.heap.size + 1, 0, none⟩) zs.length zs.length) (Gw.slP R C' s zs 0)) := Lib.hid (by unfold Own; rw [toList_madeCells_one] at hown'; rw [Gw.slP_zero, List.length_replicate]; simpa [iv] using hown')
    have B6 : Hid (Below w3.heap.size w3 w6) := Lib.hid ((Below.refl _ w3).grown hgrow (Nat.le_refl _) (fun j hj => by cases hj))
    clear hown' hgrow x0 x1 x2 x3
    go_wp2_with fail
    go_loopw [6, 7, 8, 20] (fun _ _ _ i wr => ∃ k : Nat, k ≤ zs.length ∧ i = .int .i64 (k : Int) ∧ Hid (Own w.heap.size wr (.slice (some ⟨w2.heap.size + 1, 0, none⟩) zs.length zs.length) (Gw.slP R C' s zs k)) ∧ Hid (Below w3.heap.size w3 wr)) (fun _ _ _ i _ => zs.length - (intOf i).toNat)
    case atStart => exact ⟨0, by omega, rfl, O6, B6⟩
    case round =>
      obtain ⟨k, hk, rfl, hO, hb⟩ := hrel
      clear O6 B6
      by_cases hlt : k < zs.length
      · have hltz : (k : Int) < (zs.length : Int) := by omega
        have C4 := Lib.hid (CS.out wr g cap' k hlt (bt N3.out hb.out) (HR.out.all hb.out))
        have hset := Lib.hid (Gw.slP_set (r := R) (c := C') (s := s) hlt)
        have hat := Lib.hid (Gw.slP_at (r := R) (c := C') (s := s) hlt)
        have hsv := Lib.hid (SV.out k)
        have TEw := TE.out.all hb.out
        have x0 := TEw.at_ 0; have x1 := TEw.at_ 1; have x2 := TEw.at_ 2; have x3 := TEw.at_ 3; have x4 := TEw.at_ 4
        clear TEw
        go_wp2_with fail
        refine C4.out.mono ?_
        rintro e w4 ⟨⟨o, ho, rfl⟩, b4⟩
        have hslo : Hid (Gw.slO R C' s zs k o = (Gw.stp R C' s zs k 8).2) := Lib.hid (by rw [ho]; exact hsv.out)
        obtain ⟨d0, p0, q0, hc⟩ := stC_five R C' s zs k o
        rw [hc, hslo.out]
        have B4 := Lib.hid (bt hb.out b4)
        have O4 := Lib.hid (hO.out.belowAll b4)
        have hlt4 : w2.heap.size + 1 < w4.heap.size := own_lt O4.out
        have y0 := own_cells O4.out k 0 hat.out
        rw [Nat.zero_add] at y0
        have z0 := ownT_free O4.out k
        generalize Gw.stp R C' s zs k 8 = p at *
        generalize dnO R C' zs k o = d3 at *
        clear b4 ho hc C4 hO hb hslo hsv x0 x1 x2 x3 x4
        go_wp2_with fail
        have B5 := Lib.hid (Below.setCell (p := ⟨w2.heap.size + 1, k, none⟩) B4.out (by show w3.heap.size ≤ w2.heap.size + 1; rw [HS3.out]; exact Nat.le_refl _) (.int .i64 p.2))
        refine ⟨⟨k + 1, by omega, by go_num, Lib.hid ?_, Lib.hid (B5.out.alloc B5.out.size _)⟩, by simp only [intOf]; omega⟩
        rw [← hset.out]
        exact (setT_own O4.out k p.2).belowAll ((Below.refl _ _).alloc (Nat.le_refl _) _)
      · have hltz : ¬ (k : Int) < (zs.length : Int) := by omega
        have hkk : k = zs.length := by omega
        have hall := Lib.hid (Gw.slP_all R C' s zs)
        subst hkk
        go_wp2_with fail
        exact bodyPost_ret (v := .tuple #[.slice (some ⟨w2.heap.size + 1, 0, none⟩) zs.length zs.length, .int .i64 0]) (by simp [results, Tryd.results13, go_sem]) rfl (by rw [E.out.1, E.out.2]; exact RIp.yes rfl rfl (by rw [← hall.out]; exact hO.out) (bt (bt HB.out N3.out) hb.out))
end Go.Proofs.YtobcflcmlejajabDoor
