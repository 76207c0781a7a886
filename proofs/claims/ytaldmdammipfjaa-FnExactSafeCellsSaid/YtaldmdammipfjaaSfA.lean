/-
  The cells that nothing reaches (chapter 15), by the model and by the program. No condition of its own.
-/
import Derived.Test.YtaldmdammipfjaaRlH
import Derived.Test.YtaldmdammipfjaaCw
import Derived.Test.YtaldmdammipfjaaGdA
namespace Go.Proofs.Ytaldmdammipfjaa
open Go.RowKit Go.Shelf Go.Deep
set_option linter.unusedVariables false
set_option maxRecDepth 100000
namespace Gw
def sfB (ks : List Int) (k : Nat) : Bool := !ks.any (fun y => y == (k : Int))
def sfC (r c s : Int) (zs ks : List Int) : Int := odC (ok r c s zs) true (Rl.ri 0 (zs.length - 1) ks)
def sfL (r c s : Int) (zs ks : List Int) : List Int := if sfC r c s zs ks = 0 then stF (sfB ks) zs.length else []
theorem sf_0 {r c s : Int} {zs ks : List Int} (h : sfC r c s zs ks = 0) : Good r c s zs ∧ ∀ x ∈ ks, 0 ≤ x ∧ x < 64 := by
  obtain ⟨h1, -, h3⟩ := od_zero2 h
  have G := (ok_iff _ _ _ _).1 h1
  have hlen := G.len
  unfold Rl.ri at h3
  rw [Bool.and_eq_true, List.all_eq_true] at h3
  exact ⟨G, fun x hx => by have := inB_iff.1 (h3.1 x hx); omega⟩
theorem sf_no {r c s : Int} {zs ks : List Int} (h : sfC r c s zs ks ≠ 0) : sfL r c s zs ks = [] := by unfold sfL; rw [if_neg h]
theorem sf_yes {r c s : Int} {zs ks : List Int} (h : sfC r c s zs ks = 0) : sfL r c s zs ks = stF (sfB ks) zs.length := by unfold sfL; rw [if_pos h]
theorem sfL_len {r c s : Int} {zs : List Int} (ks : List Int) (h : zs.length ≤ 1048576) : (sfL r c s zs ks).length ≤ 1048576 := by
  unfold sfL; split
  · exact Nat.le_trans (stF_len _ _) h
  · simp
end Gw
set_option maxHeartbeats 6400000 in
theorem specSafeCells_any (w : World) (r c s : Int) (v : Value) (zs : List Int) (u : Value) (ks : List Int) (hv : Sl w v zs) (hl : zs.length ≤ 1048576) (hu : Sl w u ks) (hkl : ks.length ≤ 1048576) :
    Calls Try.prog 27 #[.agg #[.int .i64 r, .int .i64 c, .int .i64 s, v], u] w (RIp w (Gw.sfL r c s zs ks) (Gw.sfC r c s zs ks)) := by
  obtain ⟨i0, hi, hz0, hz1, hz2⟩ := info_parts info_i64
  have HB := Lib.hid (boxG_below w r c s v 29)
  have HK := Lib.hid (fun W (h : Below (boxG w r c s v 29).heap.size (boxG w r c s v 29) W) => (boxG_kept h : GC W w.heap.size r c s v))
  have C := Lib.hid (l11Ask_any (boxG w r c s v 29) w.heap.size r c s v u zs ks (boxG_cells w r c s v 29) (hv.below HB.out) hl (hu.below HB.out) hkl)
  rw [show odC (Gw.ok r c s zs) true (Rl.ri 0 (zs.length - 1) ks) = Gw.sfC r c s zs ks from rfl] at C
  have HU := Lib.hid hu
  obtain ⟨ua, ucap, rfl⟩ := hu.form
  clear hv hu
  by_cases hz : Gw.sfC r c s zs ks = 0
  · obtain ⟨G, -⟩ := Gw.sf_0 hz
    have E := Lib.hid (Gw.sf_yes hz)
    have hlen := G.len
    have hrc : wrap64 (r * c) = (zs.length : Int) := by rw [← G.n]; exact IntWalk.wrap64_in _ ⟨by omega, by omega⟩
    have CH := Lib.hid (fun W (h : Below w.heap.size w W) (x : Int) => l00Has_any W (.slice ua ks.length ucap) ks x (HU.out.below h) hkl)
    rw [E.out, hz]
    rw [hz] at C
    clear G hz E
    generalize zs.length = n at *
    go_enter Try.func27, Try.ntmps27
    go_wp2_with fail
    refine C.out.mono ?_
    rintro e w1 ⟨rfl, b1⟩
    have O1 : Hid (Own w1.heap.size (w1.alloc (.cells #[] 2)) (.slice (some ⟨w1.heap.size, 0, none⟩) 0 0) (Gw.stF (Gw.sfB ks) 0)) := Lib.hid (World.ownsRow_lit _ _ _ (Nat.le_refl _) (by decide) (by decide))
    have hw1 : Hid (w.heap.size ≤ w1.heap.size) := Lib.hid (bt HB.out b1).size
    have B1 := Lib.hid ((Below.refl w1.heap.size w1).alloc (Nat.le_refl _) (.cells #[] 2))
    have M1 := Lib.hid b1
    clear b1 C
    go_wp2_with fail
    go_loopw [7, 8] (fun q i wr => ∃ k : Nat, k ≤ n ∧ i = .int .i64 (k : Int) ∧ Hid (Own w1.heap.size wr q (Gw.stF (Gw.sfB ks) k)) ∧ Hid (Below w1.heap.size w1 wr)) (fun _ i _ => n - (intOf i).toNat)
    case atStart => exact ⟨0, by omega, rfl, O1, B1⟩
    case round =>
      obtain ⟨k, hk, rfl, hO, hb⟩ := hrel
      clear O1 B1
      have hlm : (Gw.stF (Gw.sfB ks) k).length ≤ 64 := Nat.le_trans (Gw.stF_len _ _) (by omega)
      have g0 := (HK.out wr (bt M1.out hb.out)).c0
      have g1 := (HK.out wr (bt M1.out hb.out)).c1
      have glt := (HK.out wr (bt M1.out hb.out)).lt
      by_cases hlt : k < n
      · have hltz : (k : Int) < (n : Int) := by omega
        have C := Lib.hid (CH.out wr (bt HB.out (bt M1.out hb.out)) (k : Int))
        cases hq : ks.any (fun y => y == (k : Int)) with
        | true =>
          have hs := Lib.hid (Gw.stF_no (p := Gw.sfB ks) (n := k) (by unfold Gw.sfB; rw [hq]; rfl))
          rw [hq] at C
          clear hq
          go_wp2_with fail
          refine C.out.mono ?_
          rintro e w2 ⟨rfl, b2⟩
          have O2 : Hid (Own w1.heap.size w2 _ (Gw.stF (Gw.sfB ks) (k + 1))) := Lib.hid (by rw [hs.out]; exact hO.out.belowAll b2)
          have B2 := Lib.hid (bt hb.out b2)
          clear b2 hO hb C g0 g1
          go_wp2_with fail
          exact ⟨⟨k + 1, by omega, by go_num, O2, B2⟩, by simp only [intOf]; omega⟩
        | false =>
          have hs := Lib.hid (Gw.stF_yes (p := Gw.sfB ks) (n := k) (by unfold Gw.sfB; rw [hq]; rfl))
          rw [hq] at C
          clear hq
          generalize Gw.stF (Gw.sfB ks) k = l at *
          go_wp2_with fail
          refine C.out.mono ?_
          rintro e w2 ⟨rfl, b2⟩
          have O2 := Lib.hid (hO.out.belowAll b2)
          have B2 := Lib.hid (bt hb.out b2)
          clear b2 hO hb C g0 g1
          go_wp2_with (at_builtin; refine wpList_append_own _ rfl _ _ 22 rfl w1.heap.size 2 i0 (.int .i64 0) 1 8 Try.underlying22 hi hz0 hz1 hz2 rfl (by decide) _ _ _ rfl (own_belowAll O2.out ((Below.refl _ _).alloc (Nat.le_refl _) _)) ⟨w2.heap.size, 0, none⟩ 1 1 [.int .i64 (k : Int)] rfl rfl (row_new _ [_] _) (iv_cell [(k : Int)]) ?c3 ?c4 ?c5 ?_)
          case c3 => unfold maxLen; omega
          case c4 => omega
          case c5 => have := B2.out.size; first | omega | (simp; omega)
          intro v' w7 hown' hgrow _
          have O7 : Hid (Own w1.heap.size w7 v' (Gw.stF (Gw.sfB ks) (k + 1))) := Lib.hid (by rw [hs.out]; unfold Own; rw [iv_append, List.length_append]; exact hown')
          have B7 : Hid (Below w1.heap.size w1 w7) := Lib.hid ((B2.out.alloc B2.out.size _).grown hgrow (by have := B2.out.size; simp; omega) (fun j hj => (World.ownsRow.lt O2.out j hj).1))
          clear hown' hgrow O2 B2
          go_wp2
          exact ⟨⟨k + 1, by omega, by go_num, O7, B7⟩, by simp only [intOf]; omega⟩
      · have hltz : ¬ (k : Int) < (n : Int) := by omega
        have hkn : Hid (k = n) := Lib.hid (by omega)
        have hlast : Hid (Gw.stF (Gw.sfB ks) k = Gw.stF (Gw.sfB ks) n) := Lib.hid (by rw [hkn.out])
        go_wp2_with fail
        go_ret2
        exact RIp.yes hlast.out.symm rfl (Own.le hO.out hw1.out) (bt HB.out (bt M1.out hb.out))
  · have hcb : (Gw.sfC r c s zs ks != 0) = true := bne_iff_ne.2 hz
    have E := Lib.hid (Gw.sf_no hz)
    clear hz
    rw [E.out]
    generalize Gw.sfC r c s zs ks = code at *
    go_enter Try.func27, Try.ntmps27
    go_wp2_with fail
    refine C.out.mono ?_
    rintro e w1 ⟨rfl, b1⟩
    have B1 := Lib.hid (bt HB.out b1)
    clear b1
    go_wp2_with fail
    go_ret2
    exact RIp.no B1.out
set_option maxHeartbeats 800000 in
theorem safeLit_any (w W : World) (q k : Nat) (z0 z1 z2 z3 z4 : Value) (ks : List Int) (hT : Whole w q 91 #[z0, z1, z2, z3, z4, .int .u64 (Rl.sN ks : Int)]) (hx : ∀ x ∈ ks, 0 ≤ x ∧ x < 64) (hk : k < 64) (hW : Below w.heap.size w W) :
    Calls Try.prog 63 (#[.int .i64 (k : Int)] ++ #[.pointer (some ⟨q, 0, none⟩)]) W fun e w' => e = .returned (.bool (Gw.sfB ks k)) ∧ Below W.heap.size W w' := by
  have C := Lib.hid (has_any (Rl.sN ks) k W (Rl.sN_lt (fun x h => by have := hx x h; omega)) hk)
  rw [has_eq hx] at C
  have c5 := (hT.all hW).at_ 5
  have hb : Hid (Gw.sfB ks k = !ks.any (fun x => x == (k : Int))) := Lib.hid rfl
  clear hT hW hx
  generalize (ks.any fun x => x == (k : Int)) = yb at *
  go_enter Try.func63, Try.ntmps63
  go_wp2_with fail
  refine C.out.mono ?_
  rintro e w1 ⟨rfl, rfl⟩
  go_wp2_with fail
  go_ret
  exact ⟨ret_bool hb.out.symm, Below.refl _ _⟩
set_option maxHeartbeats 6400000 in
theorem implSafeCells_any (w : World) (r c s : Int) (v : Value) (zs : List Int) (u : Value) (ks : List Int) (ho : IAt w v zs) (hl : zs.length ≤ 1048576) (hu : Sl w u ks) (hkl : ks.length ≤ 1048576) :
    Calls Try.prog 28 #[.agg #[.int .i64 r, .int .i64 c, .int .i64 s, v], u] w (RIp w (Gw.sfL r c s zs ks) (Gw.sfC r c s zs ks)) := by
  obtain ⟨Bo, g0, cap, rfl, hown⟩ := ho
  have HB := Lib.hid (boxG_below w r c s (.slice (some ⟨g0, 0, none⟩) zs.length cap) 29)
  have HK := Lib.hid (fun W (h : Below (boxG w r c s (.slice (some ⟨g0, 0, none⟩) zs.length cap) 29).heap.size (boxG w r c s (.slice (some ⟨g0, 0, none⟩) zs.length cap) 29) W) => (boxG_kept h : GC W w.heap.size r c s (.slice (some ⟨g0, 0, none⟩) zs.length cap)))
  have HO := Lib.hid (hown.belowAll HB.out)
  have C := Lib.hid (releaseOf_any (boxG w r c s (.slice (some ⟨g0, 0, none⟩) zs.length cap) 29) r c s g0 cap Bo zs u ks true HO.out hl (hu.below HB.out) hkl)
  rw [show odC (Gw.ok r c s zs) true (Rl.ri 0 (zs.length - 1) ks) = Gw.sfC r c s zs ks from rfl] at C
  obtain ⟨ua, ucap, rfl⟩ := hu.form
  unfold boxG at C HB HK HO
  clear hown hu
  obtain ⟨W2, hW2⟩ : ∃ u, w.alloc (.cells #[.int .i64 r, .int .i64 c, .int .i64 s, .slice (some ⟨g0, 0, none⟩) zs.length cap] 29) = u := ⟨_, rfl⟩
  rw [hW2] at C HB HK HO
  obtain ⟨k0, k1, k2, k3⟩ := (HK.out W2 (Below.refl _ _)).four
  have hkl0 := (HK.out W2 (Below.refl _ _)).lt
  by_cases hz : Gw.sfC r c s zs ks = 0
  · obtain ⟨G, hx⟩ := Gw.sf_0 hz
    have E := Lib.hid (Gw.sf_yes hz)
    have HZ := Lib.hid hz
    have hlen := G.len
    have HX := Lib.hid hx
    clear hx G
    go_enter Try.func28, Try.ntmps28
    go_wp2_with fail
    refine C.out.mono ?_
    rintro e w1 ⟨⟨h, -⟩ | ⟨-, R, C', g, cap', rfl, rfl, rfl, hr⟩, b1⟩
    · exact absurd HZ.out h
    · have L5 := Lib.hid ((Below.refl w1.heap.size w1).alloc (Nat.le_refl _) (.cells #[.int .i64 R, .int .i64 C', .int .i64 s, .slice (some ⟨g0, 0, none⟩) zs.length cap, .slice (some ⟨g, 0, none⟩) R cap', .int .u64 (Rl.sN ks : Int)] 91))
      have N5 := Lib.hid (bt b1 L5.out)
      have T5 := Lib.hid (Whole.new w1 91 #[.int .i64 R, .int .i64 C', .int .i64 s, .slice (some ⟨g0, 0, none⟩) zs.length cap, .slice (some ⟨g, 0, none⟩) R cap', .int .u64 (Rl.sN ks : Int)])
      have x0 := T5.out.at_ 0; have x1 := T5.out.at_ 1; have x2 := T5.out.at_ 2; have x3 := T5.out.at_ 3; have x4 := T5.out.at_ 4; have x5 := T5.out.at_ 5
      clear b1 hr C hz k0 k1 k2 k3 hkl0
      go_wp2_with fail
      generalize hW5 : w1.alloc (.cells #[.int .i64 R, .int .i64 C', .int .i64 s, .slice (some ⟨g0, 0, none⟩) zs.length cap, .slice (some ⟨g, 0, none⟩) R cap', .int .u64 (Rl.sN ks : Int)] 91) = W5 at *
      have CW := Lib.hid (cellsWhere_any 63 #[.pointer (some ⟨w1.heap.size, 0, none⟩)] (Gw.sfB ks) W5 R C' s (some ⟨g0, 0, none⟩) zs.length cap (.slice (some ⟨g, 0, none⟩) R cap') (enters_of Try.func63 (by kernel_rfl) rfl) hlen
        (fun k hk W hW => safeLit_any W5 W w1.heap.size k _ _ _ _ _ ks T5.out HX.out (by omega) hW))
      clear x0 x1 x2 x3 x4 x5 hW5
      refine CW.out.mono ?_
      rintro e w6 ⟨q, rfl, o6, b6⟩
      have B6 := Lib.hid (bt (bt HB.out N5.out) b6)
      have O6 := Lib.hid (Own.le o6 (bt HB.out N5.out).size)
      clear b6 o6 CW
      go_wp2_with fail
      exact bodyPost_ret (v := .tuple #[q, .int .i64 0]) (by simp [results, Try.results28, go_sem]) rfl (by rw [E.out, HZ.out]; exact RIp.yes rfl rfl O6.out B6.out)
  · have hcb : (Gw.sfC r c s zs ks != 0) = true := bne_iff_ne.2 hz
    have E := Lib.hid (Gw.sf_no hz)
    have HZ := Lib.hid hz
    clear hz
    go_enter Try.func28, Try.ntmps28
    go_wp2_with fail
    refine C.out.mono ?_
    rintro e w1 ⟨⟨h, rfl⟩ | ⟨h, -⟩, b1⟩
    · have BA := Lib.hid (Below.alloc (bt HB.out b1) (bt HB.out b1).size (.cells #[.int .i64 0, .int .i64 0, .int .i64 0, .slice none 0 0, .slice none 0 0, .int .u64 0] 91))
      clear b1 h C k0 k1 k2 k3 hkl0
      generalize Gw.sfC r c s zs ks = code at *
      go_wp2_with fail
      exact bodyPost_ret (v := .tuple #[.slice none 0 0, .int .i64 code]) (by simp [results, Try.results28, go_sem]) rfl (by rw [E.out]; exact RIp.no BA.out)
    · exact absurd h HZ.out
end Go.Proofs.Ytaldmdammipfjaa
