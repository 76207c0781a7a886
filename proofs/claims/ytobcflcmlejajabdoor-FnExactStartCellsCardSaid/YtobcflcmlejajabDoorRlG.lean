/-
  The cells of a slope and a direction as asked, answered or refused, by the program. The conditions: the table of ways as it is laid.
-/
import Derived.Test.YtobcflcmlejajabDoorRlE
import Derived.Test.YtobcflcmlejajabDoorRlF
namespace Go.Proofs.YtobcflcmlejajabDoor
open Go.RowKit Go.Shelf Go.Deep
set_option linter.unusedVariables false
set_option maxRecDepth 100000
namespace Gw
theorem sc_no {r c s : Int} {zs : List Int} {lo hi : Int} {ks : List Int} (h : odC (ok r c s zs) (bdB lo hi) (Rl.ri 0 7 ks) ≠ 0) : scL r c s zs lo hi ks = [] := by
  unfold scL
  rw [if_neg]
  intro hh
  rw [Bool.and_eq_true, Bool.and_eq_true] at hh
  rw [hh.1, hh.2.1, hh.2.2] at h
  exact h rfl
end Gw
theorem od_zero {a b o : Bool} (h : odC a b o = 0) : a = true ∧ b = true ∧ o = true := by
  cases a <;> cases b <;> cases o <;> first | exact ⟨rfl, rfl, rfl⟩ | (revert h; decide)
/-- the world with a grid and its two bounds in new blocks -/
def boxS (w : World) (r c s : Int) (v : Value) (lo hi : Int) : World := ((boxG w r c s v 28).alloc (.cells #[.int .i64 lo] 2)).alloc (.cells #[.int .i64 hi] 2)
theorem boxS_below (w : World) (r c s : Int) (v : Value) (lo hi : Int) : Below w.heap.size w (boxS w r c s v lo hi) := ((boxG_below w r c s v 28).alloc (by rw [boxG_size]; omega) _).alloc (by rw [World.size_alloc, boxG_size]; omega) _
theorem boxS_kept {w W : World} {r c s : Int} {v : Value} {lo hi : Int} (h : Below (boxS w r c s v lo hi).heap.size (boxS w r c s v lo hi) W) :
    (W.cell? ⟨w.heap.size, 0, none⟩ = some (.int .i64 r) ∧ W.cell? ⟨w.heap.size, 1, none⟩ = some (.int .i64 c) ∧ W.cell? ⟨w.heap.size, 2, none⟩ = some (.int .i64 s) ∧ W.cell? ⟨w.heap.size, 3, none⟩ = some v) ∧ W.cell? ⟨w.heap.size + 1, 0, none⟩ = some (.int .i64 lo) ∧ W.cell? ⟨w.heap.size + 1 + 1, 0, none⟩ = some (.int .i64 hi) := by
  have b1 : Below (boxG w r c s v 28).heap.size (boxG w r c s v 28) (boxS w r c s v lo hi) := ((Below.refl _ _).alloc (Nat.le_refl _) _).alloc (by rw [World.size_alloc]; omega) _
  refine ⟨(boxG_kept (bt b1 h)).four, ?_, ?_⟩
  · have t := ((Whole.new (boxG w r c s v 28) 2 #[.int .i64 lo]).alloc (.cells #[.int .i64 hi] 2))
    rw [boxG_size] at t
    exact (Whole.all (w := boxS w r c s v lo hi) t h).at_ 0
  · have t := (Whole.new ((boxG w r c s v 28).alloc (.cells #[.int .i64 lo] 2)) 2 #[.int .i64 hi])
    rw [World.size_alloc, boxG_size] at t
    exact (Whole.all (w := boxS w r c s v lo hi) t h).at_ 0
set_option maxHeartbeats 6400000 in
theorem implStartCells_any (w : World) (r c s : Int) (v : Value) (zs : List Int) (lo hi : Int) (u : Value) (ks : List Int) (ho : IAt w v zs) (hl : zs.length ≤ 1048576) (hu : Sl w u ks) (hkl : ks.length ≤ 1048576) (hA : AspAt w) :
    Calls Tryd.prog 21 #[.agg #[.int .i64 r, .int .i64 c, .int .i64 s, v], .int .i64 lo, .int .i64 hi, u] w (RIp w (Gw.scL r c s zs lo hi ks) (Gw.scC r c s zs lo hi ks)) := by
  obtain ⟨Bo, g0, cap, rfl, hown⟩ := ho
  have HB := Lib.hid (boxS_below w r c s (.slice (some ⟨g0, 0, none⟩) zs.length cap) lo hi)
  have HK := Lib.hid (fun W h => boxS_kept (w := w) (W := W) (r := r) (c := c) (s := s) (v := .slice (some ⟨g0, 0, none⟩) zs.length cap) (lo := lo) (hi := hi) h)
  have HO := Lib.hid (hown.belowAll HB.out)
  have HA := Lib.hid (hA.below HB.out)
  have HU := Lib.hid (hu.below HB.out)
  clear hown hA hu
  obtain ⟨W3, hW3⟩ : ∃ W3, boxS w r c s (.slice (some ⟨g0, 0, none⟩) zs.length cap) lo hi = W3 := ⟨_, rfl⟩
  have hWW := hW3
  rw [hW3] at HB HK HO HA HU
  unfold boxS boxG at hWW
  clear hW3
  have C1 := Lib.hid (fun W => within_any lo 0 10000 W)
  have C2 := Lib.hid (fun W => within_any hi lo 10000 W)
  have CV := Lib.hid (fun W (h : Below W3.heap.size W3 W) => implValidGrid_any W r c s _ zs (HO.out.belowAll h).sl hl)
  have CI := Lib.hid (fun W (h : Below W3.heap.size W3 W) => areIndices_any W u ks 8 (by decide) (by decide) (HU.out.below h) hkl)
  have e87 : (8 : Int) - 1 = 7 := rfl
  rw [e87] at CI
  have CO := Lib.hid (fun a b o W => orderedCode_any a b o W)
  have hbd : Gw.bdB lo hi = (Ar.inB 0 lo 10000 && Ar.inB lo hi 10000) := rfl
  obtain ⟨⟨x0, x1, x2, x3⟩, x4, x5⟩ := HK.out W3 (Below.refl _ _)
  obtain ⟨ua, ucap, rfl⟩ := HU.out.form
  have hscC : Gw.scC r c s zs lo hi ks = odC (Gw.ok r c s zs) (Gw.bdB lo hi) (Rl.ri 0 7 ks) := rfl
  cases h1 : Ar.inB 0 lo 10000 with
  | false =>
    rw [h1] at C1
    rw [h1, Bool.false_and] at hbd
    have hne : odC (Gw.ok r c s zs) false (Rl.ri 0 7 ks) ≠ 0 := fun h => by have := (od_zero h).2.1; cases this
    have EL := Lib.hid (Gw.sc_no (r := r) (c := c) (s := s) (zs := zs) (lo := lo) (hi := hi) (ks := ks) (by rw [hbd]; exact hne))
    rw [hbd] at hscC
    have EC := Lib.hid hscC
    clear h1 hbd hscC e87 C2
    generalize Gw.ok r c s zs = okb at *
    generalize Rl.ri 0 7 ks = rib at *
    go_enter Tryd.func21, Tryd.ntmps21
    go_wp2_with fail
    refine (C1.out _).mono ?_
    rintro e w' ⟨rfl, rfl⟩
    go_wp2_with fail
    refine (CV.out _ (Below.refl _ _)).mono ?_
    rintro e w1 ⟨rfl, b1⟩
    have N1 := Lib.hid b1
    clear b1
    go_wp2_with fail
    refine (CI.out _ N1.out).mono ?_
    rintro e w2 ⟨rfl, b2⟩
    have N2 := Lib.hid (bt N1.out b2)
    clear b2
    go_wp2_with fail
    refine (CO.out _ _ _ _).mono ?_
    rintro e w' ⟨rfl, rfl⟩
    generalize odC okb false rib = code at *
    go_wp2_with fail
    exact bodyPost_ret (v := .tuple #[.slice none 0 0, .int .i64 code]) (by simp [results, Tryd.results21, go_sem]) rfl (by rw [EL.out, EC.out]; exact RIp.no (bt HB.out N2.out))
  | true =>
    rw [h1] at C1
    rw [h1, Bool.true_and] at hbd
    by_cases hz : odC (Gw.ok r c s zs) (Gw.bdB lo hi) (Rl.ri 0 7 ks) = 0
    · obtain ⟨hq, hb2, h3⟩ := od_zero hz
      have E := Lib.hid (Gw.sc_yes hq hb2 h3)
      have G := (Gw.ok_iff _ _ _ _).1 hq
      have h2 : Ar.inB lo hi 10000 = true := by rw [← hbd]; exact hb2
      rw [h2] at C2
      rw [hq] at CV
      rw [h3] at CI
      have HX : Hid (∀ x ∈ ks, 0 ≤ x ∧ x < 64) := Lib.hid (fun x hx => by
        unfold Rl.ri at h3
        rw [Bool.and_eq_true, List.all_eq_true] at h3
        have := Gw.inB_iff.1 (h3.1 x hx)
        omega)
      obtain ⟨R, rfl⟩ : ∃ R : Nat, r = (R : Int) := ⟨r.toNat, (Int.toNat_of_nonneg (by have := G.r1; omega)).symm⟩
      obtain ⟨C', rfl⟩ : ∃ C : Nat, c = (C : Int) := ⟨c.toNat, (Int.toNat_of_nonneg (by have := G.c1; omega)).symm⟩
      have hlen := G.len
      have hL : zs.length = R * C' := good_len G
      have g1 := G.r1; have g2 := G.r2; have g3 := G.c1; have g4 := G.c2
      have CT := Lib.hid (fun W (h : Below W3.heap.size W3 W) => terrainOf_any W R C' g0 0 zs.length cap s hL (by omega) (own_cap HO.out) (by omega) (by omega) (by omega) (by omega))
      have CZ := Lib.hid (fun W (h : Below W3.heap.size W3 W) => setOf_any W (.slice ua ks.length ucap) ks (HU.out.below h) hkl HX.out)
      have CO0 := Lib.hid (CO.out true true true)
      have hcode : odC true true true = 0 := rfl
      rw [hcode] at CO0
      have HG := Lib.hid G
      clear hz hq hb2 h3 h2 h1 hbd hscC e87 hL g1 g2 g3 g4 G CO hcode
      go_enter Tryd.func21, Tryd.ntmps21
      go_wp2_with fail
      refine (C1.out _).mono ?_
      rintro e w' ⟨rfl, rfl⟩
      go_wp2_with fail
      refine (C2.out _).mono ?_
      rintro e w' ⟨rfl, rfl⟩
      go_wp2_with fail
      refine (CV.out _ (Below.refl _ _)).mono ?_
      rintro e w1 ⟨rfl, b1⟩
      have N1 := Lib.hid b1
      clear b1
      go_wp2_with fail
      refine (CI.out _ N1.out).mono ?_
      rintro e w2 ⟨rfl, b2⟩
      have N2 := Lib.hid (bt N1.out b2)
      clear b2
      go_wp2_with fail
      refine (CO0.out _).mono ?_
      rintro e w' ⟨rfl, rfl⟩
      clear x0 x1 x2 x3 x4 x5
      obtain ⟨⟨x0, x1, x2, x3⟩, x4, x5⟩ := HK.out w2 N2.out
      clear hWW
      go_wp2_with fail
      refine (CT.out _ N2.out).mono ?_
      rintro e w3 ⟨g, cap', rfl, hr, hg, b3⟩
      have N3 := Lib.hid (bt N2.out b3)
      have HR := Lib.hid hr
      clear b3 hr hg
      go_wp2_with fail
      refine (CZ.out _ N3.out).mono ?_
      rintro e w4 ⟨rfl, b4⟩
      have N4 := Lib.hid (bt N3.out b4)
      have HR4 := Lib.hid (HR.out.all b4)
      clear b4 x0 x1 x2 x3 x4 x5
      have N5 : Hid (Below W3.heap.size W3 ((w4.alloc (.cells #[.int .i64 R, .int .i64 C', .int .i64 s, .slice (some ⟨g0, 0, none⟩) zs.length cap, .slice (some ⟨g, 0, none⟩) R cap'] 55)).alloc (.cells #[.int .u64 (Rl.sN ks : Int)] 70))) := Lib.hid ((N4.out.alloc N4.out.size _).alloc (Nat.le_trans N4.out.size (by simp)) _)
      have LD : Hid (Land ((w4.alloc (.cells #[.int .i64 R, .int .i64 C', .int .i64 s, .slice (some ⟨g0, 0, none⟩) zs.length cap, .slice (some ⟨g, 0, none⟩) R cap'] 55)).alloc (.cells #[.int .u64 (Rl.sN ks : Int)] 70)) w4.heap.size R C' g0 cap g cap' Bo s zs) := Lib.hid ⟨(Whole.new w4 _ _).alloc _, HR4.out.all (((Below.refl _ _).alloc (Nat.le_refl _) _).alloc (by simp) _), HO.out.belowAll N5.out, HA.out.below N5.out⟩
      have FC : Hid (((w4.alloc (.cells #[.int .i64 R, .int .i64 C', .int .i64 s, .slice (some ⟨g0, 0, none⟩) zs.length cap, .slice (some ⟨g, 0, none⟩) R cap'] 55)).alloc (.cells #[.int .u64 (Rl.sN ks : Int)] 70)).cell? ⟨w4.heap.size + 1, 0, none⟩ = some (.int .u64 (Rl.sN ks : Int))) := Lib.hid (by
        have t := (Whole.new (w4.alloc (.cells #[.int .i64 R, .int .i64 C', .int .i64 s, .slice (some ⟨g0, 0, none⟩) zs.length cap, .slice (some ⟨g, 0, none⟩) R cap'] 55)) 70 #[.int .u64 (Rl.sN ks : Int)])
        rw [World.size_alloc] at t
        exact t.at_ 0)
      have KK := Lib.hid (HK.out _ N5.out)
      go_wp2_with fail
      generalize (w4.alloc (.cells #[.int .i64 R, .int .i64 C', .int .i64 s, .slice (some ⟨g0, 0, none⟩) zs.length cap, .slice (some ⟨g, 0, none⟩) R cap'] 55)).alloc (.cells #[.int .u64 (Rl.sN ks : Int)] 70) = W5 at *
      have CW := Lib.hid (cellsWhere_any 46 #[.pointer (some ⟨w4.heap.size, 0, none⟩), .pointer (some ⟨w.heap.size + 1, 0, none⟩), .pointer (some ⟨w.heap.size + 1 + 1, 0, none⟩), .pointer (some ⟨w4.heap.size + 1, 0, none⟩)] (Gw.stB R C' s zs lo hi ks) W5 R C' s (some ⟨g0, 0, none⟩) zs.length cap (.slice (some ⟨g, 0, none⟩) R cap') (enters_of Tryd.func46 (by kernel_rfl) rfl) hlen
        (fun k hk W hW => startLit_any W w4.heap.size R C' g0 cap g cap' Bo (w.heap.size + 1) (w.heap.size + 1 + 1) (w4.heap.size + 1) k s lo hi zs ks HG.out hk (LD.out.all hW) HX.out (HK.out W (bt N5.out hW)).2.1 (HK.out W (bt N5.out hW)).2.2 ((hW.cell (p := ⟨w4.heap.size + 1, 0, none⟩) (World.block_lt_of_cell? W5 _ FC.out)).trans FC.out)))
      refine CW.out.mono ?_
      rintro e w6 ⟨q, rfl, o6, b6⟩
      have B6 := Lib.hid (bt (bt HB.out N5.out) b6)
      have O6 := Lib.hid (Own.le o6 (bt HB.out N5.out).size)
      clear b6 o6 CW
      go_wp2_with fail
      exact bodyPost_ret (v := .tuple #[q, .int .i64 0]) (by simp [results, Tryd.results21, go_sem]) rfl (by rw [E.out.1, E.out.2]; exact RIp.yes rfl rfl O6.out B6.out)
    · have EL := Lib.hid (Gw.sc_no (r := r) (c := c) (s := s) (zs := zs) (lo := lo) (hi := hi) (ks := ks) hz)
      have EC := Lib.hid hscC
      rw [← hbd] at C2
      clear h1 hscC e87 hbd
      generalize Gw.ok r c s zs = okb at *
      generalize Rl.ri 0 7 ks = rib at *
      generalize Gw.bdB lo hi = bdb at *
      go_enter Tryd.func21, Tryd.ntmps21
      go_wp2_with fail
      refine (C1.out _).mono ?_
      rintro e w' ⟨rfl, rfl⟩
      go_wp2_with fail
      refine (C2.out _).mono ?_
      rintro e w' ⟨rfl, rfl⟩
      go_wp2_with fail
      refine (CV.out _ (Below.refl _ _)).mono ?_
      rintro e w1 ⟨rfl, b1⟩
      have N1 := Lib.hid b1
      clear b1
      go_wp2_with fail
      refine (CI.out _ N1.out).mono ?_
      rintro e w2 ⟨rfl, b2⟩
      have N2 := Lib.hid (bt N1.out b2)
      clear b2
      go_wp2_with fail
      refine (CO.out _ _ _ _).mono ?_
      rintro e w' ⟨rfl, rfl⟩
      generalize odC okb bdb rib = code at *
      go_wp2_with fail
      exact bodyPost_ret (v := .tuple #[.slice none 0 0, .int .i64 code]) (by simp [results, Tryd.results21, go_sem]) rfl (by rw [EL.out, EC.out]; exact RIp.no (bt HB.out N2.out))
end Go.Proofs.YtobcflcmlejajabDoor
