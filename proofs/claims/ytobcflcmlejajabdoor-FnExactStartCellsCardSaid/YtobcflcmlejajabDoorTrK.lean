/-
  The steepest step down from a cell, answered or refused. The conditions: the table of ways as it is laid.
-/
import Derived.Test.YtobcflcmlejajabDoorTrJ
import Derived.Test.YtobcflcmlejajabDoorGq
namespace Go.Proofs.YtobcflcmlejajabDoor
open Go.RowKit Go.Shelf Go.Deep
set_option linter.unusedVariables false
set_option maxRecDepth 100000
namespace Gw
/-- the direction of the steepest step down from a cell, if there is one -/
def sdO (r c s : Int) (zs : List Int) (k : Int) : Option Nat := if ok r c s zs = true then (if isCell r c k = true then bsO r c s zs k.toNat ((List.range 8).filter (goB r c (k.toNat : Int))) else none) else none
/-- the code of the answer -/
def sdE (r c s : Int) (zs : List Int) (k : Int) : Int := if ok r c s zs = true then (if isCell r c k = true then (if (stp r c s zs k.toNat 8).1 < 0 then 3 else 0) else 2) else 1
theorem sd_bad {r c s : Int} {zs : List Int} {k : Int} (h : ok r c s zs = false) : sdO r c s zs k = none ∧ sdE r c s zs k = 1 := by unfold sdO sdE; rw [h]; exact ⟨rfl, rfl⟩
theorem sd_out {r c s : Int} {zs : List Int} {k : Int} (h : ok r c s zs = true) (h2 : isCell r c k = false) : sdO r c s zs k = none ∧ sdE r c s zs k = 2 := by unfold sdO sdE; rw [h, h2]; exact ⟨rfl, rfl⟩
theorem sd_in {r c s : Int} {zs : List Int} {k : Int} (h : ok r c s zs = true) (h2 : isCell r c k = true) : sdO r c s zs k = bsO r c s zs k.toNat ((List.range 8).filter (goB r c (k.toNat : Int))) ∧ sdE r c s zs k = (if (stp r c s zs k.toNat 8).1 < 0 then 3 else 0) := by unfold sdO sdE; rw [h, h2]; exact ⟨rfl, rfl⟩
end Gw
theorem one_slT (W : World) (d : Int) : Sl (W.alloc (.cells #[.int .i64 d] 2)) (.slice (some ⟨W.heap.size, 0, none⟩) 1 1) [d] := by
  refine Or.inr ⟨W.heap.size, 0, 1, rfl, by simp, fun j z hj => ?_⟩
  cases j with
  | zero => simp only [List.getElem?_cons_zero, Option.some.injEq] at hj; subst hj; simp
  | succ j => simp at hj
theorem own_cap {B g n cap : Nat} {w : World} {zs : List Int} (h : Own B w (.slice (some ⟨g, 0, none⟩) n cap) zs) : n ≤ cap := by
  rcases h.2 with ⟨hv, _⟩ | ⟨g', cap', cur, hv, _, _, hc, _⟩
  · cases hv
  · simp only [Value.slice.injEq] at hv; omega
theorem own_cells {B g n cap : Nat} {w : World} {zs : List Int} (h : Own B w (.slice (some ⟨g, 0, none⟩) n cap) zs) (j : Nat) (x : Int) (hx : zs[j]? = some x) : w.cell? ⟨g, 0 + j, none⟩ = some (.int .i64 x) := by
  have := World.ownsRow.cells h (g := g) rfl j (.int .i64 x) (by unfold iv; rw [List.getElem?_map, hx]; rfl)
  have e : ((⟨g, 0, none⟩ : Addr).add j) = ⟨g, 0 + j, none⟩ := by unfold Addr.add; split <;> simp_all
  rwa [e] at this
theorem own_lt {B g n cap : Nat} {w : World} {zs : List Int} (h : Own B w (.slice (some ⟨g, 0, none⟩) n cap) zs) : g < w.heap.size := (World.ownsRow.lt h g rfl).2
theorem steepest_any (w : World) (R C k g0 cap g cap' : Nat) (s : Int) (zs : List Int) (G : Gw.Good R C s zs) (hk : k < zs.length) (hr : RowsAt w g g0 0 C R)
    (hs : ∀ j x, zs[j]? = some x → w.cell? ⟨g0, 0 + j, none⟩ = some (.int .i64 x)) (hb1 : g0 < w.heap.size) (hA : AspAt w) :
    Calls Tryd.prog 37 #[.agg #[.int .i64 R, .int .i64 C, .int .i64 s, .slice (some ⟨g0, 0, none⟩) zs.length cap, .slice (some ⟨g, 0, none⟩) R cap'], .int .i64 (k : Int)] w fun e w' =>
      (∃ o : Option Nat, o = Gw.bsO R C s zs k ((List.range 8).filter (Gw.goB R C k)) ∧ e = .returned (.tuple #[.agg (stC R C s zs k o), .bool (!decide ((Gw.stp R C s zs k 8).1 < 0))])) ∧ Below w.heap.size w w' := by
  refine (callsIn_wide.1 (steepest_in 8 (Nat.le_refl _) w R C k g0 0 zs.length cap g cap' s zs G hk hr hs hb1 hA)).mono ?_
  rintro e w' ⟨⟨o, ho, rfl⟩, hb⟩
  refine ⟨⟨o, ho, ?_⟩, hb⟩
  have hd : decide (0 < dnO R C zs k o) = !decide ((Gw.stp R C s zs k 8).1 < 0) := by
    rcases Gw.best_upto (r := R) (c := C) (zs := zs) G.s1 G.s2 k 8 with ⟨h1, h2⟩ | ⟨i, h1, h2, h3, h4⟩
    · rw [h1] at ho
      rw [ho, h2]; rfl
    · rw [h1] at ho
      rw [ho, h3]
      have := (Gw.dnB_drp.1 h4).2
      show decide (0 < Gw.drp zs k (Gw.goC R C k i).toNat) = !decide ((i : Int) < 0)
      rw [decide_eq_true this, decide_eq_false (by omega)]; rfl
  rw [hd]
set_option maxHeartbeats 6400000 in
theorem steepestDown_any (w : World) (r c s : Int) (v : Value) (zs : List Int) (k : Int) (ho : IAt w v zs) (hl : zs.length ≤ 1048576) (hA : AspAt w) :
    Calls Tryd.prog 69 #[.agg #[.int .i64 r, .int .i64 c, .int .i64 s, v], .int .i64 k] w fun e w' => e = .returned (.tuple #[.agg (stC r c s zs k.toNat (Gw.sdO r c s zs k)), .int .i64 (Gw.sdE r c s zs k)]) ∧ Below w.heap.size w w' := by
  obtain ⟨Bo, g0, cap, rfl, hown⟩ := ho
  have HB := Lib.hid (boxG_below w r c s (.slice (some ⟨g0, 0, none⟩) zs.length cap) 28)
  have HK := Lib.hid (boxG_cells w r c s (.slice (some ⟨g0, 0, none⟩) zs.length cap) 28)
  have B1 := Lib.hid (HB.out.alloc HB.out.size (.cells #[.int .i64 0, .int .i64 0, .int .i64 0, .int .i64 0, .int .i64 0] 61))
  have B2 := Lib.hid (B1.out.alloc B1.out.size (.cells #[.int .i64 k] 2))
  have K2 : Hid (GC (((boxG w r c s (.slice (some ⟨g0, 0, none⟩) zs.length cap) 28).alloc (.cells #[.int .i64 0, .int .i64 0, .int .i64 0, .int .i64 0, .int .i64 0] 61)).alloc (.cells #[.int .i64 k] 2)) w.heap.size r c s (.slice (some ⟨g0, 0, none⟩) zs.length cap)) := Lib.hid (boxG_kept (((Below.refl _ _).alloc (Nat.le_refl _) _).alloc (by simp) _))
  have R2 := Lib.hid ((Whole.new (boxG w r c s (.slice (some ⟨g0, 0, none⟩) zs.length cap) 28) 61 #[.int .i64 0, .int .i64 0, .int .i64 0, .int .i64 0, .int .i64 0]).alloc (.cells #[.int .i64 k] 2))
  have O2 := Lib.hid (hown.belowAll B2.out)
  have S2 := Lib.hid (one_slT ((boxG w r c s (.slice (some ⟨g0, 0, none⟩) zs.length cap) 28).alloc (.cells #[.int .i64 0, .int .i64 0, .int .i64 0, .int .i64 0, .int .i64 0] 61)) k)
  have A2 := Lib.hid (hA.below B2.out)
  have CC := Lib.hid (cellsCode_any (((boxG w r c s (.slice (some ⟨g0, 0, none⟩) zs.length cap) 28).alloc (.cells #[.int .i64 0, .int .i64 0, .int .i64 0, .int .i64 0, .int .i64 0] 61)).alloc (.cells #[.int .i64 k] 2)) r c s (.slice (some ⟨g0, 0, none⟩) zs.length cap) _ zs [k] O2.out.sl S2.out hl (by simp))
  rw [boxG_size] at R2
  rw [World.size_alloc, boxG_size] at CC
  unfold boxG at CC K2 R2 A2 O2 B2
  have hany : (!([k].any fun x => !Ar.inB 0 x (zs.length - 1))) = Ar.inB 0 k (zs.length - 1) := by simp
  rw [hany] at CC
  clear hany hown hA HB HK B1 S2
  obtain ⟨W3, hW3⟩ : ∃ u, ((w.alloc (.cells #[.int .i64 r, .int .i64 c, .int .i64 s, .slice (some ⟨g0, 0, none⟩) zs.length cap] 28)).alloc (.cells #[.int .i64 0, .int .i64 0, .int .i64 0, .int .i64 0, .int .i64 0] 61)).alloc (.cells #[.int .i64 k] 2) = u := ⟨_, rfl⟩
  rw [hW3] at CC K2 R2 A2 O2 B2
  cases hq : Gw.ok r c s zs with
  | false =>
    rw [hq, Cd.cd_f] at CC
    have E := Lib.hid (Gw.sd_bad (k := k) hq)
    clear hq
    go_enter Tryd.func69, Tryd.ntmps69
    go_wp2_with fail
    refine CC.out.mono ?_
    rintro e w1 ⟨rfl, b1⟩
    have N1 := Lib.hid b1
    have R3 := R2.out.all b1
    have z0 := R3.free 0; have z1 := R3.free 1; have z2 := R3.free 2; have z3 := R3.free 3; have z4 := R3.free 4
    have y0 := R3.at_ 0; have y1 := R3.at_ 1; have y2 := R3.at_ 2; have y3 := R3.at_ 3; have y4 := R3.at_ 4
    clear b1 R3
    have P := Lib.hid (put5 (R2.out.all N1.out) (.int .i64 0) (.int .i64 0) (.int .i64 0) (.int .i64 0) (.int .i64 0))
    have BP := Lib.hid (below5 (bt B2.out N1.out) (show w.heap.size ≤ w.heap.size + 1 by omega) (.int .i64 0) (.int .i64 0) (.int .i64 0) (.int .i64 0) (.int .i64 0))
    go_wp2_with fail
    generalize ((((w1.setCell ⟨w.heap.size + 1, 0, none⟩ (.int .i64 0)).setCell ⟨w.heap.size + 1, 1, none⟩ (.int .i64 0)).setCell ⟨w.heap.size + 1, 2, none⟩ (.int .i64 0)).setCell ⟨w.heap.size + 1, 3, none⟩ (.int .i64 0)).setCell ⟨w.heap.size + 1, 4, none⟩ (.int .i64 0) = W9 at *
    have d0' := P.out.at_ 0; have d1' := P.out.at_ 1; have d2' := P.out.at_ 2; have d3' := P.out.at_ 3; have d4' := P.out.at_ 4
    exact bodyPost_ret (v := .tuple #[.agg #[(.int .i64 0), (.int .i64 0), (.int .i64 0), (.int .i64 0), (.int .i64 0)], .int .i64 1]) (by simp [results, Tryd.results69, go_sem, d0', d1', d2', d3', d4']) rfl ⟨by rw [E.out.1, E.out.2]; rfl, BP.out⟩
  | true =>
    have G := (Gw.ok_iff _ _ _ _).1 hq
    have hbi : Ar.inB 0 k (zs.length - 1) = Gw.isCell r c k := by unfold Gw.isCell; rw [G.n]
    rw [hq, hbi] at CC
    clear hbi
    cases hi : Gw.isCell r c k with
    | false =>
      rw [hi, Cd.cd_tf] at CC
      have E := Lib.hid (Gw.sd_out hq hi)
      clear hq hi
      go_enter Tryd.func69, Tryd.ntmps69
      go_wp2_with fail
      refine CC.out.mono ?_
      rintro e w1 ⟨rfl, b1⟩
      have N1 := Lib.hid b1
      have R3 := R2.out.all b1
      have z0 := R3.free 0; have z1 := R3.free 1; have z2 := R3.free 2; have z3 := R3.free 3; have z4 := R3.free 4
      have y0 := R3.at_ 0; have y1 := R3.at_ 1; have y2 := R3.at_ 2; have y3 := R3.at_ 3; have y4 := R3.at_ 4
      clear b1 R3
      have P := Lib.hid (put5 (R2.out.all N1.out) (.int .i64 0) (.int .i64 0) (.int .i64 0) (.int .i64 0) (.int .i64 0))
      have BP := Lib.hid (below5 (bt B2.out N1.out) (show w.heap.size ≤ w.heap.size + 1 by omega) (.int .i64 0) (.int .i64 0) (.int .i64 0) (.int .i64 0) (.int .i64 0))
      go_wp2_with fail
      generalize ((((w1.setCell ⟨w.heap.size + 1, 0, none⟩ (.int .i64 0)).setCell ⟨w.heap.size + 1, 1, none⟩ (.int .i64 0)).setCell ⟨w.heap.size + 1, 2, none⟩ (.int .i64 0)).setCell ⟨w.heap.size + 1, 3, none⟩ (.int .i64 0)).setCell ⟨w.heap.size + 1, 4, none⟩ (.int .i64 0) = W9 at *
      have d0' := P.out.at_ 0; have d1' := P.out.at_ 1; have d2' := P.out.at_ 2; have d3' := P.out.at_ 3; have d4' := P.out.at_ 4
      exact bodyPost_ret (v := .tuple #[.agg #[(.int .i64 0), (.int .i64 0), (.int .i64 0), (.int .i64 0), (.int .i64 0)], .int .i64 2]) (by simp [results, Tryd.results69, go_sem, d0', d1', d2', d3', d4']) rfl ⟨by rw [E.out.1, E.out.2]; rfl, BP.out⟩
    | true =>
      rw [hi, Cd.cd_t] at CC
      have E := Lib.hid (Gw.sd_in hq hi)
      obtain ⟨k1, k2⟩ := Gw.isCell_bd hi G.r1 G.r2 G.c1 G.c2
      have hkl : k.toNat < zs.length := Gw.isCell_lt hi G.n
      obtain ⟨R, rfl⟩ : ∃ R : Nat, r = (R : Int) := ⟨r.toNat, (Int.toNat_of_nonneg (by have := G.r1; omega)).symm⟩
      obtain ⟨C, rfl⟩ : ∃ C : Nat, c = (C : Int) := ⟨c.toNat, (Int.toNat_of_nonneg (by have := G.c1; omega)).symm⟩
      obtain ⟨kn, rfl⟩ : ∃ kn : Nat, k = (kn : Int) := ⟨k.toNat, (Int.toNat_of_nonneg k1).symm⟩
      rw [Int.toNat_natCast] at E hkl ⊢
      have hlen := G.len
      have hL : zs.length = R * C := good_len G
      have g1 := G.r1; have g2 := G.r2; have g3 := G.c1; have g4 := G.c2
      have CT := Lib.hid (fun W (h : Below W3.heap.size W3 W) => terrainOf_any W R C g0 0 zs.length cap s hL (by omega) (own_cap O2.out) (by omega) (by omega) (by omega) (by omega))
      have CS := Lib.hid (fun W g cap' (h : Below W3.heap.size W3 W) (hr : RowsAt W g g0 0 C R) => steepest_any W R C kn g0 cap g cap' s zs G hkl hr (own_cells (O2.out.belowAll h)) (own_lt (O2.out.belowAll h)) (A2.out.below h))
      have HG := Lib.hid G
      clear hq hi hlen hL hkl G g1 g2 g3 g4
      go_enter Tryd.func69, Tryd.ntmps69
      go_wp2_with fail
      refine CC.out.mono ?_
      rintro e w1 ⟨rfl, b1⟩
      have N1 := Lib.hid b1
      obtain ⟨x0, x1, x2, x3⟩ := (K2.out.all b1).four
      clear b1
      go_wp2_with fail
      refine (CT.out _ N1.out).mono ?_
      rintro e w2 ⟨g, cap', rfl, hr, hg, b2⟩
      have N2 := Lib.hid (bt N1.out b2)
      have HR := Lib.hid hr
      clear b2 hr hg x0 x1 x2 x3
      go_wp2_with fail
      refine (CS.out _ _ _ N2.out HR.out).mono ?_
      rintro e w3 ⟨⟨o, ho, rfl⟩, b3⟩
      have N3 := Lib.hid (bt N2.out b3)
      have HO := Lib.hid ho
      clear b3 ho
      obtain ⟨d0, p0, q0, hc⟩ := stC_five R C s zs kn o
      rw [hc]
      have HC := Lib.hid hc
      clear hc
      have NA := Lib.hid (N3.out.alloc N3.out.size (.cells #[.int .i64 d0, .int .i64 p0, .int .i64 q0, .int .i64 (dnO R C zs kn o), .int .i64 (Gw.slO R C s zs kn o)] 61))
      have TA := Lib.hid (Whole.new w3 61 #[.int .i64 d0, .int .i64 p0, .int .i64 q0, .int .i64 (dnO R C zs kn o), .int .i64 (Gw.slO R C s zs kn o)])
      have hlt3 : w.heap.size + 1 < w3.heap.size := (R2.out.all N3.out).lt
      have R3 := R2.out.all N3.out
      have z0 := R3.free 0; have z1 := R3.free 1; have z2 := R3.free 2; have z3 := R3.free 3; have z4 := R3.free 4
      have y0 := R3.at_ 0; have y1 := R3.at_ 1; have y2 := R3.at_ 2; have y3 := R3.at_ 3; have y4 := R3.at_ 4
      clear R3
      by_cases hst : (Gw.stp R C s zs kn 8).1 < 0
      · have ho : o = none := by
          rcases Gw.best_upto (r := R) (c := C) (zs := zs) (s := s) HG.out.s1 HG.out.s2 kn 8 with ⟨h1, h2⟩ | ⟨i, h1, h2, h3, h4⟩
          · exact HO.out.trans h1
          · rw [h3] at hst; simp only at hst; omega
        have HST := Lib.hid hst
        subst ho
        go_wp2_with fail
        have P := Lib.hid ((put5 (R2.out.all N3.out) (.int .i64 0) (.int .i64 0) (.int .i64 0) (.int .i64 0) (.int .i64 0)).alloc (.cells #[.int .i64 d0, .int .i64 p0, .int .i64 q0, .int .i64 (dnO R C zs kn none), .int .i64 (Gw.slO R C s zs kn none)] 61))
        have BP := Lib.hid (Below.alloc (below5 (bt B2.out N3.out) (show w.heap.size ≤ w.heap.size + 1 by omega) (.int .i64 0) (.int .i64 0) (.int .i64 0) (.int .i64 0) (.int .i64 0)) (below5 (bt B2.out N3.out) (show w.heap.size ≤ w.heap.size + 1 by omega) (.int .i64 0) (.int .i64 0) (.int .i64 0) (.int .i64 0) (.int .i64 0)).size (.cells #[.int .i64 d0, .int .i64 p0, .int .i64 q0, .int .i64 (dnO R C zs kn none), .int .i64 (Gw.slO R C s zs kn none)] 61))
        generalize (((((w3.setCell ⟨w.heap.size + 1, 0, none⟩ (.int .i64 0)).setCell ⟨w.heap.size + 1, 1, none⟩ (.int .i64 0)).setCell ⟨w.heap.size + 1, 2, none⟩ (.int .i64 0)).setCell ⟨w.heap.size + 1, 3, none⟩ (.int .i64 0)).setCell ⟨w.heap.size + 1, 4, none⟩ (.int .i64 0)).alloc (.cells #[.int .i64 d0, .int .i64 p0, .int .i64 q0, .int .i64 (dnO R C zs kn none), .int .i64 (Gw.slO R C s zs kn none)] 61) = W9 at *
        have d0' := P.out.at_ 0; have d1' := P.out.at_ 1; have d2' := P.out.at_ 2; have d3' := P.out.at_ 3; have d4' := P.out.at_ 4
        exact bodyPost_ret (v := .tuple #[.agg #[(.int .i64 0), (.int .i64 0), (.int .i64 0), (.int .i64 0), (.int .i64 0)], .int .i64 3]) (by simp [results, Tryd.results69, go_sem, d0', d1', d2', d3', d4']) rfl ⟨by rw [E.out.1, E.out.2, if_pos HST.out, ← HO.out]; rfl, BP.out⟩
      · have HST := Lib.hid hst
        go_wp2_with fail
        have P := Lib.hid ((put5 (R2.out.all N3.out) (.int .i64 d0) (.int .i64 p0) (.int .i64 q0) (.int .i64 (dnO R C zs kn o)) (.int .i64 (Gw.slO R C s zs kn o))).alloc (.cells #[.int .i64 d0, .int .i64 p0, .int .i64 q0, .int .i64 (dnO R C zs kn o), .int .i64 (Gw.slO R C s zs kn o)] 61))
        have BP := Lib.hid (Below.alloc (below5 (bt B2.out N3.out) (show w.heap.size ≤ w.heap.size + 1 by omega) (.int .i64 d0) (.int .i64 p0) (.int .i64 q0) (.int .i64 (dnO R C zs kn o)) (.int .i64 (Gw.slO R C s zs kn o))) (below5 (bt B2.out N3.out) (show w.heap.size ≤ w.heap.size + 1 by omega) (.int .i64 d0) (.int .i64 p0) (.int .i64 q0) (.int .i64 (dnO R C zs kn o)) (.int .i64 (Gw.slO R C s zs kn o))).size (.cells #[.int .i64 d0, .int .i64 p0, .int .i64 q0, .int .i64 (dnO R C zs kn o), .int .i64 (Gw.slO R C s zs kn o)] 61))
        generalize (((((w3.setCell ⟨w.heap.size + 1, 0, none⟩ (.int .i64 d0)).setCell ⟨w.heap.size + 1, 1, none⟩ (.int .i64 p0)).setCell ⟨w.heap.size + 1, 2, none⟩ (.int .i64 q0)).setCell ⟨w.heap.size + 1, 3, none⟩ (.int .i64 (dnO R C zs kn o))).setCell ⟨w.heap.size + 1, 4, none⟩ (.int .i64 (Gw.slO R C s zs kn o))).alloc (.cells #[.int .i64 d0, .int .i64 p0, .int .i64 q0, .int .i64 (dnO R C zs kn o), .int .i64 (Gw.slO R C s zs kn o)] 61) = W9 at *
        have d0' := P.out.at_ 0; have d1' := P.out.at_ 1; have d2' := P.out.at_ 2; have d3' := P.out.at_ 3; have d4' := P.out.at_ 4
        exact bodyPost_ret (v := .tuple #[.agg #[(.int .i64 d0), (.int .i64 p0), (.int .i64 q0), (.int .i64 (dnO R C zs kn o)), (.int .i64 (Gw.slO R C s zs kn o))], .int .i64 0]) (by simp [results, Tryd.results69, go_sem, d0', d1', d2', d3', d4']) rfl ⟨by rw [E.out.1, E.out.2, if_neg (Int.not_lt.2 HST.out), ← HO.out, HC.out], BP.out⟩
end Go.Proofs.YtobcflcmlejajabDoor
