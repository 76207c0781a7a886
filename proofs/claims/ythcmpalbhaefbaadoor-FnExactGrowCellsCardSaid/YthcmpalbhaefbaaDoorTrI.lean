/-
  The steepest step down from a cell. The conditions: a good grid; the table of ways as it is laid.
-/
import Derived.Test.YthcmpalbhaefbaaDoorTrH
import Derived.RangeFuncNested
import Derived.RangeFuncLeaves
namespace Go.Proofs.YthcmpalbhaefbaaDoor
open Go.RowKit Go.Shelf Go.Deep
set_option linter.unusedVariables false
set_option maxRecDepth 100000
attribute [local go_sem] Oper.semAt_some
theorem ownFrom_bx {β : Type} {n x B : Nat} {w₀ : World} (hn : n ≤ w₀.heap.size) (hB : n ≤ B) : OwnFrom B (fun (_ : β) W => BX n x w₀ W) :=
  fun _ X Y row hs hg hr => hs.trans (BX.of ((Below.refl n X).grown hg (Nat.le_trans hn hs.size) (fun k e => Nat.le_trans hB (hr k e).1)))
theorem BX.toBelow {n x m : Nat} {w w' : World} (h : BX n x w w') (hm : m ≤ n) (hx : m ≤ x) : Below m w w' := ⟨h.os, h.tape, h.output, h.size, fun i hi => h.block i (by omega) (by omega)⟩
theorem bx5 {n x : Nat} (w : World) (u0 u1 u2 u3 u4 : Value) : BX n x w (((((w.setCell ⟨x, 0, none⟩ u0).setCell ⟨x, 1, none⟩ u1).setCell ⟨x, 2, none⟩ u2).setCell ⟨x, 3, none⟩ u3).setCell ⟨x, 4, none⟩ u4) :=
  ((((BX.put w 0 u0).trans (BX.put _ 1 u1)).trans (BX.put _ 2 u2)).trans (BX.put _ 3 u3)).trans (BX.put _ 4 u4)
theorem keeps5 {B x : Nat} (w : World) (u0 u1 u2 u3 u4 : Value) : KeepsFrom B w (((((w.setCell ⟨x, 0, none⟩ u0).setCell ⟨x, 1, none⟩ u1).setCell ⟨x, 2, none⟩ u2).setCell ⟨x, 3, none⟩ u3).setCell ⟨x, 4, none⟩ u4) :=
  (((((KeepsOthers.setCell w _ _).trans (KeepsOthers.setCell _ _ _)).trans (KeepsOthers.setCell _ _ _)).trans (KeepsOthers.setCell _ _ _)).trans (KeepsOthers.setCell _ _ _)).from B
theorem leadsDown_any (w : World) (a p q d f : Int) :
    Calls Tryd.prog 58 #[.agg #[.int .i64 a, .int .i64 p, .int .i64 q, .int .i64 d, .int .i64 f]] w fun e w' => e = .returned (.bool (decide (0 < d))) ∧ Below w.heap.size w w' := by
  have B := Lib.hid ((Below.refl w.heap.size w).alloc (Nat.le_refl _) (.cells #[.int .i64 a, .int .i64 p, .int .i64 q, .int .i64 d, .int .i64 f] 74))
  go_enter Tryd.func58, Tryd.ntmps58
  go_wp2_with fail
  go_ret
  exact ⟨rfl, B.out⟩
set_option maxHeartbeats 8000000 in
theorem steepest_in (n : Nat) (hn : 8 ≤ n) (w : World) (R C k hb ho L cap g cap' : Nat) (s : Int) (zs : List Int) (G : Gw.Good R C s zs) (hk : k < zs.length) (hr : RowsAt w g hb ho C R)
    (hs : ∀ j x, zs[j]? = some x → w.cell? ⟨hb, ho + j, none⟩ = some (.int .i64 x)) (hb1 : hb < w.heap.size) (hA : AspAt w) :
    CallsIn Fence.wide n Tryd.prog 53 #[.agg #[.int .i64 R, .int .i64 C, .int .i64 s, .slice (some ⟨hb, ho, none⟩) L cap, .slice (some ⟨g, 0, none⟩) R cap'], .int .i64 (k : Int)] w fun e w' =>
      (∃ o : Option Nat, o = Gw.bsO R C s zs k ((List.range 8).filter (Gw.goB R C k)) ∧ e = .returned (.tuple #[.agg (stC R C s zs k o), .bool (decide (0 < dnO R C zs k o))])) ∧ Below w.heap.size w w' := by
  have hro : Fence.wide.round = none := rfl
  have r1 := G.r1; have r2 := G.r2; have c1 := G.c1; have c2 := G.c2
  have hlen := G.len
  have CF := Lib.hid (fun W => stepsFrom_any W (R : Int) C s (.slice (some ⟨hb, ho, none⟩) L cap) (.slice (some ⟨g, 0, none⟩) R cap') (k : Int) (by omega) (by omega) c1 c2)
  have B3 : Hid (Below w.heap.size w (((w.alloc (.cells #[.int .i64 R, .int .i64 C, .int .i64 s, .slice (some ⟨hb, ho, none⟩) L cap, .slice (some ⟨g, 0, none⟩) R cap'] 52)).alloc (.cells #[.int .i64 0, .int .i64 0, .int .i64 0, .int .i64 0, .int .i64 0] 74)).alloc (.cells #[.int .i64 0, .int .i64 0, .int .i64 0, .int .i64 0, .int .i64 0] 74))) := Lib.hid ((((Below.refl _ w).alloc (Nat.le_refl _) _).alloc (by simp) _).alloc (by simp; omega) _)
  have T1 := Lib.hid ((Whole.new (w.alloc (.cells #[.int .i64 R, .int .i64 C, .int .i64 s, .slice (some ⟨hb, ho, none⟩) L cap, .slice (some ⟨g, 0, none⟩) R cap'] 52)) 74 #[.int .i64 0, .int .i64 0, .int .i64 0, .int .i64 0, .int .i64 0]).alloc (.cells #[.int .i64 0, .int .i64 0, .int .i64 0, .int .i64 0, .int .i64 0] 74))
  have T2 := Lib.hid (whole2 w (.cells #[.int .i64 R, .int .i64 C, .int .i64 s, .slice (some ⟨hb, ho, none⟩) L cap, .slice (some ⟨g, 0, none⟩) R cap'] 52) (.cells #[.int .i64 0, .int .i64 0, .int .i64 0, .int .i64 0, .int .i64 0] 74) 74 #[.int .i64 0, .int .i64 0, .int .i64 0, .int .i64 0, .int .i64 0])
  have hz3 : Hid ((((w.alloc (.cells #[.int .i64 R, .int .i64 C, .int .i64 s, .slice (some ⟨hb, ho, none⟩) L cap, .slice (some ⟨g, 0, none⟩) R cap'] 52)).alloc (.cells #[.int .i64 0, .int .i64 0, .int .i64 0, .int .i64 0, .int .i64 0] 74)).alloc (.cells #[.int .i64 0, .int .i64 0, .int .i64 0, .int .i64 0, .int .i64 0] 74)).heap.size = w.heap.size + 3) := Lib.hid (by simp)
  rw [World.size_alloc] at T1
  refine callsIn_of_wp_marks Tryd.func53 rfl trivial ?_ hro
  simp only [Tryd.ntmps53, List.size_toArray, List.length_cons, List.length_nil, Nat.reduceAdd, Nat.reduceSub, Array.replicate_succ, Array.replicate_zero, List.push_toArray, List.append_toArray, List.nil_append, List.cons_append]
  gi_wp2_with fail
  refine ⟨trivial, fun _ => by omega, (callsIn_wide.2 (CF.out _)).mono ?_⟩
  rintro e W0 ⟨q, rfl, te, fr, hq, b0⟩
  rw [hz3.out] at te hq
  have B0 := Lib.hid (bt B3.out b0)
  have RS := Lib.hid (T1.out.all b0)
  have BS := Lib.hid (T2.out.all b0)
  have hsz : w.heap.size + 4 ≤ W0.heap.size := by have := b0.size; rw [hz3.out] at this; have := te.lt; omega
  clear b0 CF T1 T2 B3
  rw [hz3.out]
  clear hz3
  have hA0 := hA.below B0.out
  have hgl := hr.1
  have SK0 : SK W0.heap.size W0 R C k hb ho L cap g cap' q (w.heap.size + 3) s zs := ⟨te, fr, hr.below B0.out hgl, fun j x hx => (B0.out.cell (p := ⟨hb, ho + j, none⟩) hb1).trans (hs j x hx), by omega, by omega, fr.lt, te.lt⟩
  have h1 : 1 ≤ n := by omega
  gi_wp2_with fail
  refine wpIn_rangeFunc_ownH hro h1 (gf := 96) (lb := #[.pointer (some ⟨q, 0, none⟩), .pointer (some ⟨w.heap.size + 3, 0, none⟩)]) rfl trivial (enters_of Tryd.func96 (by kernel_rfl) rfl)
    (stepsx_stops (w.heap.size + 1 + 1) (n - 1) (by omega) W0.heap.size R C k hb ho L cap g cap' q (w.heap.size + 3) s zs G hk ⟨by omega, by omega, by omega, by omega⟩ W0 SK0 hA0 (Nat.le_refl _)) BX.trans (fun W l o o' hl h e1 e2 => BX.of (belowK_b (w := W0) (Nat.le_refl _) W l o o' hl h e1 e2)) (Below.refl _ _) (fun _ => rfl)
    (fun pre W => Whole W (w.heap.size + 1 + 1) 74 (stC R C s zs k (Gw.bsO R C s zs k (pre.map (fun x => x.1)))) ∧ BX W0.heap.size (w.heap.size + 1 + 1) W0 W)
    (fun _ _ _ => False)
    (OwnFrom.and (Own.from (whole_own _ _ (fun pre : List (Gw.Dir R C k) => stC R C s zs k (Gw.bsO R C s zs k (pre.map (fun x => x.1))))) _) (ownFrom_bx (Nat.le_refl _) (Nat.le_refl _)))
    (fun _ _ _ _ _ hs _ _ => hs)
    ⟨BS.out, BX.refl _ _ _⟩
    (fun x a' W => ∃ Bx, w.heap.size + 3 < Bx ∧ Whole W Bx 74 (stC R C s zs k (some x.1)) ∧ a' = { tmps := #[Value.agg #[Value.int IntKind.i64 ↑R, Value.int IntKind.i64 ↑C, Value.int IntKind.i64 s, Value.slice (some { block := hb, off := ho }) L cap, Value.slice (some { block := g, off := 0 }) R cap'], Value.int IntKind.i64 ↑k, Value.pointer (some { block := w.heap.size, off := 0 }), undef, Value.pointer (some { block := w.heap.size + 1, off := 0 }), Value.bool false, Value.pointer (some { block := w.heap.size + 1 + 1, off := 0 }), Value.pointer (some ⟨Bx, 0, none⟩), Value.agg #[Value.int IntKind.i64 ↑R, Value.int IntKind.i64 ↑C, Value.int IntKind.i64 s, Value.slice (some { block := hb, off := ho }) L cap, Value.slice (some { block := g, off := 0 }) R cap'], Value.int IntKind.i64 ↑k, Value.func (Fn.func 96) #[] #[Value.pointer (some { block := q, off := 0 }), Value.pointer (some { block := w.heap.size + 3, off := 0 })], stepV R C s zs k x.1, undef, undef, undef, undef, undef, undef, undef, undef, undef], defers := [] })
    (fun x a' _ X Y row hs hg hr => by obtain ⟨Bx, h1, h2, h3⟩ := hs; exact ⟨Bx, h1, whole_own Bx _ (fun (_ : Unit) => stC R C s zs k (some x.1)) () X Y row h2 hg (fun r e => (hr r e).2), h3⟩)
    ?assign ?body ?done ?stop
  case assign =>
    rintro l pre x W K ⟨bS1, hB1⟩ hK
    have hst : stepV R C s zs k x.1 = .agg (stC R C s zs k (some x.1)) := rfl
    obtain ⟨d0, p0, q0, hc⟩ := stC_five R C s zs k (some x.1)
    rw [hst] at hK ⊢
    rw [hc] at hK ⊢
    have hW := hB1.size
    generalize dnO R C zs k (some x.1) = d1 at *
    generalize Gw.slO R C s zs k (some x.1) = d2 at *
    clear hst hc
    gi_wp2_with fail
    exact hK _ _ ((KeepsOthers.alloc _ _).from _) (BX.of ((Below.refl _ W).alloc hW _)) ⟨bS1.alloc _, hB1.trans (BX.of ((Below.refl _ W).alloc hW _))⟩ ⟨W.heap.size, by omega, Whole.new W _ _, rfl⟩
  case body =>
    rintro l pre x a' W hl _ ⟨bS1, hB1⟩ ⟨Bx, hBx, bX, rfl⟩ hlt
    have hst : stepV R C s zs k x.1 = .agg (stC R C s zs k (some x.1)) := rfl
    rw [hst]
    have hI : Hid (∀ (o : Option Nat) (W' : World), Gw.upd R C s zs k (Gw.bsO R C s zs k (pre.map (fun x => x.1))) x.1 = o → Whole W' (w.heap.size + 1 + 1) 74 (stC R C s zs k o) → Whole W' (w.heap.size + 1 + 1) 74 (stC R C s zs k (Gw.bsO R C s zs k ((pre ++ [x]).map (fun x => x.1))))) := Lib.hid (by
      intro o W' h h'
      rw [List.map_append, List.map_cons, List.map_nil, Gw.bsO_snoc, h]; exact h')
    generalize Gw.bsO R C s zs k (pre.map (fun x => x.1)) = ob at *
    obtain ⟨d0, p0, q0, hc⟩ := stC_five R C s zs k (some x.1)
    obtain ⟨e0, f0, g0, hc2⟩ := stC_five R C s zs k ob
    have HC := Lib.hid hc
    have HC2 := Lib.hid hc2
    have hlt2 : Hid (Gw.slO R C s zs k (some x.1) = Gw.fall s zs k (Gw.goC R C k x.1).toNat x.1) := Lib.hid rfl
    have BXX := Lib.hid bX
    have BSS := Lib.hid bS1
    rw [hc] at bX ⊢
    rw [hc2] at bS1
    clear hst hc hc2
    have x0 := bX.at_ 0; have x1 := bX.at_ 1; have x2 := bX.at_ 2; have x3 := bX.at_ 3; have x4 := bX.at_ 4
    have y0 := bS1.at_ 0; have y1 := bS1.at_ 1; have y2 := bS1.at_ 2; have y3 := bS1.at_ 3; have y4 := bS1.at_ 4
    have z0 := bS1.free 0; have z1 := bS1.free 1; have z2 := bS1.free 2; have z3 := bS1.free 3; have z4 := bS1.free 4
    have hne : Bx ≠ w.heap.size + 1 + 1 := by omega
    by_cases hd : Gw.slO R C s zs k ob < Gw.slO R C s zs k (some x.1)
    · have HD := Lib.hid hd
      gi_wp2_with fail
      refine ⟨keeps5 _ _ _ _ _ _, bx5 _ _ _ _ _ _, hI.out _ _ (Gw.upd_yes HD.out) ?_, hB1.trans (bx5 _ _ _ _ _ _)⟩
      rw [HC.out]
      exact put5 bS1 _ _ _ _ _
    · have HD := Lib.hid hd
      gi_wp2_with fail
      exact ⟨KeepsFrom.refl _ _, BX.refl _ _ _, hI.out _ _ (Gw.upd_no (Int.not_lt.2 HD.out)) BSS.out, hB1⟩
  case done =>
    rintro D ys W hD hS ⟨bS1, hB1⟩ hK
    have RS1 := Lib.hid (hB1.whole RS.out (by omega) (by omega))
    have hys : Gw.bsO R C s zs k (ys.map (fun x => x.1)) = Gw.bsO R C s zs k ((List.range 8).filter (Gw.goB R C k)) := congrArg _ hS
    rw [hys] at bS1
    obtain ⟨ob, hob⟩ : ∃ ob, Gw.bsO R C s zs k ((List.range 8).filter (Gw.goB R C k)) = ob := ⟨_, rfl⟩
    rw [hob] at bS1
    have HOB := Lib.hid hob
    obtain ⟨d0, p0, q0, hc⟩ := stC_five R C s zs k ob
    have HC := Lib.hid hc
    rw [hc] at bS1
    clear hc hys hS te fr hA0 hs hA hob
    have CL := Lib.hid (fun W => leadsDown_any W d0 p0 q0 (dnO R C zs k ob) (Gw.slO R C s zs k ob))
    have BW : Hid (Below w.heap.size w W) := Lib.hid (B0.out.trans (hB1.toBelow (by omega) (by omega)))
    have BSH := Lib.hid bS1
    have HKK := Lib.hid hK
    have x0 := bS1.at_ 0; have x1 := bS1.at_ 1; have x2 := bS1.at_ 2; have x3 := bS1.at_ 3; have x4 := bS1.at_ 4
    have z0 := RS1.out.free 0; have z1 := RS1.out.free 1; have z2 := RS1.out.free 2; have z3 := RS1.out.free 3; have z4 := RS1.out.free 4
    clear bS1 hK hB1
    have hne : Hid (w.heap.size + 1 ≠ D) := Lib.hid (by omega)
    gi_wp2_with fail
    refine wpIn_wide.2 ?_
    go_region_held3 (fun w' => w'.cell? ⟨w.heap.size + 1 + 1, 0, none⟩ = some (.int .i64 d0) ∧ w'.cell? ⟨w.heap.size + 1 + 1, 1, none⟩ = some (.int .i64 p0) ∧ w'.cell? ⟨w.heap.size + 1 + 1, 2, none⟩ = some (.int .i64 q0) ∧ w'.cell? ⟨w.heap.size + 1 + 1, 3, none⟩ = some (.int .i64 (dnO R C zs k ob)) ∧ w'.cell? ⟨w.heap.size + 1 + 1, 4, none⟩ = some (.int .i64 (Gw.slO R C s zs k ob))) (go_keep)
      (first
        | (go_at_call 58; refine (CL.out _).mono ?_; rintro e wA ⟨rfl, bA⟩; have BA := Lib.hid (bt (below_drewW W 1) bA); have TA := Lib.hid (BSH.out.all BA.out); have RA := Lib.hid (RS1.out.all BA.out); clear bA; have y0 := TA.out.at_ 0; have y1 := TA.out.at_ 1; have y2 := TA.out.at_ 2; have y3 := TA.out.at_ 3; have y4 := TA.out.at_ 4; have e0 := RA.out.at_ 0; have e1 := RA.out.at_ 1; have e2 := RA.out.at_ 2; have e3 := RA.out.at_ 3; have e4 := RA.out.at_ 4; have g0 := RA.out.free 0; have g1 := RA.out.free 1; have g2 := RA.out.free 2; have g3 := RA.out.free 3; have g4 := RA.out.free 4))
    all_goals (
      have P := Lib.hid (put5 RA.out (.int .i64 d0) (.int .i64 p0) (.int .i64 q0) (.int .i64 (dnO R C zs k ob)) (.int .i64 (Gw.slO R C s zs k ob)))
      have BP := Lib.hid (below5 (bt BW.out BA.out) (show w.heap.size ≤ w.heap.size + 1 by omega) (.int .i64 d0) (.int .i64 p0) (.int .i64 q0) (.int .i64 (dnO R C zs k ob)) (.int .i64 (Gw.slO R C s zs k ob)))
      have KD : Hid ((((((wA.setCell ⟨w.heap.size + 1, 0, none⟩ (.int .i64 d0)).setCell ⟨w.heap.size + 1, 1, none⟩ (.int .i64 p0)).setCell ⟨w.heap.size + 1, 2, none⟩ (.int .i64 q0)).setCell ⟨w.heap.size + 1, 3, none⟩ (.int .i64 (dnO R C zs k ob))).setCell ⟨w.heap.size + 1, 4, none⟩ (.int .i64 (Gw.slO R C s zs k ob))).heap[D]? = some (.deferred (some []))) := Lib.hid (by
        have hDl : D < W.heap.size := (Array.getElem?_eq_some_iff.1 HKK.out).1
        exact ((bx5 (n := D + 1) (x := w.heap.size + 1) wA _ _ _ _ _).block D (by omega) (Ne.symm hne.out)).trans ((BA.out.block D hDl).trans HKK.out))
      generalize ((((wA.setCell ⟨w.heap.size + 1, 0, none⟩ (.int .i64 d0)).setCell ⟨w.heap.size + 1, 1, none⟩ (.int .i64 p0)).setCell ⟨w.heap.size + 1, 2, none⟩ (.int .i64 q0)).setCell ⟨w.heap.size + 1, 3, none⟩ (.int .i64 (dnO R C zs k ob))).setCell ⟨w.heap.size + 1, 4, none⟩ (.int .i64 (Gw.slO R C s zs k ob)) = W9 at *
      gi_wp2
      refine ⟨by simp, .inl ⟨_, _, rfl, run_takeDeferred KD.out, ?_⟩⟩
      have PD := P.out.far (grownBy_putObj' W9 D (.deferred none)) hne.out
      have d0' := PD.at_ 0
      have d1' := PD.at_ 1
      have d2' := PD.at_ 2
      have d3' := PD.at_ 3
      have d4' := PD.at_ 4
      refine ⟨.tuple #[.agg #[.int .i64 d0, .int .i64 p0, .int .i64 q0, .int .i64 (dnO R C zs k ob), .int .i64 (Gw.slO R C s zs k ob)], .bool (decide (0 < dnO R C zs k ob))], by simp [results, Tryd.results53, go_sem, d0', d1', d2', d3', d4'], ⟨ob, HOB.out.symm, by rw [HC.out]⟩, ?_⟩
      exact BP.out.trans (belowK_b (w := w) (Nat.le_refl _) W9 D _ _ (by omega) KD.out rfl rfl))
  case stop =>
    rintro D c pre W _ _ h _
    exact h.elim
end Go.Proofs.YthcmpalbhaefbaaDoor
