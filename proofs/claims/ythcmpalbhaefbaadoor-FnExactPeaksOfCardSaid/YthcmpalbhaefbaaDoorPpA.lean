/-
  The steps from a cell as a list; cells from which no step is of a kind, by the program (chapter 9). The conditions: the table of ways as it is laid.
-/
import Derived.Test.YthcmpalbhaefbaaDoorGspF
import Derived.Test.YthcmpalbhaefbaaDoorPtM
import Derived.Test.YthcmpalbhaefbaaDoorTrF
import Derived.Test.YthcmpalbhaefbaaDoorTrK
import Derived.Test.YthcmpalbhaefbaaDoorRlF
namespace Go.Proofs.YthcmpalbhaefbaaDoor
open Go.RowKit Go.Shelf Go.Deep
set_option linter.unusedVariables false
set_option maxRecDepth 100000
attribute [local go_sem] Oper.semAt_some
namespace Gw
/-- a step as a record -/
def gsOf (r c s : Int) (zs : List Int) (k a : Nat) : Gsp := ⟨a, rwA c k a, clA c k a, drp zs k (goC r c k a).toNat, fall s zs k (goC r c k a).toNat a⟩
theorem gsOf_st (r c s : Int) (zs : List Int) (k a : Nat) : stC r c s zs k (some a) = #[.int .i64 (gsOf r c s zs k a).di, .int .i64 (gsOf r c s zs k a).ro, .int .i64 (gsOf r c s zs k a).co, .int .i64 (gsOf r c s zs k a).fa, .int .i64 (gsOf r c s zs k a).sl] := rfl
theorem iv_snoc5 (l : List Gsp) (x : Gsp) : iv (Gp.fl (l ++ [x])) = iv (Gp.fl l) ++ [.int .i64 x.di, .int .i64 x.ro, .int .i64 x.co, .int .i64 x.fa, .int .i64 x.sl] := by
  rw [Gp.fl_app, Gp.fl_one, iv_append]; rfl
theorem dirs_len (r c k : Int) : (dirs r c k).length ≤ 8 := by
  unfold dirs
  have := List.length_filter_le (goB r c k) (List.range 8)
  rwa [List.length_range] at this
end Gw
set_option maxHeartbeats 8000000 in
theorem appendSteps_in (n : Nat) (hn : 3 ≤ n) (w : World) (R C k g0 L cap g cap' q qt : Nat) (s : Int) (zs : List Int) (G : Gw.Good R C s zs) (hk : k < zs.length) (SK0 : SK w.heap.size w R C k g0 0 L cap g cap' q qt s zs) (hA : AspAt w) :
    CallsIn Fence.wide n Tryd.prog 137 #[.slice none 0 0, .func (.func 96) #[] #[.pointer (some ⟨q, 0, none⟩), .pointer (some ⟨qt, 0, none⟩)]] w fun e w' =>
      ∃ v, e = .returned v ∧ GpOwn w.heap.size w' v ((Gw.dirs R C k).map (Gw.gsOf R C s zs k)) ∧ Below w.heap.size w w' := by
  have hro : Fence.wide.round = none := rfl
  have h1 : 1 ≤ n := by omega
  obtain ⟨i0, hi, hz0, hz1, hz2⟩ := info_parts info_gridStep
  have bO := Boxed.new w 132 (.slice none 0 0)
  have hB0 : Below w.heap.size w (w.alloc (.cells #[.slice none 0 0] 132)) := (Below.refl _ w).alloc (Nat.le_refl _) _
  have SK1 := SK0.below hB0
  have hA1 := hA.below hB0
  refine callsIn_of_wp_marks Tryd.func137 rfl trivial ?_ hro
  simp only [Tryd.ntmps137, List.size_toArray, List.length_cons, List.length_nil, Nat.reduceAdd, Nat.reduceSub, Array.replicate_succ, Array.replicate_zero, List.push_toArray, List.append_toArray, List.nil_append, List.cons_append]
  gi_wp2
  refine wpIn_rangeFunc_ownH hro h1 (gf := 96) (lb := #[.pointer (some ⟨q, 0, none⟩), .pointer (some ⟨qt, 0, none⟩)]) rfl trivial (enters_of Tryd.func96 (by kernel_rfl) rfl)
    (steps_stops (n - 1) (by omega) w.heap.size R C k g0 0 L cap g cap' q qt s zs G hk _ SK1 hA1 (by simp)) belowK_t (belowK_b (by simp)) (Below.refl _ _) (fun _ => rfl)
    (fun pre W => (∃ v, Boxed W w.heap.size 132 v ∧ W.ownsRow w.heap.size 74 5 v pre.length (iv (Gp.fl (pre.map (fun x => Gw.gsOf R C s zs k x.1)))) ∧ (v = .slice none 0 0 ↔ pre = [])) ∧ Below w.heap.size w W)
    (fun _ _ _ => False)
    (OwnFrom.and (Own.from (holdsRow_own w.heap.size w.heap.size 132 74 5 (fun pre : List (Gw.Dir R C k) => pre.length) (fun pre => iv (Gp.fl (pre.map (fun x => Gw.gsOf R C s zs k x.1)))) (fun pre v => v = .slice none 0 0 ↔ pre = [])) _) (ownFrom_below (Nat.le_refl _) (by simp)))
    (fun _ _ _ _ _ hs _ _ => hs)
    ⟨⟨_, bO, World.ownsRow_nil _ _ _ _, by simp⟩, hB0⟩
    (fun x a' W => ∃ Bx, w.heap.size < Bx ∧ Whole W Bx 74 (stC R C s zs k (some x.1)) ∧ a' = { tmps := #[.slice none 0 0, .func (.func 96) #[] #[.pointer (some ⟨q, 0, none⟩), .pointer (some ⟨qt, 0, none⟩)], .pointer (some ⟨w.heap.size, 0, none⟩), undef, .slice none 0 0, .pointer (some ⟨Bx, 0, none⟩), .func (.func 96) #[] #[.pointer (some ⟨q, 0, none⟩), .pointer (some ⟨qt, 0, none⟩)], stepV R C s zs k x.1, undef, undef, undef, undef, undef], defers := [] })
    (fun x a' _ X Y row hs hg hr => by obtain ⟨Bx, h1, h2, h3⟩ := hs; exact ⟨Bx, h1, whole_own Bx _ (fun (_ : Unit) => stC R C s zs k (some x.1)) () X Y row h2 hg (fun r e => (hr r e).2), h3⟩)
    ?assign ?body ?done ?stop
  case assign =>
    rintro l pre x W K ⟨⟨v, hv, hrow, hnil⟩, hB⟩ hK
    have hst : stepV R C s zs k x.1 = .agg (stC R C s zs k (some x.1)) := rfl
    rw [hst] at hK ⊢
    rw [Gw.gsOf_st] at hK ⊢
    have hsz : w.heap.size < W.heap.size := hv.lt
    obtain ⟨y, hy⟩ : ∃ y, Gw.gsOf R C s zs k x.1 = y := ⟨_, rfl⟩
    rw [hy] at hK ⊢
    clear hst
    gi_wp2
    exact hK _ _ ((KeepsOthers.alloc _ _).from _) ((Below.refl _ W).alloc hB.size _) ⟨⟨v, hv.alloc _, hrow.alloc _, hnil⟩, hB.alloc hB.size _⟩ ⟨W.heap.size, hsz, Whole.new W _ _, rfl⟩
  case body =>
    rintro l pre x a' W hl _ ⟨⟨v, hv, hrow, hnil⟩, hB⟩ ⟨Bx, hBx, bX, rfl⟩ hlt
    have hc := hv.cell
    have hst : stepV R C s zs k x.1 = .agg (stC R C s zs k (some x.1)) := rfl
    have hI : Hid (iv (Gp.fl ((pre ++ [x]).map (fun x => Gw.gsOf R C s zs k x.1))) = iv (Gp.fl (pre.map (fun x => Gw.gsOf R C s zs k x.1))) ++ [.int .i64 (Gw.gsOf R C s zs k x.1).di, .int .i64 (Gw.gsOf R C s zs k x.1).ro, .int .i64 (Gw.gsOf R C s zs k x.1).co, .int .i64 (Gw.gsOf R C s zs k x.1).fa, .int .i64 (Gw.gsOf R C s zs k x.1).sl]) := Lib.hid (by rw [List.map_append, List.map_cons, List.map_nil, Gw.iv_snoc5])
    rw [hst]
    rw [Gw.gsOf_st] at bX ⊢
    obtain ⟨y, hy⟩ : ∃ y, Gw.gsOf R C s zs k x.1 = y := ⟨_, rfl⟩
    rw [hy] at bX hI ⊢
    generalize iv (Gp.fl (pre.map (fun x => Gw.gsOf R C s zs k x.1))) = ys at *
    have x0 := bX.at_ 0; have x1 := bX.at_ 1; have x2 := bX.at_ 2; have x3 := bX.at_ 3; have x4 := bX.at_ 4
    clear hst hy
    gi_wp2_with (gi_at_builtin; refine wpListIn_append_own _ rfl _ _ 132 rfl w.heap.size 74 i0 (.agg #[.int .i64 0, .int .i64 0, .int .i64 0, .int .i64 0, .int .i64 0]) 5 40 Tryd.underlying132 hi hz0 hz1 hz2 rfl (by decide) _ _ _ rfl (hrow.alloc _) ⟨W.heap.size, 0, none⟩ 1 1 [.int .i64 y.di, .int .i64 y.ro, .int .i64 y.co, .int .i64 y.fa, .int .i64 y.sl] rfl rfl (row_new _ [_, _, _, _, _] _) (iv_cell [y.di, y.ro, y.co, y.fa, y.sl]) (by unfold maxLen; omega) (by omega) (by have := hB.size; simp; omega) ?_; intro v' w1 hown' hgrow _; obtain ⟨g', cap', rfl⟩ := ownsRow_succ hown'; obtain ⟨hv1, hv2, hr2, hk2, hb2⟩ := hv.appended (by decide) hrow hB.size (Nat.le_refl _) hown' hgrow; have hc1 := hv1.cell; have hf1 := hv1.frozen)
    exact ⟨hk2.from _, hb2, ⟨_, hv2, by rw [hI.out, List.length_append]; exact hr2, by simp⟩, hB.trans hb2⟩
  case done =>
    rintro D ys W hD hS ⟨⟨v, hv, hrow, hnil⟩, hB⟩ hK
    have hc := hv.cell
    have hys : (ys.map (fun x => Gw.gsOf R C s zs k x.1)) = (Gw.dirs R C k).map (Gw.gsOf R C s zs k) := by
      have : ys.map (fun x => Gw.gsOf R C s zs k x.1) = (ys.map (fun x => x.1)).map (Gw.gsOf R C s zs k) := by rw [List.map_map]; rfl
      rw [this]
      exact congrArg (List.map (Gw.gsOf R C s zs k)) hS
    have hln : ys.length = ((Gw.dirs R C k).map (Gw.gsOf R C s zs k)).length := by rw [← hys, List.length_map]
    rw [hys, hln] at hrow
    clear hys hln hS
    gi_wp2
    refine ⟨by simp, .inl ⟨_, _, rfl, run_takeDeferred hK, ?_⟩⟩
    exact ⟨_, results_tmp rfl _ _ _, v, rfl, ownsRow_putObj hrow _ hK rfl, hB.trans (belowK_b (w := w) (Nat.le_refl _) W D _ _ (by simp at hD; omega) hK rfl rfl)⟩
  case stop =>
    rintro D c pre W _ _ h _
    exact h.elim
end Go.Proofs.YthcmpalbhaefbaaDoor
