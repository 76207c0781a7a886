/-
  slices.Chunk at numbers, collected: the rows of a grid are pieces of its heights. The conditions: a row has cells, and the heights are whole rows.
-/
import Derived.RangeFuncBox
import Derived.RangeFuncNested
import Derived.RangeFuncBound
import Derived.RangeFuncCalls
import Derived.RangeFuncLeaves
import Derived.Shelf.Abstract
import Derived.Shelf.RegionOpen
import Derived.WalkKit
import Derived.OwnWalkIn
import Derived.TacticsInMore
import Derived.LoopNIn
import Derived.LoopIn
import Derived.Maps.AppendAt
import Derived.Test.YtaldmdammipfjaaTrA
namespace Go.Proofs.Ytaldmdammipfjaa
open Go.RowKit Go.Shelf
set_option linter.unusedVariables false
attribute [local go_sem] Oper.semAt_some

/-- row k of heights in block hb from ho on -/
def rowV (hb ho C : Nat) (k : Nat) : Value := .slice (some ⟨hb, ho + k * C, none⟩) C C
theorem range_add_pre (a b : Nat) : List.range a <+: List.range (a + b) := by rw [List.range_add]; exact List.prefix_append _ _
theorem range_pre {a b : Nat} (h : a ≤ b) : List.range a <+: List.range b := by
  have := range_add_pre a (b - a)
  rwa [show a + (b - a) = b by omega] at this
set_option maxRecDepth 100000 in
set_option maxHeartbeats 4000000 in
theorem chunk1_in (F : Fence) (n : Nat) (hf : F.fn 125) (hro : F.round = none) (hn : 1 ≤ n) (l Bs Bn n₀ hb ho L cap C R : Nat) (hC : 1 ≤ C) (hL : L = R * C) (hcap : L ≤ cap) (hs : L ≤ 1000) (hho : ho + L ≤ 1000000) (J Jx : List Nat → World → Prop) (hJd : ∀ pre w, J pre w → J pre w.drew)
    (hY : ∀ pre x W, J pre W → pre.length < R → YieldAt F (n - 1) Try.prog l #[rowV hb ho C x] W fun e W' =>
      (e = .returned (.bool true) ∧ J (pre ++ [x]) W' ∧ Below n₀ W W') ∨ (e = .returned (.bool false) ∧ Jx (pre ++ [x]) W'))
    (W : World) (hBs0 : Bs < n₀) (hBn0 : Bn < n₀) (hBs : W.cell? ⟨Bs, 0, none⟩ = some (.slice (some ⟨hb, ho, none⟩) L cap)) (hBn : W.cell? ⟨Bn, 0, none⟩ = some (.int .i64 C)) (h0 : J [] W) :
    CallsIn F n Try.prog 125 #[.func (.yield l) #[] #[], .pointer (some ⟨Bs, 0, none⟩), .pointer (some ⟨Bn, 0, none⟩)] W fun e W' => (∃ v, e = .returned v) ∧
      ((∃ ys, ys = List.range R ∧ J ys W') ∨ (∃ pre, pre <+: List.range R ∧ Jx pre W')) := by
  have HL := Lib.hid hL
  clear hL
  refine callsIn_of_wp Try.func125 rfl hf ?_ hro
  simp only [Try.ntmps125, List.size_toArray, List.length_cons, List.length_nil, Nat.reduceAdd, Nat.reduceSub, Array.replicate_succ, Array.replicate_zero, List.push_toArray, List.append_toArray, List.nil_append, List.cons_append]
  gi_wp2
  gi_loopw [4] (fun i wr => ∃ k o : Nat, k ≤ R ∧ Hid (o = k * C) ∧ i = .int .i64 o ∧ J (List.range k) wr ∧ Below n₀ W wr)
    (fun i _ => L - (intOf i).toNat)
  case atStart => exact ⟨0, 0, Nat.zero_le _, Lib.hid (by simp), rfl, h0, Below.refl _ _⟩
  case round =>
    obtain ⟨k, o, hk, ho1, rfl, hJs, hnx⟩ := hrel
    have b1 : wr.cell? ⟨Bs, 0, none⟩ = some (.slice (some ⟨hb, ho, none⟩) L cap) := (hnx.cell (p := ⟨Bs, 0, none⟩) hBs0).trans hBs
    have b2 : wr.cell? ⟨Bn, 0, none⟩ = some (.int .i64 C) := (hnx.cell (p := ⟨Bn, 0, none⟩) hBn0).trans hBn
    by_cases hlt : k < R
    · have hoc : o + C ≤ L := by
        rw [ho1.out, HL.out]
        have := Nat.mul_le_mul_right C (show k + 1 ≤ R by omega)
        rwa [Nat.add_mul, Nat.one_mul] at this
      have hol : (o : Int) < (L : Int) := by omega
      have ho0 : (0 : Int) ≤ (o : Int) := by omega
      have hoL : (o : Int) ≤ (L : Int) := by omega
      obtain ⟨fn, tmps, assign, body, hy, hR⟩ := hY _ k wr.drew (hJd _ _ hJs) (by rw [List.length_range]; exact hlt)
      unfold rowV at hy
      rw [← ho1.out] at hy
      gi_wp2
      have hmin : ¬ L - o < C := by omega
      have hoc1 : (o : Int) + (C : Int) ≤ (cap : Int) := by omega
      have hoc2 : (o : Int) ≤ (o : Int) + (C : Int) := by omega
      gi_region_both
      all_goals (
        gi_wp2
        refine hR.mono ?_
        rintro e W3 (⟨rfl, hJ3, hk3⟩ | ⟨rfl, hJx3⟩)
        · have d2 : W3.cell? ⟨Bn, 0, none⟩ = some (.int .i64 C) := (hk3.cell (p := ⟨Bn, 0, none⟩) hBn0).trans b2
          gi_wp2
          go_roundw
          case rel => exact ⟨k + 1, o + C, by omega, Lib.hid (by rw [ho1.out, Nat.add_mul, Nat.one_mul]), by simp, by rw [List.range_succ]; exact hJ3, hnx.drew.trans hk3⟩
          case measure => simp [intOf]; omega
        · gi_wp2
          refine bodyPost_ret (results_none rfl _ _ _) rfl ?_
          exact ⟨⟨_, rfl⟩, .inr ⟨List.range k ++ [k], by rw [← List.range_succ]; exact range_pre (by omega), hJx3⟩⟩)
    · have hoL : (o : Int) = (L : Int) := by
        have : k = R := by omega
        rw [ho1.out, this, HL.out]
      gi_wp2
      go_end0
      exact ⟨⟨_, rfl⟩, .inl ⟨_, by rw [show k = R by omega], hJs⟩⟩
set_option maxHeartbeats 1600000 in
theorem chunk_any (w : World) (a : Option Addr) (L cap : Nat) (C : Int) (hC : 1 ≤ C) :
    Calls Try.prog 112 #[.slice a L cap, .int .i64 C] w fun e w' => e = .returned (.func (.func 125) #[] #[.pointer (some ⟨w.heap.size, 0, none⟩), .pointer (some ⟨w.heap.size + 1, 0, none⟩)]) ∧ w' = (w.alloc (.cells #[.slice a L cap] 22)).alloc (.cells #[.int .i64 C] 3) := by
  have h : ¬ C < 1 := by omega
  go_enter Try.func112, Try.ntmps112
  go_wp2_with fail
  go_ret
  exact ⟨rfl, rfl⟩
theorem grown_drew (w : World) : w.grownBy w.drew none := only_drewN (World.grownBy.refl w none) 1
theorem chunk_stops (F : Fence) (n : Nat) (hf : F.fn 125) (hro : F.round = none) (hn : 1 ≤ n) (Bs Bn n₀ hb ho L cap C R : Nat) (hC : 1 ≤ C) (hL : L = R * C) (hcap : L ≤ cap) (hs : L ≤ 1000) (hho : ho + L ≤ 1000000)
    (w : World) (hBs0 : Bs < n₀) (hBn0 : Bn < n₀) (hn0 : n₀ ≤ w.heap.size) (hBs : w.cell? ⟨Bs, 0, none⟩ = some (.slice (some ⟨hb, ho, none⟩) L cap)) (hBn : w.cell? ⟨Bn, 0, none⟩ = some (.int .i64 C)) :
    SeqStopsK F n Try.prog 125 #[.pointer (some ⟨Bs, 0, none⟩), .pointer (some ⟨Bn, 0, none⟩)] (fun x : Nat => #[rowV hb ho C x]) (Below n₀) (fun ys => ys = List.range R) (fun pre => pre <+: List.range R) R w := fun l J Jx W hW hJ _ hY h0 =>
  chunk1_in F n hf hro hn l Bs Bn n₀ hb ho L cap C R hC hL hcap hs hho J Jx (fun pre u hu => hJ pre u u.drew none hu (grown_drew u) (fun r e => by cases e)) hY W hBs0 hBn0
    ((hW.cell (p := ⟨Bs, 0, none⟩) (by show Bs < _; omega)).trans hBs) ((hW.cell (p := ⟨Bn, 0, none⟩) (by show Bn < _; omega)).trans hBn) h0
theorem info_row : (Try.prog.info? 22).map (fun i => (i.zero, i.size, i.bytes)) = some (some (.slice none 0 0), 1, 24) := by kernel_rfl
set_option maxRecDepth 100000 in
set_option maxHeartbeats 4000000 in
theorem appendRows_in (F : Fence) (n : Nat) (h81 : F.fn 124) (h82 : F.fn 125) (hro : F.round = none) (hn : 3 ≤ n) (Bs Bn hb ho L cap C R : Nat) (hC : 1 ≤ C) (hL : L = R * C) (hcap : L ≤ cap) (hs : L ≤ 1000) (hho : ho + L ≤ 1000000) (hR : R ≤ 1000)
    (w : World) (hBs0 : Bs < w.heap.size) (hBn0 : Bn < w.heap.size) (hBs : w.cell? ⟨Bs, 0, none⟩ = some (.slice (some ⟨hb, ho, none⟩) L cap)) (hBn : w.cell? ⟨Bn, 0, none⟩ = some (.int .i64 C)) :
    CallsIn F n Try.prog 124 #[.slice none 0 0, .func (.func 125) #[] #[.pointer (some ⟨Bs, 0, none⟩), .pointer (some ⟨Bn, 0, none⟩)]] w fun e W' => ∃ v, e = .returned v ∧ W'.ownsRow w.heap.size 22 1 v R ((List.range R).map (rowV hb ho C)) ∧ Below w.heap.size w W' := by
  have h1 : 1 ≤ n := by omega
  obtain ⟨i0, hi, hz0, hz1, hz2⟩ := info_parts info_row
  have bO := Boxed.new w 85 (.slice none 0 0)
  have hB0 : Below w.heap.size w (w.alloc (.cells #[.slice none 0 0] 85)) := (Below.refl _ w).alloc (Nat.le_refl _) _
  have hBs1 := (hB0.cell (p := ⟨Bs, 0, none⟩) hBs0).trans hBs
  have hBn1 := (hB0.cell (p := ⟨Bn, 0, none⟩) hBn0).trans hBn
  refine callsIn_of_wp_marks Try.func124 rfl h81 ?_ hro
  simp only [Try.ntmps124, List.size_toArray, List.length_cons, List.length_nil, Nat.reduceAdd, Nat.reduceSub, Array.replicate_succ, Array.replicate_zero, List.push_toArray, List.append_toArray, List.nil_append, List.cons_append]
  gi_wp2
  refine wpIn_rangeFunc_ownG hro h1 (gf := 125) (lb := #[.pointer (some ⟨Bs, 0, none⟩), .pointer (some ⟨Bn, 0, none⟩)]) rfl h82 (enters_of Try.func125 (by kernel_rfl) rfl)
    (chunk_stops F (n - 1) h82 hro (by omega) Bs Bn w.heap.size hb ho L cap C R hC hL hcap hs hho _ hBs0 hBn0 (by simp) hBs1 hBn1) belowK_t (belowK_b (by simp)) (Below.refl _ _) (fun _ => rfl)
    (fun pre W => (∃ v, Boxed W w.heap.size 85 v ∧ W.ownsRow w.heap.size 22 1 v pre.length (pre.map (rowV hb ho C)) ∧ (v = .slice none 0 0 ↔ pre = [])) ∧ Below w.heap.size w W)
    (fun _ _ _ => False)
    (OwnFrom.and (Own.from (holdsRow_own w.heap.size w.heap.size 85 22 1 (fun pre => pre.length) (fun pre => pre.map (rowV hb ho C)) (fun pre v => v = .slice none 0 0 ↔ pre = [])) _) (ownFrom_below (Nat.le_refl _) (by simp)))
    (fun _ _ _ _ _ hs _ _ => hs)
    ⟨⟨_, bO, World.ownsRow_nil _ _ _ _, by simp⟩, hB0⟩
    (fun x => { tmps := #[.slice none 0 0, .func (.func 125) #[] #[.pointer (some ⟨Bs, 0, none⟩), .pointer (some ⟨Bn, 0, none⟩)], .pointer (some ⟨w.heap.size, 0, none⟩), undef, .slice none 0 0, rowV hb ho C x, .func (.func 125) #[] #[.pointer (some ⟨Bs, 0, none⟩), .pointer (some ⟨Bn, 0, none⟩)], rowV hb ho C x, undef, undef, undef, undef, undef], defers := [] }) ?assign ?body ?done ?stop
  case assign =>
    intro l x W K hK
    gi_wp2
    exact hK
  case body =>
    rintro l pre x W ⟨⟨v, hv, hrow, hnil⟩, hB⟩ hlt
    have hc := hv.cell
    have hRm : R ≤ maxLen := by unfold maxLen; omega
    have hRb : R * 24 ≤ 140737488355328 := by omega
    have hrx : rowV hb ho C x = .slice (some ⟨hb, ho + x * C, none⟩) C C := rfl
    rw [hrx]
    obtain ⟨o, ho2⟩ : ∃ o, ho + x * C = o := ⟨_, rfl⟩
    rw [ho2] at hrx ⊢
    gi_wp2_with (gi_at_builtin; refine wpListIn_append_own _ rfl _ _ 85 rfl w.heap.size 22 i0 (.slice none 0 0) 1 24 Try.underlying85 hi hz0 hz1 hz2 rfl (by decide) _ _ _ rfl (hrow.alloc _) ⟨W.heap.size, 0, none⟩ 1 1 [.slice (some ⟨hb, o, none⟩) C C] rfl rfl (cell_one_new _ _ _) (by simp [Value.oneCell']) (by omega) (by omega) (by have := hB.size; simp; omega) ?_; intro v' w1 hown' hgrow _; obtain ⟨g', cap', rfl⟩ := ownsRow_succ hown'; obtain ⟨hv1, hv2, hr2, hk2, hb2⟩ := hv.appended (by decide) hrow hB.size (Nat.le_refl _) hown' hgrow; have hc1 := hv1.cell; have hf1 := hv1.frozen)
    exact ⟨hk2.from _, hb2, ⟨_, hv2, by rw [List.map_append, List.map_cons, List.map_nil, hrx, List.length_append]; exact hr2, by simp⟩, hB.trans hb2⟩
  case done =>
    rintro D ys W hD rfl ⟨⟨v, hv, hrow, hnil⟩, hB⟩ hK
    have hc := hv.cell
    gi_wp2
    refine ⟨by simp, .inl ⟨_, _, rfl, run_takeDeferred hK, ?_⟩⟩
    exact ⟨_, results_tmp rfl _ _ _, v, rfl, ownsRow_putObj (by simpa using hrow) _ hK rfl, hB.trans (belowK_b (w := w) (Nat.le_refl _) W D _ _ (by simp at hD; omega) hK rfl rfl)⟩
  case stop =>
    rintro D c pre W _ _ h _
    exact h.elim
end Go.Proofs.Ytaldmdammipfjaa
