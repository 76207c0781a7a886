/-
  The laws' own helpers on layers and slices of layers, and when layers and profiles are valid. No condition of its own.
-/
import Derived.Test.YtaldmdammipfjaaDoorLays
import Derived.Test.YtaldmdammipfjaaDoorUnits
import Derived.Deep.QuietTactic
import Derived.BigQuiet
namespace Go.Proofs.YtaldmdammipfjaaDoor
open Go.RowKit
set_option linter.unusedVariables false
set_option maxRecDepth 100000

set_option maxHeartbeats 1600000 in
theorem toLayer_any (x : Lay) (w : World) :
    Calls Tryd.prog 63 #[.agg #[.int .i64 x.fo, .int .i64 x.ic, .int .i64 x.wa, .int .i64 x.de, .int .i64 x.dg, .int .i64 x.ha, .int .i64 x.ag]] w fun e w' => e = .returned (.agg #[.int .i64 x.fo, .int .i64 x.ic, .int .i64 x.wa, .int .i64 x.de, .int .i64 x.dg, .int .i64 x.ha, .int .i64 x.ag]) ∧ Below w.heap.size w w' := by
  go_enter Tryd.func63, Tryd.ntmps63
  go_wp2
  exact bodyPost_ret (v := .agg #[.int .i64 x.fo, .int .i64 x.ic, .int .i64 x.wa, .int .i64 x.de, .int .i64 x.dg, .int .i64 x.ha, .int .i64 x.ag]) (by simp [results, Tryd.results63, go_sem]) rfl ⟨rfl, (((Below.refl _ _).alloc (Nat.le_refl _) _).alloc (by simp) _).alloc (by simp; omega) _⟩
set_option maxHeartbeats 1600000 in
theorem eqLayer_any (x y : Lay) (w : World) :
    Calls Tryd.prog 67 #[.agg #[.int .i64 x.fo, .int .i64 x.ic, .int .i64 x.wa, .int .i64 x.de, .int .i64 x.dg, .int .i64 x.ha, .int .i64 x.ag], .agg #[.int .i64 y.fo, .int .i64 y.ic, .int .i64 y.wa, .int .i64 y.de, .int .i64 y.dg, .int .i64 y.ha, .int .i64 y.ag]] w fun e w' => e = .returned (.bool (La.eqL x y)) ∧ Below w.heap.size w w' := by
  go_enter Tryd.func67, Tryd.ntmps67
  go_wp2
  all_goals
    go_ret
    refine ⟨ret_bool ?_, ((Below.refl _ _).alloc (Nat.le_refl _) _).alloc (by simp) _⟩
    first
      | exact (La.eqL_0 (by assumption)).symm
      | exact (La.eqL_1 (by assumption)).symm
      | exact (La.eqL_2 (by assumption)).symm
      | exact (La.eqL_3 (by assumption)).symm
      | exact (La.eqL_4 (by assumption)).symm
      | exact (La.eqL_5 (by assumption)).symm
      | exact (La.eqL_6 (by assumption)).symm
      | exact (La.eqL_t (by assumption) (by assumption) (by assumption) (by assumption) (by assumption) (by assumption) (by assumption)).symm
set_option maxHeartbeats 1600000 in
theorem l03One_any (x : Lay) (b o : Nat) (w : World) (h : LCells w b o x) :
    Calls Tryd.prog 130 #[.pointer (some ⟨b, o, none⟩)] w fun e w' => e = .returned (.bool (La.okL x)) ∧ w = w' := by
  obtain ⟨c0, c1, c2, c3, c4, c5, c6⟩ := h
  go_enter Tryd.func130, Tryd.ntmps130
  go_wp2_with (go_at_call 88; refine (l00In_any _ _ _ _).mono ?_; rintro e w' ⟨rfl, rfl⟩)
  all_goals
    go_ret
    refine ⟨ret_bool ?_, rfl⟩
    first
      | exact (La.okL_0 (La.nt (by assumption))).symm
      | exact (La.okL_1 (La.nt (by assumption))).symm
      | exact (La.okL_2 (La.nt (by assumption))).symm
      | exact (La.okL_3 (La.nt (by assumption))).symm
      | exact (La.okL_4 (La.nt (by assumption))).symm
      | exact (La.okL_5 (La.nt (by assumption))).symm
      | exact (La.okL_6 (La.nt (by assumption))).symm
      | exact (La.okL_3 (La.nb (by assumption))).symm
      | exact (La.okL_t (by assumption) (by assumption) (by assumption) (by assumption) (by assumption) (by assumption)).symm
      | exact (La.okL_t (by assumption) (by assumption) (by assumption) (La.nb' (by assumption)) (by assumption) (by assumption)).symm
set_option maxHeartbeats 1600000 in
theorem implValidLayer_any (x : Lay) (w : World) :
    Calls Tryd.prog 137 #[.agg #[.int .i64 x.fo, .int .i64 x.ic, .int .i64 x.wa, .int .i64 x.de, .int .i64 x.dg, .int .i64 x.ha, .int .i64 x.ag]] w fun e w' => e = .returned (.bool (La.okL x)) ∧ Below w.heap.size w w' := by
  go_enter Tryd.func137, Tryd.ntmps137
  go_wp2_with (go_at_call 79; refine (within_any _ _ _ _).mono ?_; rintro e w' ⟨rfl, rfl⟩)
  all_goals
    go_ret
    refine ⟨ret_bool ?_, (Below.refl _ _).alloc (Nat.le_refl _) _⟩
    first
      | exact (La.okL_0 (La.nt (by assumption))).symm
      | exact (La.okL_1 (La.nt (by assumption))).symm
      | exact (La.okL_2 (La.nt (by assumption))).symm
      | exact (La.okL_3 (La.nt (by assumption))).symm
      | exact (La.okL_4 (La.nt (by assumption))).symm
      | exact (La.okL_5 (La.nt (by assumption))).symm
      | exact (La.okL_6 (La.nt (by assumption))).symm
      | exact (La.okL_3 (La.nb (by assumption))).symm
      | exact (La.okL_t (by assumption) (by assumption) (by assumption) (by assumption) (by assumption) (by assumption)).symm
      | exact (La.okL_t (by assumption) (by assumption) (by assumption) (La.nb' (by assumption)) (by assumption) (by assumption)).symm
set_option maxHeartbeats 1600000 in
theorem toLayerS_any (w : World) (v : Value) (xs : List Lay) (hv : LSl w v xs) (hl : xs.length ≤ 1048576) :
    Calls Tryd.prog 35 #[v] w fun e w' => ∃ u, e = .returned u ∧ LOwn w.heap.size w' u xs ∧ Below w.heap.size w w' := by
  obtain ⟨i0, hi, hz0, hz1, hz2⟩ := info_parts info_layer
  obtain ⟨a, cap, rfl⟩ := hv.form
  have HV := Lib.hid hv
  clear hv
  go_enter Tryd.func35, Tryd.ntmps35
  go_wp2_with (at_make; refine wpList_make_full _ rfl _ _ 60 rfl w.heap.size 96 i0 _ 7 Tryd.underlying60 hi hz0 hz1 .i64 .i64 _ _ xs.length rfl rfl rfl rfl ?c1 ?c2 ?c3 ?_)
  case c1 => rw [hz2]; omega
  case c2 => unfold maxLen; omega
  case c3 => exact Nat.le_refl _
  intro w1 hown hg
  have hbel : Below w.heap.size w w1 := (Below.refl _ w).grown hg (Nat.le_refl _) (fun k hk => by cases hk)
  have HO : Hid (∃ ys : List Value, w1.ownsRow w.heap.size 96 7 (.slice (some ⟨w.heap.size, 0, none⟩) xs.length xs.length) xs.length ys ∧ ys.take (7 * 0) = iv (La.fl (xs.take 0))) := Lib.hid ⟨_, hown, by simp [iv, La.fl]⟩
  have HB := Lib.hid hbel
  clear hown hg hbel
  go_wp2
  go_loopw [4] (fun i wr => ∃ k : Nat, k ≤ xs.length ∧ i = .int .i64 k ∧ Hid (Below w.heap.size w wr) ∧ Hid (∃ ys : List Value, wr.ownsRow w.heap.size 96 7 (.slice (some ⟨w.heap.size, 0, none⟩) xs.length xs.length) xs.length ys ∧ ys.take (7 * k) = iv (La.fl (xs.take k)))) (fun i _ => xs.length - (intOf i).toNat)
  case atStart => exact ⟨0, Nat.zero_le _, rfl, HB, HO⟩
  case round =>
    obtain ⟨k, hk, rfl, hb, hx⟩ := hrel
    by_cases hlt : k < xs.length
    · obtain ⟨ys, hown, htk⟩ := hx.out
      obtain ⟨b, off, cap', hn, hbl, hc⟩ := HV.out.at_ hlt
      simp only [Value.slice.injEq] at hn
      obtain ⟨rfl, -, rfl⟩ := hn
      have hc' := (hc k hlt).below hb.out hbl
      obtain ⟨c0, c1, c2, c3, c4, c5, c6⟩ := hc'
      clear hc
      go_wp2_with fail
      refine (toLayer_any xs[k] _).mono ?_
      rintro e w2 ⟨rfl, b2⟩
      have hown2 := own_belowAll hown b2
      have hb2 := Lib.hid (hb.out.trans (b2.mono hb.out.size))
      have hyl := hown2.1
      have N : Hid (∃ zs : List Value, (lset w2 w.heap.size k xs[k]).ownsRow w.heap.size 96 7 (.slice (some ⟨w.heap.size, 0, none⟩) xs.length xs.length) xs.length zs ∧ zs.take (7 * (k + 1)) = iv (La.fl (xs.take (k + 1)))) := Lib.hid (own_lset hown2 htk hlt hlt)
      have NB : Hid (Below w.heap.size w (lset w2 w.heap.size k xs[k])) := Lib.hid (below_setCells (Nat.le_refl _) _ _ hb2.out)
      have g : ∀ j, j < 7 → ∃ u, w2.cell? ⟨w.heap.size, k * 7 + j, none⟩ = some u := fun j hj => ⟨_, (hown2.cellAt (k * 7 + j) (by omega)).trans (List.getElem?_eq_getElem (by omega))⟩
      obtain ⟨y0, d0⟩ := g 0 (by omega)
      obtain ⟨y1, d1⟩ := g 1 (by omega)
      obtain ⟨y2, d2⟩ := g 2 (by omega)
      obtain ⟨y3, d3⟩ := g 3 (by omega)
      obtain ⟨y4, d4⟩ := g 4 (by omega)
      obtain ⟨y5, d5⟩ := g 5 (by omega)
      obtain ⟨y6, d6⟩ := g 6 (by omega)
      rw [Nat.add_zero] at d0
      have f0 := hown2.frozenAt (k * 7)
      have f1 := hown2.frozenAt (k * 7 + 1)
      have f2 := hown2.frozenAt (k * 7 + 2)
      have f3 := hown2.frozenAt (k * 7 + 3)
      have f4 := hown2.frozenAt (k * 7 + 4)
      have f5 := hown2.frozenAt (k * 7 + 5)
      have f6 := hown2.frozenAt (k * 7 + 6)
      clear g hx hown htk hb hown2 c0 c1 c2 c3 c4 c5 c6 b2 hyl
      go_wp2_with fail
      exact ⟨⟨k + 1, by omega, by go_num, NB, N⟩, by simp only [intOf]; omega⟩
    · have hkz : k = xs.length := by omega
      subst hkz
      go_wp2
      go_ret
      refine ⟨_, rfl, ?_, hb.out⟩
      obtain ⟨ys, hown, htk⟩ := hx.out
      have : ys = iv (La.fl xs) := by
        have h1 := hown.1
        rw [List.take_of_length_le (by omega), List.take_length] at htk
        exact htk
      rw [this] at hown
      exact hown
end Go.Proofs.YtaldmdammipfjaaDoor
