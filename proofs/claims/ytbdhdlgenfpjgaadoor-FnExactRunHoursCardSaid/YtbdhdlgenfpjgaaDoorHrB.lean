/-
  A layer that gets heat, loses heat, drains: the program's methods. No condition of its own.
-/
import Derived.Test.YtbdhdlgenfpjgaaDoorHrA
import Derived.Deep.RegionHeld3
import Derived.RegionTactic
namespace Go.Proofs.YtbdhdlgenfpjgaaDoor
open Go.RowKit Go.Shelf
set_option linter.unusedVariables false
set_option maxRecDepth 100000

theorem bAl {w0 w : World} (h : Below w0.heap.size w0 w) (o : Obj) : Below w0.heap.size w0 (w.alloc o) := h.alloc h.size o
theorem bDr {w0 w : World} (h : Below w0.heap.size w0 w) : Below w0.heap.size w0 w.drew := bt h (below_drewW _ 1)
/-- a new block with a layer in it -/
def bxo (x : Lay) : Obj := .cells #[.int .i64 x.fo, .int .i64 x.ic, .int .i64 x.wa, .int .i64 x.de, .int .i64 x.dg, .int .i64 x.ha, .int .i64 x.ag] 42
set_option maxHeartbeats 800000 in
theorem degreesOf_ex (x : Lay) (h : Int) (w : World) (i1 : 1 ≤ x.ic) (i2 : x.ic ≤ 1000000) (h0 : 0 ≤ h) (h1 : h ≤ 100000000) :
    Calls Tryd.prog 57 #[.agg #[.int .i64 x.fo, .int .i64 x.ic, .int .i64 x.wa, .int .i64 x.de, .int .i64 x.dg, .int .i64 x.ha, .int .i64 x.ag], .int .i64 h] w fun e w' => e = .returned (.int .i64 (La.deg x h)) ∧ w' = w.alloc (bxo x) := by
  have hz : (21 * x.ic == 0) = false := by rw [beq_eq_false_iff_ne]; omega
  go_enter Tryd.func57, Tryd.ntmps57
  go_wp2
  go_ret
  exact ⟨rfl, rfl⟩
set_option maxHeartbeats 800000 in
theorem melted_ex (x : Lay) (n : Int) (w : World) (i1 : 0 ≤ x.ic) (i2 : x.ic ≤ 1000000) (a1 : 0 ≤ x.wa) (a2 : x.wa ≤ 1000000) (h0 : -1000000 ≤ n) (h1 : n ≤ 1000000) :
    Calls Tryd.prog 58 #[.agg #[.int .i64 x.fo, .int .i64 x.ic, .int .i64 x.wa, .int .i64 x.de, .int .i64 x.dg, .int .i64 x.ha, .int .i64 x.ag], .int .i64 n] w fun e w' => e = .returned (.agg #[.int .i64 (⟨x.fo, x.ic - n, x.wa + n, x.de, x.dg, x.ha, x.ag⟩ : Lay).fo, .int .i64 (⟨x.fo, x.ic - n, x.wa + n, x.de, x.dg, x.ha, x.ag⟩ : Lay).ic, .int .i64 (⟨x.fo, x.ic - n, x.wa + n, x.de, x.dg, x.ha, x.ag⟩ : Lay).wa, .int .i64 (⟨x.fo, x.ic - n, x.wa + n, x.de, x.dg, x.ha, x.ag⟩ : Lay).de, .int .i64 (⟨x.fo, x.ic - n, x.wa + n, x.de, x.dg, x.ha, x.ag⟩ : Lay).dg, .int .i64 (⟨x.fo, x.ic - n, x.wa + n, x.de, x.dg, x.ha, x.ag⟩ : Lay).ha, .int .i64 (⟨x.fo, x.ic - n, x.wa + n, x.de, x.dg, x.ha, x.ag⟩ : Lay).ag]) ∧ w' = (w.alloc (bxo ⟨x.fo, x.ic - n, x.wa + n, x.de, x.dg, x.ha, x.ag⟩)).alloc (bxo ⟨x.fo, x.ic - n, x.wa + n, x.de, x.dg, x.ha, x.ag⟩) := by
  go_enter Tryd.func58, Tryd.ntmps58
  go_wp2
  exact bodyPost_ret (v := .agg #[.int .i64 (⟨x.fo, x.ic - n, x.wa + n, x.de, x.dg, x.ha, x.ag⟩ : Lay).fo, .int .i64 (⟨x.fo, x.ic - n, x.wa + n, x.de, x.dg, x.ha, x.ag⟩ : Lay).ic, .int .i64 (⟨x.fo, x.ic - n, x.wa + n, x.de, x.dg, x.ha, x.ag⟩ : Lay).wa, .int .i64 (⟨x.fo, x.ic - n, x.wa + n, x.de, x.dg, x.ha, x.ag⟩ : Lay).de, .int .i64 (⟨x.fo, x.ic - n, x.wa + n, x.de, x.dg, x.ha, x.ag⟩ : Lay).dg, .int .i64 (⟨x.fo, x.ic - n, x.wa + n, x.de, x.dg, x.ha, x.ag⟩ : Lay).ha, .int .i64 (⟨x.fo, x.ic - n, x.wa + n, x.de, x.dg, x.ha, x.ag⟩ : Lay).ag]) (by simp [results, Tryd.results58, go_sem]) rfl ⟨rfl, rfl⟩
set_option maxHeartbeats 1600000 in
theorem drained_any (x : Lay) (f : Int) (w : World) (hf : La.Fits x) (h0 : 0 ≤ f) (h1 : f ≤ 100000000) :
    Calls Tryd.prog 44 #[.agg #[.int .i64 x.fo, .int .i64 x.ic, .int .i64 x.wa, .int .i64 x.de, .int .i64 x.dg, .int .i64 x.ha, .int .i64 x.ag], .int .i64 f] w fun e w' => e = .returned (.tuple #[.agg #[.int .i64 (La.drn x f).1.fo, .int .i64 (La.drn x f).1.ic, .int .i64 (La.drn x f).1.wa, .int .i64 (La.drn x f).1.de, .int .i64 (La.drn x f).1.dg, .int .i64 (La.drn x f).1.ha, .int .i64 (La.drn x f).1.ag], .int .i64 (La.drn x f).2.1, .bool (La.drn x f).2.2]) ∧ Below w.heap.size w w' := by
  have i1 := hf.i1; have i2 := hf.i2; have a1 := hf.w1; have a2 := hf.w2
  have hr : La.drn x f = (⟨x.fo, x.ic, min (x.wa + f) (x.ic * 60 / 1000), x.de, x.dg, x.ha, x.ag⟩, x.wa + f - min (x.wa + f) (x.ic * 60 / 1000), true) := rfl
  rw [hr]
  clear hf hr
  go_enter Tryd.func44, Tryd.ntmps44
  go_wp2
  all_goals (
    go_region
    go_wp2
    exact bodyPost_ret (v := .tuple #[.agg #[.int .i64 (⟨x.fo, x.ic, min (x.wa + f) (x.ic * 60 / 1000), x.de, x.dg, x.ha, x.ag⟩ : Lay).fo, .int .i64 (⟨x.fo, x.ic, min (x.wa + f) (x.ic * 60 / 1000), x.de, x.dg, x.ha, x.ag⟩ : Lay).ic, .int .i64 (⟨x.fo, x.ic, min (x.wa + f) (x.ic * 60 / 1000), x.de, x.dg, x.ha, x.ag⟩ : Lay).wa, .int .i64 (⟨x.fo, x.ic, min (x.wa + f) (x.ic * 60 / 1000), x.de, x.dg, x.ha, x.ag⟩ : Lay).de, .int .i64 (⟨x.fo, x.ic, min (x.wa + f) (x.ic * 60 / 1000), x.de, x.dg, x.ha, x.ag⟩ : Lay).dg, .int .i64 (⟨x.fo, x.ic, min (x.wa + f) (x.ic * 60 / 1000), x.de, x.dg, x.ha, x.ag⟩ : Lay).ha, .int .i64 (⟨x.fo, x.ic, min (x.wa + f) (x.ic * 60 / 1000), x.de, x.dg, x.ha, x.ag⟩ : Lay).ag], .int .i64 (x.wa + f - min (x.wa + f) (x.ic * 60 / 1000)), .bool true]) (by simp [results, Tryd.results44, go_sem] <;> omega) rfl ⟨rfl, bt (((Below.refl _ _).alloc (Nat.le_refl _) _).alloc (by simp) _) (below_drewW _ 1)⟩)
set_option maxHeartbeats 800000 in
theorem heatOf_ex (x : Lay) (d : Int) (w : World) (p1 : 0 ≤ x.ic * 21 * d) (p2 : x.ic * 21 * d ≤ 1000000000000000) (i1 : 1 ≤ x.ic) (i2 : x.ic ≤ 1000000) :
    Calls Tryd.prog 59 #[.agg #[.int .i64 x.fo, .int .i64 x.ic, .int .i64 x.wa, .int .i64 x.de, .int .i64 x.dg, .int .i64 x.ha, .int .i64 x.ag], .int .i64 d] w fun e w' => e = .returned (.int .i64 ((x.ic * 21 * d + 1000 - 1) / 1000)) ∧ w' = w.alloc (bxo x) := by
  have C := fun W => Lib.hid (quotientUp_any (x.ic * 21 * d) 1000 W p1 p2 (by omega) (by omega))
  go_enter Tryd.func59, Tryd.ntmps59
  go_wp2_with fail
  refine (C _).out.mono ?_
  rintro e w1 ⟨rfl, rfl⟩
  go_wp2_with fail
  go_ret
  exact ⟨rfl, rfl⟩
set_option maxHeartbeats 800000 in
theorem cold_ex (x : Lay) (w : World) (hf : La.Fits x) :
    Calls Tryd.prog 56 #[.agg #[.int .i64 x.fo, .int .i64 x.ic, .int .i64 x.wa, .int .i64 x.de, .int .i64 x.dg, .int .i64 x.ha, .int .i64 x.ag]] w fun e w' => e = .returned (.int .i64 (La.cold x)) ∧ w' = (w.alloc (bxo x)).alloc (bxo x) := by
  have i1 := hf.i1
  have i2 := hf.i2
  have d1 := hf.g1
  have d2 := hf.g2
  obtain ⟨e1, e2⟩ := La.cold_in hf
  have e3 : x.ic * 21 * -x.dg = x.ic * -x.dg * 21 := by rw [Int.mul_assoc, Int.mul_comm 21, ← Int.mul_assoc]
  have p1 : 0 ≤ x.ic * 21 * -x.dg := by omega
  have p2 : x.ic * 21 * -x.dg ≤ 1000000000000000 := by omega
  have hd := Lib.hid (cold_impl x)
  have C := fun W => Lib.hid (heatOf_ex x (-x.dg) W p1 p2 i1 i2)
  clear hf e1 e2 e3
  go_enter Tryd.func56, Tryd.ntmps56
  go_wp2_with fail
  refine (C _).out.mono ?_
  rintro e w1 ⟨rfl, rfl⟩
  go_wp2_with fail
  go_ret
  exact ⟨ret_int hd.out, rfl⟩
theorem wrm_f {x : Lay} {h : Int} (c : h < La.cold x) : La.wrm x h = (⟨x.fo, x.ic, x.wa, x.de, x.dg + La.deg x h, x.ha, x.ag⟩, 0, false) := by unfold La.wrm; rw [if_pos c]
theorem wrm_t {x : Lay} {h l n : Int} (c : ¬ h < La.cold x) (hl : l = h - La.cold x) (hn : n = min (l / 334) (min (x.ic - 1) (1000000 - x.wa))) :
    La.wrm x h = (⟨x.fo, x.ic - n, x.wa + n, x.de, 0, x.ha, x.ag⟩, l - n * 334, decide (334 ≤ l - n * 334)) := by unfold La.wrm; rw [if_neg c, hn, hl]
set_option maxHeartbeats 1600000 in
theorem warmed_any (x : Lay) (h : Int) (w : World) (hf : La.Fits x) (h0 : 0 ≤ h) (h1 : h ≤ 100000000) :
    Calls Tryd.prog 42 #[.agg #[.int .i64 x.fo, .int .i64 x.ic, .int .i64 x.wa, .int .i64 x.de, .int .i64 x.dg, .int .i64 x.ha, .int .i64 x.ag], .int .i64 h] w fun e w' => e = .returned (.tuple #[.agg #[.int .i64 (La.wrm x h).1.fo, .int .i64 (La.wrm x h).1.ic, .int .i64 (La.wrm x h).1.wa, .int .i64 (La.wrm x h).1.de, .int .i64 (La.wrm x h).1.dg, .int .i64 (La.wrm x h).1.ha, .int .i64 (La.wrm x h).1.ag], .int .i64 (La.wrm x h).2.1, .bool (La.wrm x h).2.2]) ∧ Below w.heap.size w w' := by
  have i1 := hf.i1; have i2 := hf.i2; have a1 := hf.w1; have a2 := hf.w2; have g1 := hf.g1; have g2 := hf.g2
  obtain ⟨k1, k2⟩ := La.cold_bd hf
  by_cases hc : h < La.cold x
  · rw [wrm_f hc]
    obtain ⟨d1, d2⟩ := La.deg_bd hf h0
    have d3 := La.deg_cold hf h0 hc
    have CC := fun W => Lib.hid (cold_ex x W hf)
    have CD := fun W => Lib.hid (degreesOf_ex x h W i1 i2 h0 h1)
    clear hf
    unfold bxo at CC CD
    generalize La.cold x = c at *
    generalize La.deg x h = d at *
    have nw : IntKind.i64.wrap (x.dg + d) = x.dg + d := IntWalk.i64_in _ (by omega)
    go_enter Tryd.func42, Tryd.ntmps42
    go_wp2_with fail
    refine (CC _).out.mono ?_
    rintro e w1 ⟨rfl, rfl⟩
    go_wp2_with fail
    go_region_with (go_at_call 57; refine (CD _).out.mono ?_; rintro e w1 ⟨rfl, rfl⟩)
    all_goals (
      go_wp2_with fail
      exact bodyPost_ret (v := .tuple #[.agg #[.int .i64 (⟨x.fo, x.ic, x.wa, x.de, x.dg + d, x.ha, x.ag⟩ : Lay).fo, .int .i64 (⟨x.fo, x.ic, x.wa, x.de, x.dg + d, x.ha, x.ag⟩ : Lay).ic, .int .i64 (⟨x.fo, x.ic, x.wa, x.de, x.dg + d, x.ha, x.ag⟩ : Lay).wa, .int .i64 (⟨x.fo, x.ic, x.wa, x.de, x.dg + d, x.ha, x.ag⟩ : Lay).de, .int .i64 (⟨x.fo, x.ic, x.wa, x.de, x.dg + d, x.ha, x.ag⟩ : Lay).dg, .int .i64 (⟨x.fo, x.ic, x.wa, x.de, x.dg + d, x.ha, x.ag⟩ : Lay).ha, .int .i64 (⟨x.fo, x.ic, x.wa, x.de, x.dg + d, x.ha, x.ag⟩ : Lay).ag], .int .i64 0, .bool false]) (by simp [results, Tryd.results42, go_sem]) rfl ⟨rfl, by repeat (first | exact Below.refl _ _ | refine bAl ?_ _ | refine bDr ?_)⟩)
  · obtain ⟨l, hl⟩ : ∃ l, l = h - La.cold x := ⟨_, rfl⟩
    obtain ⟨n, hn⟩ : ∃ n, n = min (l / 334) (min (x.ic - 1) (1000000 - x.wa)) := ⟨_, rfl⟩
    have hw := wrm_t hc hl hn
    rw [hw]
    have l0 : 0 ≤ l := by omega
    have l1 : l ≤ 100000000 := by omega
    have n0 : 0 ≤ n := by omega
    have n1 : n ≤ 1000000 := by omega
    have n2 : n * 334 ≤ l := by omega
    have nx : n ≤ x.ic - 1 := by omega
    have ny : n ≤ 1000000 - x.wa := by omega
    have HL := Lib.hid hl
    have HN := Lib.hid hn
    have CC := fun W => Lib.hid (cold_ex x W hf)
    clear hf hl hn hw
    unfold bxo at CC
    generalize La.cold x = c at *
    go_enter Tryd.func42, Tryd.ntmps42
    go_wp2_with fail
    refine (CC _).out.mono ?_
    rintro e w1 ⟨rfl, rfl⟩
    have e1 : h - c = l := HL.out.symm
    go_wp2_with fail
    all_goals (
      refine (melted_ex ⟨x.fo, x.ic, x.wa, x.de, 0, x.ha, x.ag⟩ _ _ (show 0 ≤ x.ic by omega) i2 a1 a2 (by omega) (by omega)).mono ?_
      rintro e w1 ⟨rfl, rfl⟩
      unfold bxo
      go_wp2_with fail
      have hn := HN.out
      exact bodyPost_ret (v := .tuple #[.agg #[.int .i64 (⟨x.fo, x.ic - n, x.wa + n, x.de, 0, x.ha, x.ag⟩ : Lay).fo, .int .i64 (⟨x.fo, x.ic - n, x.wa + n, x.de, 0, x.ha, x.ag⟩ : Lay).ic, .int .i64 (⟨x.fo, x.ic - n, x.wa + n, x.de, 0, x.ha, x.ag⟩ : Lay).wa, .int .i64 (⟨x.fo, x.ic - n, x.wa + n, x.de, 0, x.ha, x.ag⟩ : Lay).de, .int .i64 (⟨x.fo, x.ic - n, x.wa + n, x.de, 0, x.ha, x.ag⟩ : Lay).dg, .int .i64 (⟨x.fo, x.ic - n, x.wa + n, x.de, 0, x.ha, x.ag⟩ : Lay).ha, .int .i64 (⟨x.fo, x.ic - n, x.wa + n, x.de, 0, x.ha, x.ag⟩ : Lay).ag], .int .i64 (l - n * 334), .bool (decide (334 ≤ l - n * 334))]) (by simp [results, Tryd.results42, go_sem] <;> omega) rfl ⟨rfl, by repeat (first | exact Below.refl _ _ | refine bAl ?_ _ | refine bDr ?_)⟩)
end Go.Proofs.YtbdhdlgenfpjgaaDoor
