/-
  LeastStart (chapter 12), by the model and by the program. The condition, of the program's side: the variable errTooGreat holds a sentinel as errors.New makes it.
-/
import Derived.Test.YtobcflcmlejajaaDoorVoJ
import Derived.Test.YtobcflcmlejajaaDoorSrC
import Derived.Test.YtobcflcmlejajaaDoorVoN
namespace Go.Proofs.YtobcflcmlejajaaDoor
open Go.RowKit Go.Shelf
set_option linter.unusedVariables false
set_option maxRecDepth 100000

namespace Vm
noncomputable def lsV (xs : List Pat) (s goal : Int) : Int := Cd.vl (okS xs) (lim goal s) (lst (gp xs s goal) : Int)
theorem ask_vl {xs : List Pat} {s goal : Int} (h : askC xs goal s ≠ 0) : lsV xs s goal = 0 := by
  unfold lsV askC at *
  cases h1 : okS xs <;> cases h2 : lim goal s <;> rw [h1, h2] at h <;> first | rfl | exact absurd rfl h
theorem ls_is {xs : List Pat} {s goal : Int} (h1 : okS xs = true) (h2 : lim goal s = true) {f : Nat} (h : Ls (gp xs s goal) f) : lsV xs s goal = (f : Int) := by
  unfold lsV; rw [h1, h2, Cd.vl_t, lst_of h]
theorem gp_nil {xs : List Pat} {s goal : Int} (hn : xs.length = 0) (hg : 0 ≤ goal) : Ls (gp xs s goal) goal.toNat := by
  refine ⟨?_, fun j hj => ?_⟩
  · unfold gp; rw [hn, ma_0]; exact decide_eq_true (by omega)
  · unfold gp; rw [hn, ma_0]; exact decide_eq_false (by omega)
theorem gp_great {xs : List Pat} {s goal : Int} {j : Nat} (hg : goal ≤ 100000000) (h : fit xs (j : Int) s = false) : gp xs s goal j = true := by
  unfold fit at h; unfold gp
  have := of_decide_eq_false h
  exact decide_eq_true (by omega)
/-- is the goal reached from that beginning (an integer)? -/
def gpI (xs : List Pat) (s goal : Int) (j : Int) : Bool := decide (goal ≤ ma xs j s xs.length)
theorem gpI_nat {xs : List Pat} {s goal j : Int} (h : 0 ≤ j) : gp xs s goal j.toNat = gpI xs s goal j := by unfold gp gpI; rw [Int.toNat_of_nonneg h]
theorem gpI_top {xs : List Pat} {s goal top : Int} (hv : okS xs = true) (s1 : 0 ≤ s) (s2 : s ≤ 1000) (h0 : 0 ≤ top) (hg : goal ≤ top) : gpI xs s goal top = true := by
  unfold gpI
  have := ma_nn (t := top) hv h0 s1 s2 xs.length (Nat.le_refl _)
  exact decide_eq_true (Int.le_trans hg this)
theorem gpI_mono {xs : List Pat} {s goal a b : Int} (h : a ≤ b) (ha : gpI xs s goal a = true) : gpI xs s goal b = true := by
  unfold gpI at *
  rw [decide_eq_true_eq] at *
  exact Int.le_trans ha (ma_mono h xs.length (Nat.le_refl _))
theorem gpI_great {xs : List Pat} {s goal j : Int} (hg : goal ≤ 100000000) (h : fit xs j s = false) : gpI xs s goal j = true := by
  unfold fit at h; unfold gpI
  have := of_decide_eq_false h
  exact decide_eq_true (by omega)
theorem gpI_is {xs : List Pat} {s goal y : Int} (h0 : 0 ≤ y) (h1 : gpI xs s goal y = true) (h2 : ∀ j : Int, 0 ≤ j → j < y → gpI xs s goal j = false) : Ls (gp xs s goal) y.toNat :=
  ⟨by rw [gpI_nat h0]; exact h1, fun j hj => by
    have := h2 (j : Int) (by omega) (by omega)
    rw [← gpI_nat (by omega)] at this
    simpa using this⟩
end Vm
end Go.Proofs.YtobcflcmlejajaaDoor
