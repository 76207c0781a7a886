/-
  Steps of drift one after the other (chapter 6), by the model. No condition of its own.
-/
import Derived.Test.YtmidihmbehaegaaDoorFdT
namespace Go.Proofs.YtmidihmbehaegaaDoor
open Go.RowKit Go.Shelf Go.Deep
set_option linter.unusedVariables false
set_option maxRecDepth 100000

theorem l06Wind_any (x : Int) (w : World) : Calls Tryd.prog 32 #[.int .i64 x] w fun e w' => e = .returned (.bool (Fw.okD x)) ∧ w = w' := by
  go_enter Tryd.func32, Tryd.ntmps32
  go_wp2_with (go_at_call 44; refine (l00In_any _ _ _ _).mono ?_; rintro e w' ⟨rfl, rfl⟩)
  go_ret
  exact ⟨rfl, rfl⟩
theorem l06Share_any (x : Int) (w : World) : Calls Tryd.prog 33 #[.int .i64 x] w fun e w' => e = .returned (.bool (Fw.okS x)) ∧ w = w' := by
  go_enter Tryd.func33, Tryd.ntmps33
  go_wp2_with (go_at_call 44; refine (l00In_any _ _ _ _).mono ?_; rintro e w' ⟨rfl, rfl⟩)
  go_ret
  exact ⟨rfl, rfl⟩
theorem okD_iff (d : Int) : Fw.okD d = true ↔ 0 ≤ d ∧ d ≤ 3 := by unfold Fw.okD Ar.inB; simp
theorem okS_iff (s : Int) : Fw.okS s = true ↔ 0 ≤ s ∧ s ≤ 1000 := by unfold Fw.okS Ar.inB; simp
theorem okDs_all {ds : List Int} (h : Fw.okDs ds = true) : ds.length ≤ 24 ∧ ∀ d ∈ ds, Fw.okD d = true := by
  unfold Fw.okDs at h; simp only [Bool.and_eq_true, decide_eq_true_eq, List.all_eq_true] at h; exact h
theorem okDs_long {ds : List Int} (h : ¬ ds.length ≤ 24) : Fw.okDs ds = false := by unfold Fw.okDs; rw [decide_eq_false h]; rfl
theorem okDs_no {ds : List Int} {k : Nat} (hk : k < ds.length) (h : Fw.okD ds[k] = false) : Fw.okDs ds = false := by
  unfold Fw.okDs
  rw [Bool.and_eq_false_iff]; right
  rw [List.all_eq_false]; exact ⟨ds[k], List.getElem_mem hk, by rw [h]; decide⟩
theorem okDs_yes {ds : List Int} (h : ds.length ≤ 24) (h2 : ∀ k (hk : k < ds.length), Fw.okD ds[k] = true) : Fw.okDs ds = true := by
  unfold Fw.okDs
  rw [Bool.and_eq_true, decide_eq_true_eq, List.all_eq_true]
  refine ⟨h, fun d hd => ?_⟩
  obtain ⟨k, hk, rfl⟩ := List.getElem_of_mem hd
  exact h2 k hk
theorem and_ff {b : Bool} (a : Bool) (h : b = false) : (a && b) = false := by rw [h]; simp
theorem and_ft {a : Bool} (b : Bool) (h : a = false) : (a && b) = false := by rw [h]; rfl
theorem run_drop_t {r c s : Int} {ys ds : List Int} {k : Nat} (h : k < ds.length) (h2 : Fw.okMs (Fw.st r c ds[k] s ys) = true) : Fw.run r c s ys (ds.drop k) = Fw.run r c s (Fw.st r c ds[k] s ys) (ds.drop (k + 1)) := by
  rw [List.drop_eq_getElem_cons h, Fw.run_cons_t h2]
theorem run_drop_f {r c s : Int} {ys ds : List Int} {k : Nat} (h : k < ds.length) (h2 : Fw.okMs (Fw.st r c ds[k] s ys) = false) : Fw.run r c s ys (ds.drop k) = none := by
  rw [List.drop_eq_getElem_cons h, Fw.run_cons_f h2]
/-- one direction alone -/
theorem run_one {r c s d : Int} {zs : List Int} : Fw.run r c s zs [d] = if Fw.okMs (Fw.st r c d s zs) = true then some (Fw.st r c d s zs) else none := rfl
end Go.Proofs.YtmidihmbehaegaaDoor
