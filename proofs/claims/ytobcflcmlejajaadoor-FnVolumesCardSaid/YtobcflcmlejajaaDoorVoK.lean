/-
  SizeClass and JoinTonnes (chapter 12), by the model and by the program. The conditions, of the program's side: the table sizeLimits holds what its text lays, and (JoinTonnes) the variable errTooGreat holds a sentinel as errors.New makes it.
-/
import Derived.Test.YtobcflcmlejajaaDoorVoD
import Derived.Test.YtobcflcmlejajaaDoorSrC
import Derived.Test.YtobcflcmlejajaaDoorIntsM
namespace Go.Proofs.YtobcflcmlejajaaDoor
open Go.RowKit Go.Shelf
set_option linter.unusedVariables false
set_option maxRecDepth 100000

/-- the table of limits, as a world holds it -/
def lims : List Int := [10, 100, 1000, 10000]
def Lm (w : World) : Prop := Lib.TabIs Tryd.prog w "loop.example/g01013/impl.sizeLimits" .i64 lims
theorem gLm : Tryd.prog.globalNamed "loop.example/g01013/impl.sizeLimits" = some 0 := by kernel_rfl
theorem tLm : (Tryd.prog.globals[0]?).map (·.type) = some 67 := by kernel_rfl
theorem cLm : Tryd.prog.cellsOf 67 = 4 := by kernel_rfl
theorem cLm1 : Tryd.prog.cellsOf 2 = 1 := by kernel_rfl
theorem lm_of {l : List (String × DataW Unit)} {w : World} (h : laidMet Tryd.prog l w)
    (hf : (l.filter fun x => x.1 == "loop.example/g01013/impl.sizeLimits") = [("loop.example/g01013/impl.sizeLimits", Lib.tabData .i64 lims)]) : Lm w := by
  have h' := laidMet.filter (fun x => x.1 == "loop.example/g01013/impl.sizeLimits") h
  rw [hf] at h'
  exact Lib.tabIs_of_head (rest := []) gLm tLm Tryd.underlying67 Tryd.underlying2 cLm1 cLm h'
theorem Lm.below {w w1 : World} (h : Lm w) (hb : Below w.heap.size w w1) : Lm w1 := by
  unfold Lm Lib.TabIs at *
  exact var?_below hb gLm (var_ltV gLm h) h
theorem Lm.cell {w : World} (h : Lm w) {i : Nat} (hi : i < 4) : w.cell? ⟨0, i, none⟩ = some (.int .i64 (lims.getD i 0)) := Lib.TabIs.cell h gLm i hi
namespace Vm
def lp (t : Int) (i : Nat) : Bool := decide (t < lims.getD i 0)
theorem lp_mono {t : Int} {a b : Nat} (h : a ≤ b) (hb : b < 4) (ha : lp t a = true) : lp t b = true := by
  unfold lp lims at *
  rw [decide_eq_true_eq] at *
  have ea : a = 0 ∨ a = 1 ∨ a = 2 ∨ a = 3 := by omega
  have eb : b = 0 ∨ b = 1 ∨ b = 2 ∨ b = 3 := by omega
  rcases ea with rfl | rfl | rfl | rfl <;> rcases eb with rfl | rfl | rfl | rfl <;> simp at * <;> omega
theorem cls_lp {t : Int} {f : Nat} (hf : f ≤ 4) (h1 : ∀ a, a < f → lp t a = false) (h2 : ∀ a, f ≤ a → a < 4 → lp t a = true) : (f : Int) + 1 = cls t := by
  have q1 : ∀ a, a < f → lims.getD a 0 ≤ t := fun a h => by have := h1 a h; unfold lp at this; rw [decide_eq_false_iff_not] at this; omega
  have q2 : ∀ a, f ≤ a → a < 4 → t < lims.getD a 0 := fun a h h' => by have := h2 a h h'; unfold lp at this; rw [decide_eq_true_eq] at this; exact this
  unfold cls
  match f, hf with
  | 0, _ => have := q2 0 (by omega) (by omega); simp [lims] at this; rw [if_pos this]; rfl
  | 1, _ => have := q2 1 (by omega) (by omega); have := q1 0 (by omega); simp [lims] at *; rw [if_neg (by omega), if_pos (by omega)]
  | 2, _ => have := q2 2 (by omega) (by omega); have := q1 1 (by omega); simp [lims] at *; rw [if_neg (by omega), if_neg (by omega), if_pos (by omega)]
  | 3, _ => have := q2 3 (by omega) (by omega); have := q1 2 (by omega); simp [lims] at *; rw [if_neg (by omega), if_neg (by omega), if_neg (by omega), if_pos (by omega)]
  | 4, _ => have := q1 3 (by omega); simp [lims] at *; rw [if_neg (by omega), if_neg (by omega), if_neg (by omega), if_neg (by omega)]
theorem sz_t {t : Int} (h : Ar.inB 0 t 100000000 = true) : szV t = cls t ∧ szC t = 0 := by unfold szV szC ton; rw [h]; exact ⟨rfl, rfl⟩
theorem sz_f {t : Int} (h : Ar.inB 0 t 100000000 = false) : szV t = 0 ∧ szC t = 2 := by unfold szV szC ton; rw [h]; exact ⟨rfl, rfl⟩
end Vm
set_option maxHeartbeats 1600000 in
theorem l12Class_any (t : Int) (w : World) :
    Calls Tryd.prog 48 #[.int .i64 t] w fun e w' => e = .returned (.int .i64 (Vm.cls t)) ∧ w = w' := by
  have HC : Hid (∀ (k l : Int), (k = 1 ∧ l = 10 ∨ k = 2 ∧ l = 100 ∧ 10 ≤ t ∨ k = 3 ∧ l = 1000 ∧ 100 ≤ t ∨ k = 4 ∧ l = 10000 ∧ 1000 ≤ t ∨ k = 5 ∧ l = 100000 ∧ 10000 ≤ t) → (l = 100000 ∨ t < l) → k = Vm.cls t) := Lib.hid (by
    intro k l h1 h2
    unfold Vm.cls
    (repeat' split) <;> omega)
  go_enter Tryd.func48, Tryd.ntmps48
  go_wp2
  go_loop [3, 4] (fun c l => ∃ (k y : Int), c = .int .i64 k ∧ l = .int .i64 y ∧ (k = 1 ∧ y = 10 ∨ k = 2 ∧ y = 100 ∧ 10 ≤ t ∨ k = 3 ∧ y = 1000 ∧ 100 ≤ t ∨ k = 4 ∧ y = 10000 ∧ 1000 ≤ t ∨ k = 5 ∧ y = 100000 ∧ 10000 ≤ t)) (fun c _ => 6 - (intOf c).toNat)
  case atStart => exact ⟨1, 10, rfl, rfl, Or.inl ⟨rfl, rfl⟩⟩
  case round =>
    obtain ⟨k, y, rfl, rfl, hk⟩ := hrel
    by_cases hle : y ≤ 10000
    · by_cases hge : y ≤ t
      · have hk' : Hid (k + 1 = 1 ∧ y * 10 = 10 ∨ k + 1 = 2 ∧ y * 10 = 100 ∧ 10 ≤ t ∨ k + 1 = 3 ∧ y * 10 = 1000 ∧ 100 ≤ t ∨ k + 1 = 4 ∧ y * 10 = 10000 ∧ 1000 ≤ t ∨ k + 1 = 5 ∧ y * 10 = 100000 ∧ 10000 ≤ t) := Lib.hid (by omega)
        have k1 : 1 ≤ k ∧ k ≤ 4 := by omega
        have y1 : 10 ≤ y := by omega
        obtain ⟨k1, k2⟩ := k1
        clear hk
        go_wp2
        exact ⟨⟨k + 1, y * 10, rfl, rfl, hk'.out⟩, by simp only [intOf]; omega⟩
      · have hr := Lib.hid (HC.out k y hk (Or.inr (by omega)))
        clear hk HC
        go_wp2
        go_ret
        exact ⟨ret_int hr.out, rfl⟩
    · have hr := Lib.hid (HC.out k y hk (Or.inl (by omega)))
      clear hk HC
      go_wp2
      go_ret
      exact ⟨ret_int hr.out, rfl⟩
set_option maxHeartbeats 800000 in
theorem specSizeClass_any (t : Int) (w : World) :
    Calls Tryd.prog 12 #[.int .i64 t] w fun e w' => e = .returned (.tuple #[.int .i64 (Vm.szV t), .int .i64 (Vm.szC t)]) ∧ w = w' := by
  rcases in_cases 0 t 100000000 with ⟨h1, h2, hi⟩ | ⟨hn, hi⟩
  · rw [(Vm.sz_t hi).1, (Vm.sz_t hi).2]
    go_enter Tryd.func12, Tryd.ntmps12
    go_wp2_with (first | (go_at_call 47; refine (l12Tonnes_any2 _ _).mono ?_; rintro e w' ⟨rfl, rfl⟩) | (go_at_call 48; refine (l12Class_any _ _).mono ?_; rintro e w' ⟨rfl, rfl⟩))
    go_ret2
    exact ⟨rfl, rfl⟩
  · rw [(Vm.sz_f hi).1, (Vm.sz_f hi).2]
    clear hn
    go_enter Tryd.func12, Tryd.ntmps12
    go_wp2_with (go_at_call 47; refine (l12Tonnes_any2 _ _).mono ?_; rintro e w' ⟨rfl, rfl⟩)
    go_ret2
    exact ⟨rfl, rfl⟩
set_option maxHeartbeats 1600000 in
theorem sizeLit_any (t : Int) (i b : Nat) (w : World) (hi : i < 4) (hL : Lm w) (hc : w.cell? ⟨b, 0, none⟩ = some (.int .i64 t)) :
    Calls Tryd.prog 51 #[.int .i64 (i : Int), .pointer (some ⟨b, 0, none⟩)] w fun e w' => e = .returned (.bool (Vm.lp t i)) ∧ Below w.heap.size w w' := by
  have h1 := hL.cell hi
  have hr : Hid (decide (t < lims.getD i 0) = Vm.lp t i) := Lib.hid rfl
  generalize lims.getD i 0 = y at *
  clear hL
  have hiz : (i : Int) < 4 := by omega
  go_enter Tryd.func51, Tryd.ntmps51
  go_wp2_with fail
  go_quiet (fail)
  go_wp2
  go_ret
  exact ⟨ret_bool hr.out, below_drewW _ _⟩
set_option maxHeartbeats 1600000 in
theorem implSizeClass_any (t : Int) (w : World) (hL : Lm w) :
    Calls Tryd.prog 13 #[.int .i64 t] w fun e w' => e = .returned (.tuple #[.int .i64 (Vm.szV t), .int .i64 (Vm.szC t)]) ∧ Below w.heap.size w w' := by
  have B := Lib.hid (boxN_below w t 2)
  have K := Lib.hid (fun W (h : Below (boxN w t 2).heap.size (boxN w t 2) W) => boxN_kept h)
  have S := Lib.hid (searchV_any 51 #[.pointer (some ⟨w.heap.size, 0, none⟩)] (enters_of Tryd.func51 (by kernel_rfl) rfl) 4 (Vm.lp t) (boxN w t 2) (by omega)
    (fun W i hW hi => sizeLit_any t i w.heap.size W hi (hL.below (bt B.out hW)) (K.out W hW)) (fun a b hab hb ha => Vm.lp_mono hab hb ha))
  clear hL
  have e0 := K.out _ (Below.refl _ _)
  unfold boxN at B K S e0
  rcases in_cases 0 t 100000000 with ⟨h1, h2, hi⟩ | ⟨hn, hi⟩
  · rw [(Vm.sz_t hi).1, (Vm.sz_t hi).2]
    go_enter Tryd.func13, Tryd.ntmps13
    go_wp2_with (go_at_call 49; refine (isTonnes_any2 _ _).mono ?_; rintro e w' ⟨rfl, rfl⟩)
    refine S.out.mono ?_
    rintro e w1 ⟨f, hf, rfl, q1, q2, b1⟩
    have B1 := Lib.hid (bt B.out b1)
    have hr := Lib.hid (Vm.cls_lp hf q1 q2)
    clear b1 q1 q2 S K
    go_wp2_with fail
    go_ret2
    exact ⟨ret_ii hr.out rfl, B1.out⟩
  · rw [(Vm.sz_f hi).1, (Vm.sz_f hi).2]
    clear hn S
    go_enter Tryd.func13, Tryd.ntmps13
    go_wp2_with (go_at_call 49; refine (isTonnes_any2 _ _).mono ?_; rintro e w' ⟨rfl, rfl⟩)
    go_ret2
    exact ⟨rfl, B.out⟩
end Go.Proofs.YtobcflcmlejajaaDoor
