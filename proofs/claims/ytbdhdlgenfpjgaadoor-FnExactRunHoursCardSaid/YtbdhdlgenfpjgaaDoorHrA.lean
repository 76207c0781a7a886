/-
  Chapter 5's small parts: codes, least numbers, a layer that settles; by the program and by the model. No condition of its own.
-/
import Derived.Test.YtbdhdlgenfpjgaaDoorSum3
import Derived.Test.YtbdhdlgenfpjgaaDoorHr
namespace Go.Proofs.YtbdhdlgenfpjgaaDoor
open Go.RowKit Go.Shelf
set_option linter.unusedVariables false
set_option maxRecDepth 100000

/-- the code of a call whose arguments are valid or not, and whose numbers are as stated or not -/
def stc (a b : Bool) : Int := if a then (if b then 0 else 2) else 1
set_option maxHeartbeats 400000 in
theorem statedCode_any (a b : Bool) (w : World) : Calls Tryd.prog 34 #[.bool a, .bool b] w fun e w' => e = .returned (.int .i64 (stc a b)) ∧ w = w' := by
  cases a <;> cases b <;> (go_enter Tryd.func34, Tryd.ntmps34; go_wp2; go_ret; exact ⟨rfl, rfl⟩)
set_option maxHeartbeats 400000 in
theorem l00Min_any (a b : Int) (w : World) :
    Calls Tryd.prog 49 #[.int .i64 a, .int .i64 b] w fun e w' => e = .returned (.int .i64 (min a b)) ∧ w = w' := by
  by_cases h : a < b
  · have hr : Hid (min a b = a) := Lib.hid (by omega)
    go_enter Tryd.func49, Tryd.ntmps49
    go_wp2
    go_ret
    exact ⟨ret_int hr.out.symm, rfl⟩
  · have hr : Hid (min a b = b) := Lib.hid (by omega)
    go_enter Tryd.func49, Tryd.ntmps49
    go_wp2
    go_ret
    exact ⟨ret_int hr.out.symm, rfl⟩
set_option maxHeartbeats 400000 in
theorem l00Max_any (a b : Int) (w : World) :
    Calls Tryd.prog 16 #[.int .i64 a, .int .i64 b] w fun e w' => e = .returned (.int .i64 (max a b)) ∧ w = w' := by
  by_cases h : b < a
  · have hr : Hid (max a b = a) := Lib.hid (by omega)
    go_enter Tryd.func16, Tryd.ntmps16
    go_wp2
    go_ret
    exact ⟨ret_int hr.out.symm, rfl⟩
  · have hr : Hid (max a b = b) := Lib.hid (by omega)
    go_enter Tryd.func16, Tryd.ntmps16
    go_wp2
    go_ret
    exact ⟨ret_int hr.out.symm, rfl⟩
theorem l05Joules_any (x : Int) (w : World) :
    Calls Tryd.prog 15 #[.int .i64 x] w fun e w' => e = .returned (.bool (Ar.inB 0 x 100000000)) ∧ w = w' := by
  go_enter Tryd.func15, Tryd.ntmps15
  go_wp2_with (go_at_call 28; refine (l00In_any _ _ _ _).mono ?_; rintro e w' ⟨rfl, rfl⟩)
  go_ret
  exact ⟨rfl, rfl⟩
theorem stl_t {x : Lay} {l : Int} (h : x.de < 550) : La.stl x l = ⟨x.fo, x.ic, x.wa, min 550 (x.de + (550 - x.de) * l / 10000000), x.dg, x.ha, min 10000 (x.ag + 1)⟩ := by unfold La.stl; rw [if_pos h]
theorem stl_f {x : Lay} {l : Int} (h : ¬ x.de < 550) : La.stl x l = ⟨x.fo, x.ic, x.wa, x.de, x.dg, x.ha, min 10000 (x.ag + 1)⟩ := by unfold La.stl; rw [if_neg h]
theorem ret_lay {x y : Lay} (h : x = y) : Ending.returned (.agg #[.int .i64 x.fo, .int .i64 x.ic, .int .i64 x.wa, .int .i64 x.de, .int .i64 x.dg, .int .i64 x.ha, .int .i64 x.ag]) = .returned (.agg #[.int .i64 y.fo, .int .i64 y.ic, .int .i64 y.wa, .int .i64 y.de, .int .i64 y.dg, .int .i64 y.ha, .int .i64 y.ag]) := by rw [h]
set_option maxHeartbeats 1600000 in
theorem settled_any (x : Lay) (l : Int) (w : World) (hf : La.Fits x) (h0 : 0 ≤ l) (h1 : l ≤ 32000000) :
    Calls Tryd.prog 54 #[.agg #[.int .i64 x.fo, .int .i64 x.ic, .int .i64 x.wa, .int .i64 x.de, .int .i64 x.dg, .int .i64 x.ha, .int .i64 x.ag], .int .i64 l] w fun e w' => e = .returned (.agg #[.int .i64 (La.stl x l).fo, .int .i64 (La.stl x l).ic, .int .i64 (La.stl x l).wa, .int .i64 (La.stl x l).de, .int .i64 (La.stl x l).dg, .int .i64 (La.stl x l).ha, .int .i64 (La.stl x l).ag]) ∧ Below w.heap.size w w' := by
  have d1 := hf.d1; have d2 := hf.d2; have a1 := hf.a1; have a2 := hf.a2
  by_cases hd : x.de < 550
  · obtain ⟨p1, p2⟩ := La.stl_in hf h0 h1 hd
    rw [stl_t hd]
    clear hf
    go_enter Tryd.func54, Tryd.ntmps54
    go_wp2
    all_goals exact bodyPost_ret (v := .agg #[.int .i64 (⟨x.fo, x.ic, x.wa, min 550 (x.de + (550 - x.de) * l / 10000000), x.dg, x.ha, min 10000 (x.ag + 1)⟩ : Lay).fo, .int .i64 (⟨x.fo, x.ic, x.wa, min 550 (x.de + (550 - x.de) * l / 10000000), x.dg, x.ha, min 10000 (x.ag + 1)⟩ : Lay).ic, .int .i64 (⟨x.fo, x.ic, x.wa, min 550 (x.de + (550 - x.de) * l / 10000000), x.dg, x.ha, min 10000 (x.ag + 1)⟩ : Lay).wa, .int .i64 (⟨x.fo, x.ic, x.wa, min 550 (x.de + (550 - x.de) * l / 10000000), x.dg, x.ha, min 10000 (x.ag + 1)⟩ : Lay).de, .int .i64 (⟨x.fo, x.ic, x.wa, min 550 (x.de + (550 - x.de) * l / 10000000), x.dg, x.ha, min 10000 (x.ag + 1)⟩ : Lay).dg, .int .i64 (⟨x.fo, x.ic, x.wa, min 550 (x.de + (550 - x.de) * l / 10000000), x.dg, x.ha, min 10000 (x.ag + 1)⟩ : Lay).ha, .int .i64 (⟨x.fo, x.ic, x.wa, min 550 (x.de + (550 - x.de) * l / 10000000), x.dg, x.ha, min 10000 (x.ag + 1)⟩ : Lay).ag]) (by simp [results, Tryd.results54, go_sem] <;> omega) rfl ⟨rfl, ((Below.refl _ _).alloc (Nat.le_refl _) _).alloc (by simp) _⟩
  · rw [stl_f hd]
    clear hf
    go_enter Tryd.func54, Tryd.ntmps54
    go_wp2
    all_goals exact bodyPost_ret (v := .agg #[.int .i64 (⟨x.fo, x.ic, x.wa, x.de, x.dg, x.ha, min 10000 (x.ag + 1)⟩ : Lay).fo, .int .i64 (⟨x.fo, x.ic, x.wa, x.de, x.dg, x.ha, min 10000 (x.ag + 1)⟩ : Lay).ic, .int .i64 (⟨x.fo, x.ic, x.wa, x.de, x.dg, x.ha, min 10000 (x.ag + 1)⟩ : Lay).wa, .int .i64 (⟨x.fo, x.ic, x.wa, x.de, x.dg, x.ha, min 10000 (x.ag + 1)⟩ : Lay).de, .int .i64 (⟨x.fo, x.ic, x.wa, x.de, x.dg, x.ha, min 10000 (x.ag + 1)⟩ : Lay).dg, .int .i64 (⟨x.fo, x.ic, x.wa, x.de, x.dg, x.ha, min 10000 (x.ag + 1)⟩ : Lay).ha, .int .i64 (⟨x.fo, x.ic, x.wa, x.de, x.dg, x.ha, min 10000 (x.ag + 1)⟩ : Lay).ag]) (by simp [results, Tryd.results54, go_sem] <;> omega) rfl ⟨rfl, ((Below.refl _ _).alloc (Nat.le_refl _) _).alloc (by simp) _⟩
set_option maxHeartbeats 1600000 in
theorem l05Settle_any (x : Lay) (l : Int) (b o : Nat) (w : World) (h : LCells w b o x) (hf : La.Fits x) (h0 : 0 ≤ l) (h1 : l ≤ 32000000) :
    Calls Tryd.prog 46 #[.pointer (some ⟨b, o, none⟩), .int .i64 l] w fun e w' => e = .returned (.agg #[.int .i64 (La.stl x l).fo, .int .i64 (La.stl x l).ic, .int .i64 (La.stl x l).wa, .int .i64 (La.stl x l).de, .int .i64 (La.stl x l).dg, .int .i64 (La.stl x l).ha, .int .i64 (La.stl x l).ag]) ∧ Below w.heap.size w w' := by
  have d1 := hf.d1; have d2 := hf.d2; have a1 := hf.a1; have a2 := hf.a2
  obtain ⟨c0, c1, c2, c3, c4, c5, c6⟩ := h
  have hlt := World.block_lt_of_cell? w _ c0
  by_cases hd : x.de < 550
  · obtain ⟨p1, p2⟩ := La.stl_in hf h0 h1 hd
    rw [stl_t hd]
    clear hf
    go_enter Tryd.func46, Tryd.ntmps46
    go_wp2_with (go_at_call 49; refine (l00Min_any _ _ _).mono ?_; rintro e w' ⟨rfl, rfl⟩)
    all_goals exact bodyPost_ret (v := .agg #[.int .i64 (⟨x.fo, x.ic, x.wa, min 550 (x.de + (550 - x.de) * l / 10000000), x.dg, x.ha, min 10000 (x.ag + 1)⟩ : Lay).fo, .int .i64 (⟨x.fo, x.ic, x.wa, min 550 (x.de + (550 - x.de) * l / 10000000), x.dg, x.ha, min 10000 (x.ag + 1)⟩ : Lay).ic, .int .i64 (⟨x.fo, x.ic, x.wa, min 550 (x.de + (550 - x.de) * l / 10000000), x.dg, x.ha, min 10000 (x.ag + 1)⟩ : Lay).wa, .int .i64 (⟨x.fo, x.ic, x.wa, min 550 (x.de + (550 - x.de) * l / 10000000), x.dg, x.ha, min 10000 (x.ag + 1)⟩ : Lay).de, .int .i64 (⟨x.fo, x.ic, x.wa, min 550 (x.de + (550 - x.de) * l / 10000000), x.dg, x.ha, min 10000 (x.ag + 1)⟩ : Lay).dg, .int .i64 (⟨x.fo, x.ic, x.wa, min 550 (x.de + (550 - x.de) * l / 10000000), x.dg, x.ha, min 10000 (x.ag + 1)⟩ : Lay).ha, .int .i64 (⟨x.fo, x.ic, x.wa, min 550 (x.de + (550 - x.de) * l / 10000000), x.dg, x.ha, min 10000 (x.ag + 1)⟩ : Lay).ag]) (by simp [results, Tryd.results46, go_sem] <;> omega) rfl ⟨rfl, ((Below.refl _ _).alloc (Nat.le_refl _) _).alloc (by simp) _⟩
  · rw [stl_f hd]
    clear hf
    go_enter Tryd.func46, Tryd.ntmps46
    go_wp2_with (go_at_call 49; refine (l00Min_any _ _ _).mono ?_; rintro e w' ⟨rfl, rfl⟩)
    all_goals exact bodyPost_ret (v := .agg #[.int .i64 (⟨x.fo, x.ic, x.wa, x.de, x.dg, x.ha, min 10000 (x.ag + 1)⟩ : Lay).fo, .int .i64 (⟨x.fo, x.ic, x.wa, x.de, x.dg, x.ha, min 10000 (x.ag + 1)⟩ : Lay).ic, .int .i64 (⟨x.fo, x.ic, x.wa, x.de, x.dg, x.ha, min 10000 (x.ag + 1)⟩ : Lay).wa, .int .i64 (⟨x.fo, x.ic, x.wa, x.de, x.dg, x.ha, min 10000 (x.ag + 1)⟩ : Lay).de, .int .i64 (⟨x.fo, x.ic, x.wa, x.de, x.dg, x.ha, min 10000 (x.ag + 1)⟩ : Lay).dg, .int .i64 (⟨x.fo, x.ic, x.wa, x.de, x.dg, x.ha, min 10000 (x.ag + 1)⟩ : Lay).ha, .int .i64 (⟨x.fo, x.ic, x.wa, x.de, x.dg, x.ha, min 10000 (x.ag + 1)⟩ : Lay).ag]) (by simp [results, Tryd.results46, go_sem] <;> omega) rfl ⟨rfl, ((Below.refl _ _).alloc (Nat.le_refl _) _).alloc (by simp) _⟩
end Go.Proofs.YtbdhdlgenfpjgaaDoor
