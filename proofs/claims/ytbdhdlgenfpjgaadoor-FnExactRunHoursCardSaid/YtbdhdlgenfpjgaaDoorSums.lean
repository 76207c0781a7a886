/-
  Chapter 3's sums: thickness, mass and cold of layers and profiles, by the program and by the model. No condition of its own.
-/
import Derived.Test.YtbdhdlgenfpjgaaDoorFind
import Derived.IntWalk
import Derived.WalkArith
namespace Go.Proofs.YtbdhdlgenfpjgaaDoor
open Go.RowKit Go.Shelf
set_option linter.unusedVariables false
set_option maxRecDepth 100000

theorem ret_iii {a b c d x y : Int} (h : a = b) (h' : c = d) (h'' : x = y) : Ending.returned (.tuple #[.int .i64 a, .int .i64 c, .int .i64 x]) = .returned (.tuple #[.int .i64 b, .int .i64 d, .int .i64 y]) := by rw [h, h', h'']
theorem LSl.drewN {w : World} {v : Value} {xs : List Lay} (h : LSl w v xs) (n : Nat) : LSl (w.drewN n) v xs := h.below (below_drewW w n)
theorem LCells.drewN {w : World} {b o : Nat} {x : Lay} (h : LCells w b o x) (n : Nat) : LCells (w.drewN n) b o x :=
  ⟨by simpa using h.c0, by simpa using h.c1, by simpa using h.c2, by simpa using h.c3, by simpa using h.c4, by simpa using h.c5, by simpa using h.c6⟩

set_option maxHeartbeats 1600000 in
theorem l03Thick_any (x : Lay) (b o : Nat) (w : World) (h : LCells w b o x) (hf : La.Fits x) :
    Calls Tryd.prog 66 #[.pointer (some ⟨b, o, none⟩)] w fun e w' => e = .returned (.int .i64 (La.thick x)) ∧ ∃ n, w' = w.drewN n := by
  obtain ⟨c0, c1, c2, c3, c4, c5, c6⟩ := h
  have i1 := hf.i1
  have i2 := hf.i2
  have d1 := hf.d1
  have d2 := hf.d2
  clear hf
  have C := fun W => (l01Div_any x.ic x.de W (by omega) (by omega) (by omega) (by omega) (by omega))
  go_enter Tryd.func66, Tryd.ntmps66
  go_wp2_with fail
  go_quiet ((go_at_call 67; exact Calls.quiet_of_same ((C _).mono fun _ _ ⟨h, h'⟩ => ⟨h, h'.symm⟩)))
  go_wp2
  go_ret
  exact ⟨rfl, _, rfl⟩
set_option maxHeartbeats 800000 in
theorem thickness_any (x : Lay) (w : World) (hf : La.Fits x) :
    Calls Tryd.prog 68 #[.agg #[.int .i64 x.fo, .int .i64 x.ic, .int .i64 x.wa, .int .i64 x.de, .int .i64 x.dg, .int .i64 x.ha, .int .i64 x.ag]] w fun e w' => e = .returned (.int .i64 (La.thick x)) ∧ Below w.heap.size w w' := by
  have i1 := hf.i1
  have i2 := hf.i2
  have d1 := hf.d1
  have d2 := hf.d2
  have hd : Hid (Ar.dR x.ic x.de = La.thick x) := Lib.hid (by unfold Ar.dR La.thick; rw [if_neg (by omega)])
  have C := fun W => Lib.hid (implDivRound_any x.ic x.de W)
  clear hf
  go_enter Tryd.func68, Tryd.ntmps68
  go_wp2_with fail
  refine (C _).out.mono ?_
  rintro e w1 ⟨rfl, rfl⟩
  go_wp2_with fail
  go_ret
  exact ⟨ret_int hd.out, (Below.refl _ _).alloc (Nat.le_refl _) _⟩
set_option maxHeartbeats 800000 in
theorem mass_any (x : Lay) (w : World) (hf : La.Fits x) :
    Calls Tryd.prog 55 #[.agg #[.int .i64 x.fo, .int .i64 x.ic, .int .i64 x.wa, .int .i64 x.de, .int .i64 x.dg, .int .i64 x.ha, .int .i64 x.ag]] w fun e w' => e = .returned (.int .i64 (La.mass x)) ∧ Below w.heap.size w w' := by
  have i1 := hf.i1
  have i2 := hf.i2
  have d1 := hf.w1
  have d2 := hf.w2
  clear hf
  go_enter Tryd.func55, Tryd.ntmps55
  go_wp2
  go_ret
  exact ⟨rfl, (Below.refl _ _).alloc (Nat.le_refl _) _⟩
theorem cold_impl (x : Lay) : (x.ic * 21 * -x.dg + 1000 - 1) / 1000 = La.cold x := by
  unfold La.cold
  rw [Int.mul_assoc, Int.mul_comm 21, ← Int.mul_assoc]; congr 1; omega
set_option maxHeartbeats 800000 in
theorem quotientUp_any (a b : Int) (w : World) (h1 : 0 ≤ a) (h2 : a ≤ 1000000000000000) (h3 : 1 ≤ b) (h4 : b ≤ 1000000000) :
    Calls Tryd.prog 64 #[.int .i64 a, .int .i64 b] w fun e w' => e = .returned (.int .i64 ((a + b - 1) / b)) ∧ w = w' := by
  have hb0 : (b == 0) = false := by simp; omega
  go_enter Tryd.func64, Tryd.ntmps64
  go_wp2
  go_ret
  exact ⟨rfl, rfl⟩
set_option maxHeartbeats 800000 in
theorem heatOf_any (x : Lay) (d : Int) (w : World) (p1 : 0 ≤ x.ic * 21 * d) (p2 : x.ic * 21 * d ≤ 1000000000000000) (i1 : 1 ≤ x.ic) (i2 : x.ic ≤ 1000000) :
    Calls Tryd.prog 59 #[.agg #[.int .i64 x.fo, .int .i64 x.ic, .int .i64 x.wa, .int .i64 x.de, .int .i64 x.dg, .int .i64 x.ha, .int .i64 x.ag], .int .i64 d] w fun e w' => e = .returned (.int .i64 ((x.ic * 21 * d + 1000 - 1) / 1000)) ∧ Below w.heap.size w w' := by
  have C := fun W => Lib.hid (quotientUp_any (x.ic * 21 * d) 1000 W p1 p2 (by omega) (by omega))
  go_enter Tryd.func59, Tryd.ntmps59
  go_wp2_with fail
  refine (C _).out.mono ?_
  rintro e w1 ⟨rfl, rfl⟩
  go_wp2_with fail
  go_ret
  exact ⟨rfl, (Below.refl _ _).alloc (Nat.le_refl _) _⟩
set_option maxHeartbeats 800000 in
theorem cold_any (x : Lay) (w : World) (hf : La.Fits x) :
    Calls Tryd.prog 56 #[.agg #[.int .i64 x.fo, .int .i64 x.ic, .int .i64 x.wa, .int .i64 x.de, .int .i64 x.dg, .int .i64 x.ha, .int .i64 x.ag]] w fun e w' => e = .returned (.int .i64 (La.cold x)) ∧ Below w.heap.size w w' := by
  have i1 := hf.i1
  have i2 := hf.i2
  have d1 := hf.g1
  have d2 := hf.g2
  obtain ⟨e1, e2⟩ := La.cold_in hf
  have e3 : x.ic * 21 * -x.dg = x.ic * -x.dg * 21 := by rw [Int.mul_assoc, Int.mul_comm 21, ← Int.mul_assoc]
  have p1 : 0 ≤ x.ic * 21 * -x.dg := by omega
  have p2 : x.ic * 21 * -x.dg ≤ 1000000000000000 := by omega
  have hd := Lib.hid (cold_impl x)
  have C := fun W => Lib.hid (heatOf_any x (-x.dg) W p1 p2 i1 i2)
  clear hf e1 e2 e3
  go_enter Tryd.func56, Tryd.ntmps56
  go_wp2_with fail
  refine (C _).out.mono ?_
  rintro e w1 ⟨rfl, b1⟩
  have B1 := Lib.hid (bt ((Below.refl _ _).alloc (Nat.le_refl _) _) b1)
  clear b1
  go_wp2_with fail
  go_ret
  exact ⟨ret_int hd.out, B1.out⟩
end Go.Proofs.YtbdhdlgenfpjgaaDoor
