/-
  Chapter 3's sums: thickness, mass and cold of layers and profiles, by the program and by the model. No condition of its own.
-/
import Derived.Test.YtaldmdammipfjaaDoorFind
import Derived.IntWalk
import Derived.WalkArith
namespace Go.Proofs.YtaldmdammipfjaaDoor
open Go.RowKit Go.Shelf
set_option linter.unusedVariables false
set_option maxRecDepth 100000

theorem ret_iii {a b c d x y : Int} (h : a = b) (h' : c = d) (h'' : x = y) : Ending.returned (.tuple #[.int .i64 a, .int .i64 c, .int .i64 x]) = .returned (.tuple #[.int .i64 b, .int .i64 d, .int .i64 y]) := by rw [h, h', h'']
theorem LSl.drewN {w : World} {v : Value} {xs : List Lay} (h : LSl w v xs) (n : Nat) : LSl (w.drewN n) v xs := h.below (below_drewW w n)
theorem LCells.drewN {w : World} {b o : Nat} {x : Lay} (h : LCells w b o x) (n : Nat) : LCells (w.drewN n) b o x :=
  ⟨by simpa using h.c0, by simpa using h.c1, by simpa using h.c2, by simpa using h.c3, by simpa using h.c4, by simpa using h.c5, by simpa using h.c6⟩

set_option maxHeartbeats 800000 in
theorem mass_any (x : Lay) (w : World) (hf : La.Fits x) :
    Calls Tryd.prog 174 #[.agg #[.int .i64 x.fo, .int .i64 x.ic, .int .i64 x.wa, .int .i64 x.de, .int .i64 x.dg, .int .i64 x.ha, .int .i64 x.ag]] w fun e w' => e = .returned (.int .i64 (La.mass x)) ∧ Below w.heap.size w w' := by
  have i1 := hf.i1
  have i2 := hf.i2
  have d1 := hf.w1
  have d2 := hf.w2
  clear hf
  go_enter Tryd.func174, Tryd.ntmps174
  go_wp2
  go_ret
  exact ⟨rfl, (Below.refl _ _).alloc (Nat.le_refl _) _⟩
theorem cold_impl (x : Lay) : (x.ic * 21 * -x.dg + 1000 - 1) / 1000 = La.cold x := by
  unfold La.cold
  rw [Int.mul_assoc, Int.mul_comm 21, ← Int.mul_assoc]; congr 1; omega
set_option maxHeartbeats 800000 in
theorem quotientUp_any (a b : Int) (w : World) (h1 : 0 ≤ a) (h2 : a ≤ 1000000000000000) (h3 : 1 ≤ b) (h4 : b ≤ 1000000000) :
    Calls Tryd.prog 171 #[.int .i64 a, .int .i64 b] w fun e w' => e = .returned (.int .i64 ((a + b - 1) / b)) ∧ w = w' := by
  have hb0 : (b == 0) = false := by simp; omega
  go_enter Tryd.func171, Tryd.ntmps171
  go_wp2
  go_ret
  exact ⟨rfl, rfl⟩
set_option maxHeartbeats 1600000 in
/-- the sum of a number of all layers, whatever function gives the number -/
theorem sumOf_any (g : Nat) (eg : ∀ args w, (callFunc g args).run Tryd.prog w = .ok (.enter g args) w) (f : Lay → Int) (w : World) (v : Value) (xs : List Lay) (hl : xs.length ≤ 16) (hv : LSl w v xs)
    (hb : ∀ x ∈ xs, 0 ≤ f x ∧ f x ≤ 100000000)
    (hc : ∀ x ∈ xs, ∀ W, Calls Tryd.prog g #[.agg #[.int .i64 x.fo, .int .i64 x.ic, .int .i64 x.wa, .int .i64 x.de, .int .i64 x.dg, .int .i64 x.ha, .int .i64 x.ag]] W fun e w' => e = .returned (.int .i64 (f x)) ∧ Below W.heap.size W w') :
    Calls Tryd.prog 173 #[v, .func (.func g) #[] #[]] w fun e w' => e = .returned (.int .i64 (La.sm f xs)) ∧ Below w.heap.size w w' := by
  obtain ⟨a, cap, rfl⟩ := hv.form
  have HV := Lib.hid hv
  have HB := Lib.hid hb
  have HC := Lib.hid hc
  clear hv hb hc
  go_enter Tryd.func173, Tryd.ntmps173
  go_wp2
  go_loopw [5, 10] (fun s i wr => ∃ (k : Nat) (z : Int), k ≤ xs.length ∧ i = .int .i64 k ∧ s = .int .i64 z ∧ 0 ≤ z ∧ z ≤ 100000000 * k ∧ Hid (z = La.sm f (xs.take k)) ∧ Hid (Below w.heap.size w wr)) (fun _ i _ => xs.length - (intOf i).toNat)
  case atStart => exact ⟨0, 0, Nat.zero_le _, rfl, rfl, by omega, by omega, Lib.hid rfl, Lib.hid (Below.refl _ _)⟩
  case round =>
    obtain ⟨k, z, hk, rfl, rfl, z1, z2, hz, hbw⟩ := hrel
    by_cases hlt : k < xs.length
    · have hltz : (k : Int) < (xs.length : Int) := by omega
      obtain ⟨b, off, cap1, hn, hbl, hcc⟩ := (HV.out.below hbw.out).at_ hlt
      simp only [Value.slice.injEq] at hn
      obtain ⟨rfl, -, rfl⟩ := hn
      obtain ⟨c0, c1, c2, c3, c4, c5, c6⟩ := hcc k hlt
      have C := fun W => Lib.hid (HC.out xs[k] (List.getElem_mem hlt) W)
      obtain ⟨f1, f2⟩ := HB.out xs[k] (List.getElem_mem hlt)
      have hn := Lib.hid (La.sm_snoc f hlt)
      clear hcc
      go_wp2_with fail
      refine (C _).out.mono ?_
      rintro e w1 ⟨rfl, b1⟩
      have HB1 : Hid (Below w.heap.size w w1) := Lib.hid ((hbw.out.alloc hbw.out.size _).trans (b1.mono (by have := hbw.out.size; simp; omega)))
      clear b1 c0 c1 c2 c3 c4 c5 c6
      generalize f xs[k] = y at *
      go_wp2_with fail
      exact ⟨⟨k + 1, z + y, by omega, by go_num, rfl, by omega, by omega, Lib.hid (by rw [hn.out, hz.out]), HB1⟩, by simp only [intOf]; omega⟩
    · have hltz : ¬ (k : Int) < (xs.length : Int) := by omega
      have hkn : k = xs.length := by omega
      have HZ : Hid (z = La.sm f xs) := Lib.hid (by rw [hz.out, hkn, List.take_length])
      clear hkn
      go_wp2
      go_ret
      exact ⟨ret_int HZ.out, hbw.out⟩
end Go.Proofs.YtaldmdammipfjaaDoor
