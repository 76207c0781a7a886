/-
  Chapter 7 by the program: the index of a layer of a snowpack. Its condition: impl.strengthFactors holds what the program's text lays.
-/
import Derived.Test.YtaldmdammipfjaaDoorStG
namespace Go.Proofs.YtaldmdammipfjaaDoor
open Go.RowKit Go.Shelf
set_option linter.unusedVariables false
set_option maxRecDepth 100000

/-- a snowpack in a block, and a result in the next one -/
def boxB (w : World) (v : Value) (ri ru d t m : Int) (T T' : TypeId) : World := (boxP w v ri ru d t m T).alloc (.cells #[.int .i64 0, .int .i64 0] T')
theorem boxB_below (w : World) (v : Value) (ri ru d t m : Int) (T T' : TypeId) : Below w.heap.size w (boxB w v ri ru d t m T T') := ((Below.refl _ _).alloc (Nat.le_refl _) _).alloc (by simp) _
theorem boxB_cells (w : World) (v : Value) (ri ru d t m : Int) (T T' : TypeId) : PC (boxB w v ri ru d t m T T') w.heap.size v ri ru d t m ∧ Whole (boxB w v ri ru d t m T T') (w.heap.size + 1) T' #[.int .i64 0, .int .i64 0] :=
  ⟨(boxP_cells w v ri ru d t m T).all ((Below.refl _ _).alloc (Nat.le_refl _) _), whole_new1 w _ T' _⟩
theorem below_put3 {b : Nat} (w1 : World) (u v : Value) : Below b w1 ((w1.setCell ⟨b, 0, none⟩ u).setCell ⟨b, 1, none⟩ v) :=
  ((Below.refl b w1).setCell (p := ⟨b, 0, none⟩) (Nat.le_refl _) u).setCell (p := ⟨b, 1, none⟩) (Nat.le_refl _) v
set_option maxHeartbeats 6400000 in
theorem index_any (w : World) (v : Value) (xs : List Lay) (k : Nat) (ri ru d t m : Int) (hv : LAs w v xs) (hk : k < xs.length) (hf : Sb.Fine xs ri ru d) (m0 : 0 ≤ m) (m1 : m ≤ 1000000) (hw : FactorsAt w) :
    Calls Tryd.prog 108 #[.agg #[v, .int .i64 ri, .int .i64 ru, .int .i64 d, .int .i64 t, .int .i64 m], .int .i64 k] w fun e w' => e = .returned (.agg #[.int .i64 (Sb.ix m ri ru d xs k xs[k]), .int .i64 (Sb.ixH m ri ru d xs k xs[k])]) ∧ Below w.heap.size w w' := by
  have HV := Lib.hid hv
  have HW := Lib.hid hw
  obtain ⟨B, b, cap, rfl, ho⟩ := hv
  have hcell := LAs.cells ho.sl hk
  have hbl := World.block_lt_of_cell? w _ hcell.c0
  simp only at hbl
  have hfx := hf.fits _ (List.getElem_mem hk)
  have hl := hf.len
  have hkz : (k : Int) < (xs.length : Int) := by omega
  have hk0 : (0 : Int) ≤ (k : Int) := by omega
  obtain ⟨lo0, lo1⟩ := Sb.lo_bd hfx hf.d0 hf.d1
  obtain ⟨h0, h1⟩ := Sb.hi_bd hfx hf.d0 hf.d1
  obtain ⟨S0, S1⟩ := Sb.sum_bd (xs := xs.drop (k + 1)) (fun x hx => hf.fits x (List.mem_of_mem_drop hx)) (by rw [List.length_drop]; omega)
  obtain ⟨s0, s1⟩ := Sb.st_bd (l := m + La.sm La.mass (xs.drop (k + 1))) hf.slo (by omega) (by omega)
  obtain ⟨W2, hW2⟩ : ∃ W, W = boxB w (.slice (some ⟨b, 0, none⟩) xs.length cap) ri ru d t m 104 143 := ⟨_, rfl⟩
  have HB : Hid (Below w.heap.size w W2) := Lib.hid (by rw [hW2]; exact boxB_below ..)
  have KK : Hid (∀ W, Below W2.heap.size W2 W → PC W w.heap.size (.slice (some ⟨b, 0, none⟩) xs.length cap) ri ru d t m ∧ Whole W (w.heap.size + 1) 143 #[.int .i64 0, .int .i64 0] ∧ LCells W b (k * 7) xs[k]) := Lib.hid (fun W h => by
    have c := boxB_cells w (.slice (some ⟨b, 0, none⟩) xs.length cap) ri ru d t m 104 143
    rw [← hW2] at c
    exact ⟨c.1.all h, c.2.all h, hcell.below (HB.out.trans (h.mono HB.out.size)) hbl⟩)
  have C1 := Lib.hid (fun W (h : Below W2.heap.size W2 W) => strength_any xs[k] d W hfx hf.d0 hf.d1 (HW.out.below (bt HB.out h)))
  have C2 := Lib.hid (fun W (h : Below W2.heap.size W2 W) => stress_any W _ xs k ri ru d t m (HV.out.all (bt HB.out h)) hk hf.okp hf.slo m0 m1)
  have C3 := Lib.hid (fun W => indexUnder_any (Sb.lo xs[k] d) (Sb.hi xs[k] d) (Sb.st (m + La.sm La.mass (xs.drop (k + 1))) ri ru) W lo0 (by omega) h0 (by omega) s0 s1)
  rw [show Sb.ixl (Sb.st (m + La.sm La.mass (xs.drop (k + 1))) ri ru) (Sb.lo xs[k] d) = Sb.ix m ri ru d xs k xs[k] from rfl, show Sb.ixh (Sb.st (m + La.sm La.mass (xs.drop (k + 1))) ri ru) (Sb.hi xs[k] d) = Sb.ixH m ri ru d xs k xs[k] from rfl] at C3
  obtain ⟨⟨x0, x1, x2, x3, x4, x5⟩, xw, c0, c1, c2, c3, c4, c5, c6⟩ := KK.out W2 (Below.refl _ _)
  have hn1 : b ≠ w.heap.size + 1 := by omega
  have hn2 : w.heap.size ≠ w.heap.size + 1 := by omega
  have hlen : Hid (W2.heap.size = w.heap.size + 2) := Lib.hid (by rw [hW2]; simp [boxB, boxP])
  clear hcell hfx ho hf hw s0 s1 lo0 lo1 h0 h1 S0 S1
  generalize Sb.ix m ri ru d xs k xs[k] = r1 at *
  generalize Sb.ixH m ri ru d xs k xs[k] = r2 at *
  generalize Sb.lo xs[k] d = lo at *
  generalize Sb.hi xs[k] d = hi at *
  generalize Sb.st (m + La.sm La.mass (xs.drop (k + 1))) ri ru = s at *
  generalize xs[k] = y at *
  generalize xs.length = n at *
  go_enter Tryd.func108, Tryd.ntmps108
  go_wp2_with fail
  have hbx : boxB w (.slice (some ⟨b, 0, none⟩) n cap) ri ru d t m 104 143 = (w.alloc (.cells #[.slice (some ⟨b, 0, none⟩) n cap, .int .i64 ri, .int .i64 ru, .int .i64 d, .int .i64 t, .int .i64 m] 104)).alloc (.cells #[.int .i64 0, .int .i64 0] 143) := rfl
  rw [← hbx, ← hW2]
  clear hbx hW2
  go_region_held3 (fun w' => (w'.cell? ⟨w.heap.size, 0, none⟩ = some (.slice (some ⟨b, 0, none⟩) n cap) ∧ w'.cell? ⟨w.heap.size, 1, none⟩ = some (.int .i64 ri) ∧ w'.cell? ⟨w.heap.size, 2, none⟩ = some (.int .i64 ru) ∧ w'.cell? ⟨w.heap.size, 3, none⟩ = some (.int .i64 d) ∧ w'.cell? ⟨w.heap.size, 4, none⟩ = some (.int .i64 t) ∧ w'.cell? ⟨w.heap.size, 5, none⟩ = some (.int .i64 m)) ∧
      w'.cell? ⟨b, k * 7, none⟩ = some (.int .i64 y.fo) ∧ w'.cell? ⟨b, k * 7 + 1, none⟩ = some (.int .i64 y.ic) ∧ w'.cell? ⟨b, k * 7 + 2, none⟩ = some (.int .i64 y.wa) ∧ w'.cell? ⟨b, k * 7 + 3, none⟩ = some (.int .i64 y.de) ∧ w'.cell? ⟨b, k * 7 + 4, none⟩ = some (.int .i64 y.dg) ∧ w'.cell? ⟨b, k * 7 + 5, none⟩ = some (.int .i64 y.ha) ∧ w'.cell? ⟨b, k * 7 + 6, none⟩ = some (.int .i64 y.ag)) (go_keep)
    (first
      | (go_at_call 140; refine (C1.out _ (by first | exact below_drewW _ 1 | exact bB0)).mono ?_; rintro e wA ⟨rfl, bA⟩; have bA0 : Below W2.heap.size W2 wA := (by first | exact bt bB0 bA | exact bt (below_drewW _ 1) bA); obtain ⟨⟨y0, y1, y2, y3, y4, y5⟩, yw, e0, e1, e2, e3, e4, e5, e6⟩ := KK.out wA bA0)
      | (go_at_call 142; refine (C2.out _ (by first | exact below_drewW _ 1 | exact bA0)).mono ?_; rintro e wB ⟨rfl, bB⟩; have bB0 : Below W2.heap.size W2 wB := (by first | exact bt bA0 bB | exact bt (below_drewW _ 1) bB); obtain ⟨⟨z0, z1, z2, z3, z4, z5⟩, zw, g0, g1, g2, g3, g4, g5, g6⟩ := KK.out wB bB0)
      | (go_at_call 141; refine (C3.out _).mono ?_; rintro e wC ⟨rfl, bC⟩; have bC0 : Below W2.heap.size W2 wC := (by first | exact bt bB0 bC | exact bt bA0 bC); obtain ⟨⟨u0, u1, u2, u3, u4, u5⟩, uw, l0, l1, l2, l3, l4, l5, l6⟩ := KK.out wC bC0; have t0 := uw.at_ 0; have t1 := uw.at_ 1; simp at t0 t1; have f0 := uw.free 0; have f1 := uw.free 1; have PQ := below_put3 (b := w.heap.size + 1) wC (.int .i64 r1) (.int .i64 r2); obtain ⟨q0, q1, q2, q3, q4, q5, q6⟩ := (LCells.mk l0 l1 l2 l3 l4 l5 l6).below PQ (by omega); have w2 := (uw.put 0 (.int .i64 r1)).put 1 (.int .i64 r2)))
  all_goals (
    have d0 := w2.at_ 0
    have d1 := w2.at_ 1
    simp at d0 d1
    go_wp2_with fail
    exact bodyPost_ret (v := .agg #[.int .i64 r1, .int .i64 r2]) (by simp [results, Tryd.results108, go_sem, d0, d1]) rfl ⟨rfl, (bt HB.out bC0).trans (PQ.mono (by omega))⟩)
end Go.Proofs.YtaldmdammipfjaaDoor
