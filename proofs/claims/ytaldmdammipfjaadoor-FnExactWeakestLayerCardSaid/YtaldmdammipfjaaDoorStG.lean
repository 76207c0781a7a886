/-
  Chapter 7 by the program: a snowpack, the stress of its layers. No condition of its own.
-/
import Derived.Test.YtaldmdammipfjaaDoorStC
namespace Go.Proofs.YtaldmdammipfjaaDoor
open Go.RowKit Go.Shelf
set_option linter.unusedVariables false
set_option maxRecDepth 100000

/-- the six cells of a snowpack -/
structure PC (w : World) (b : Nat) (v : Value) (ri ru d t m : Int) : Prop where
  c0 : w.cell? ⟨b, 0, none⟩ = some v
  c1 : w.cell? ⟨b, 1, none⟩ = some (.int .i64 ri)
  c2 : w.cell? ⟨b, 2, none⟩ = some (.int .i64 ru)
  c3 : w.cell? ⟨b, 3, none⟩ = some (.int .i64 d)
  c4 : w.cell? ⟨b, 4, none⟩ = some (.int .i64 t)
  c5 : w.cell? ⟨b, 5, none⟩ = some (.int .i64 m)
theorem PC.lt {w : World} {b : Nat} {v : Value} {ri ru d t m : Int} (h : PC w b v ri ru d t m) : b < w.heap.size := World.block_lt_of_cell? w _ h.c0
theorem PC.all {w w1 : World} {b : Nat} {v : Value} {ri ru d t m : Int} (h : PC w b v ri ru d t m) (hb : Below w.heap.size w w1) : PC w1 b v ri ru d t m :=
  ⟨(hb.cell (p := ⟨b, 0, none⟩) h.lt).trans h.c0, (hb.cell (p := ⟨b, 1, none⟩) h.lt).trans h.c1, (hb.cell (p := ⟨b, 2, none⟩) h.lt).trans h.c2,
    (hb.cell (p := ⟨b, 3, none⟩) h.lt).trans h.c3, (hb.cell (p := ⟨b, 4, none⟩) h.lt).trans h.c4, (hb.cell (p := ⟨b, 5, none⟩) h.lt).trans h.c5⟩
theorem PC.six {w : World} {b : Nat} {v : Value} {ri ru d t m : Int} (h : PC w b v ri ru d t m) :
    w.cell? ⟨b, 0, none⟩ = some v ∧ w.cell? ⟨b, 1, none⟩ = some (.int .i64 ri) ∧ w.cell? ⟨b, 2, none⟩ = some (.int .i64 ru) ∧ w.cell? ⟨b, 3, none⟩ = some (.int .i64 d) ∧ w.cell? ⟨b, 4, none⟩ = some (.int .i64 t) ∧ w.cell? ⟨b, 5, none⟩ = some (.int .i64 m) :=
  ⟨h.c0, h.c1, h.c2, h.c3, h.c4, h.c5⟩
/-- the world with a snowpack in a new block -/
def boxP (w : World) (v : Value) (ri ru d t m : Int) (T : TypeId) : World := w.alloc (.cells #[v, .int .i64 ri, .int .i64 ru, .int .i64 d, .int .i64 t, .int .i64 m] T)
theorem boxP_cells (w : World) (v : Value) (ri ru d t m : Int) (T : TypeId) : PC (boxP w v ri ru d t m T) w.heap.size v ri ru d t m := by
  have h := fun j => cell_of_row _ w.heap.size j _ T (0, 0) (heap_alloc_new w (.cells #[v, .int .i64 ri, .int .i64 ru, .int .i64 d, .int .i64 t, .int .i64 m] T))
  exact ⟨h 0, h 1, h 2, h 3, h 4, h 5⟩
theorem boxP_below (w : World) (v : Value) (ri ru d t m : Int) (T : TypeId) : Below w.heap.size w (boxP w v ri ru d t m T) := (Below.refl _ _).alloc (Nat.le_refl _) _
/-- the layers above one: a part of a row -/
theorem LAs.above {w : World} {b cap : Nat} {xs : List Lay} (h : LAs w (.slice (some ⟨b, 0, none⟩) xs.length cap) xs) {k : Nat} (hk : k < xs.length) :
    (cap = k + 1 → LSl w (.slice (some ⟨b, 0, none⟩) 0 0) (xs.drop (k + 1)) ∧ xs.length = k + 1) ∧ LSl w (.slice (some ⟨b, (k + 1) * 7, none⟩) (xs.length - (k + 1)) (cap - (k + 1))) (xs.drop (k + 1)) ∧ xs.length ≤ cap ∧ cap ≤ maxLen := by
  obtain ⟨B, b', cap', he, ho⟩ := h
  simp only [Value.slice.injEq, Option.some.injEq, Addr.mk.injEq, and_true, true_and] at he
  obtain ⟨rfl, rfl⟩ := he
  obtain ⟨-, hc1, hc2⟩ := own_cap ho
  exact ⟨fun h => ⟨Or.inl ⟨List.drop_eq_nil_of_le (by omega), _, _, rfl⟩, by omega⟩, ho.tail hk, hc1, hc2⟩
set_option maxHeartbeats 3200000 in
theorem stress_any (w : World) (v : Value) (xs : List Lay) (k : Nat) (ri ru d t m : Int) (hv : LAs w v xs) (hk : k < xs.length) (hq : La.okP xs = true) (hs : Sb.Slo ri ru) (m0 : 0 ≤ m) (m1 : m ≤ 1000000) :
    Calls Tryd.prog 142 #[.agg #[v, .int .i64 ri, .int .i64 ru, .int .i64 d, .int .i64 t, .int .i64 m], .int .i64 k] w fun e w' => e = .returned (.int .i64 (Sb.st (m + La.sm La.mass (xs.drop (k + 1))) ri ru)) ∧ Below w.heap.size w w' := by
  have HV := Lib.hid hv
  obtain ⟨B, b, cap, rfl, ho⟩ := hv
  clear ho
  obtain ⟨hz, htl, hc1, hc2⟩ := HV.out.above hk
  unfold maxLen at hc2
  obtain ⟨h16, hfit⟩ := (La.okP_iff xs).1 hq
  have HFD : ∀ x ∈ xs.drop (k + 1), La.Fits x := fun x hx => hfit x (List.mem_of_mem_drop hx)
  have hd16 : (xs.drop (k + 1)).length ≤ 16 := by rw [List.length_drop]; omega
  obtain ⟨S0, S1⟩ := Sb.sum_bd HFD hd16
  have CS : Hid (∀ u W, LSl W u (xs.drop (k + 1)) → Calls Tryd.prog 173 #[u, .func (.func 174) #[] #[]] W fun e w' => e = .returned (.int .i64 (La.sm La.mass (xs.drop (k + 1)))) ∧ Below W.heap.size W w') :=
    Lib.hid (fun u W h => sumOf_any 174 (enters_of Tryd.func174 (by kernel_rfl) rfl) La.mass W u _ hd16 h (fun x hx => mass_bd (HFD x hx)) (fun x hx W => mass_any x W (HFD x hx)))
  have HB := Lib.hid (boxP_below w (.slice (some ⟨b, 0, none⟩) xs.length cap) ri ru d t m 104)
  have K := Lib.hid (fun W (h : Below (boxP w (.slice (some ⟨b, 0, none⟩) xs.length cap) ri ru d t m 104).heap.size (boxP w (.slice (some ⟨b, 0, none⟩) xs.length cap) ri ru d t m 104) W) => ((boxP_cells w (.slice (some ⟨b, 0, none⟩) xs.length cap) ri ru d t m 104).all h).six)
  obtain ⟨x0, x1, x2, x3, x4, x5⟩ := K.out _ (Below.refl _ _)
  have CU := Lib.hid (fun S W (hS : 0 ≤ S ∧ S ≤ 32000000) => stressUnder_any (m + S) ri ru W hs (by omega) (by omega))
  have hkz : (k : Int) + 1 ≤ xs.length := by omega
  have hk0 : (0 : Int) ≤ (k : Int) + 1 := by omega
  have hkw : IntKind.i64.wrap ((k : Int) + 1) = (k : Int) + 1 := IntWalk.i64_in _ (by omega)
  have hlc : (xs.length : Int) ≤ (cap : Int) := by omega
  have hkc : (k : Int) + 1 ≤ (cap : Int) := by omega
  have hkt : ((k : Int) + 1).toNat = k + 1 := by omega
  generalize hS : La.sm La.mass (xs.drop (k + 1)) = S at *
  have CU := Lib.hid (fun W => CU.out S W ⟨S0, S1⟩)
  have hmS : IntKind.i64.wrap (m + S) = m + S := IntWalk.i64_in _ (by omega)
  clear hS hfit HFD hd16 hs hq
  by_cases hb : cap = k + 1
  · obtain ⟨hl0, hlk⟩ := hz hb
    have CS := Lib.hid (fun W (h : Below (boxP w (.slice (some ⟨b, 0, none⟩) xs.length cap) ri ru d t m 104).heap.size (boxP w (.slice (some ⟨b, 0, none⟩) xs.length cap) ri ru d t m 104) W) => CS.out _ W ((hl0.below HB.out).below h))
    have hcz : cap - (k + 1) = 0 := by omega
    clear hz htl hl0
    subst hb
    rw [hlk] at K x0 CS HB ⊢
    go_enter Tryd.func142, Tryd.ntmps142
    go_wp2_with fail
    go_region_held3 (fun w' => w'.cell? ⟨w.heap.size, 0, none⟩ = some (.slice (some ⟨b, 0, none⟩) (k + 1) (k + 1)) ∧ w'.cell? ⟨w.heap.size, 1, none⟩ = some (.int .i64 ri) ∧ w'.cell? ⟨w.heap.size, 2, none⟩ = some (.int .i64 ru) ∧ w'.cell? ⟨w.heap.size, 5, none⟩ = some (.int .i64 m)) (go_keep)
      (first
        | (go_at_call 173; refine (CS.out _ (below_drewW _ 1)).mono ?_; rintro e wA ⟨rfl, bA⟩; have bA0 := bt (below_drewW _ 1) bA; obtain ⟨y0, y1, y2, y3, y4, y5⟩ := K.out wA bA0)
        | (go_at_call 172; refine (CU.out _).mono ?_; rintro e wB ⟨rfl, bB⟩; have bB0 := bt bA0 bB; obtain ⟨z0, z1, z2, z3, z4, z5⟩ := K.out wB bB0))
    all_goals (
      go_wp2_with fail
      go_ret
      exact ⟨rfl, bt HB.out bB0⟩)
  · have hcz : ¬ cap - (k + 1) = 0 := by omega
    have hcz2 : cap - (k + 1) ≠ 0 := by omega
    have CS := Lib.hid (fun W (h : Below (boxP w (.slice (some ⟨b, 0, none⟩) xs.length cap) ri ru d t m 104).heap.size (boxP w (.slice (some ⟨b, 0, none⟩) xs.length cap) ri ru d t m 104) W) => CS.out _ W ((htl.below HB.out).below h))
    clear hz htl
    go_enter Tryd.func142, Tryd.ntmps142
    go_wp2_with fail
    go_region_held3 (fun w' => w'.cell? ⟨w.heap.size, 0, none⟩ = some (.slice (some ⟨b, 0, none⟩) xs.length cap) ∧ w'.cell? ⟨w.heap.size, 1, none⟩ = some (.int .i64 ri) ∧ w'.cell? ⟨w.heap.size, 2, none⟩ = some (.int .i64 ru) ∧ w'.cell? ⟨w.heap.size, 5, none⟩ = some (.int .i64 m)) (go_keep)
      (first
        | (go_at_call 173; refine (CS.out _ (below_drewW _ 1)).mono ?_; rintro e wA ⟨rfl, bA⟩; have bA0 := bt (below_drewW _ 1) bA; obtain ⟨y0, y1, y2, y3, y4, y5⟩ := K.out wA bA0)
        | (go_at_call 172; refine (CU.out _).mono ?_; rintro e wB ⟨rfl, bB⟩; have bB0 := bt bA0 bB; obtain ⟨z0, z1, z2, z3, z4, z5⟩ := K.out wB bB0))
    all_goals (
      go_wp2_with fail
      go_ret
      exact ⟨rfl, bt HB.out bB0⟩)
end Go.Proofs.YtaldmdammipfjaaDoor
