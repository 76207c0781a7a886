/-
  Tangents, the ground and the line, by the program (chapter 14). No condition of its own.
-/
import Derived.Test.YtmieckchppfogaaGreatDoorAgG
import Derived.Test.YtmieckchppfogaaGreatDoorSrC
import Derived.Deep.RegionHeld3
namespace Go.Proofs.YtmieckchppfogaaGreatDoor
open Go.RowKit Go.Shelf
set_option linter.unusedVariables false
set_option maxRecDepth 100000

/-- DivRound of numbers that are not too great -/
theorem divP_any (a b : Int) (w : World) (h1 : -1000000000000 ≤ a) (h2 : a ≤ 1000000000000) (hb : 0 < b) (h4 : b ≤ 1000000000000) :
    Calls Tryz.prog 35 #[.int .i64 a, .int .i64 b] w fun e w' => e = .returned (.int .i64 (Ar.dr a b)) ∧ w = w' := by
  have C := implDivRound_any a b w
  have e : Ar.dR a b = Ar.dr a b := by unfold Ar.dR; rw [if_neg (by omega)]
  rw [e] at C
  exact C
set_option maxHeartbeats 800000 in
theorem energyLineOf_any (w : World) (b off cap : Nat) (xs : List Pth) (P : PtAt w b off xs) (o : An.Ok xs) (t : Int) :
    Calls Tryz.prog 27 #[.slice (some ⟨b, off, none⟩) xs.length cap, .int .i64 t] w fun e w' => e = .returned (.agg #[.int .i64 (1000 * (An.nd xs 0).he), .int .i64 t]) ∧ Below w.heap.size w w' := by
  have n2 := o.n2
  obtain ⟨z0, z1⟩ := P.zero (by omega)
  have hbl : b < w.heap.size := World.block_lt_of_cell? w _ z0
  have f3 := o.hl 0 (by omega)
  have f5 := o.h9 0 (by omega)
  have hz : (0 : Int) < (xs.length : Int) := by omega
  clear P o
  generalize (An.nd xs 0).he = y0 at *
  go_enter Tryz.func27, Tryz.ntmps27
  go_wp2_with fail
  exact bodyPost_ret (v := .agg #[.int .i64 (1000 * y0), .int .i64 t]) (by simp [results, Tryz.results27, go_sem]) rfl ⟨rfl, (Below.refl _ _).alloc (Nat.le_refl _) _⟩
set_option maxHeartbeats 800000 in
theorem lineHeight_any (y t d : Int) (w : World) (h1 : 0 ≤ y) (h2 : y ≤ 9000000) (h3 : 0 ≤ t) (h4 : t ≤ 3000) (h5 : 0 ≤ d) (h6 : d ≤ 20000) :
    Calls Tryz.prog 28 #[.agg #[.int .i64 y, .int .i64 t], .int .i64 d] w fun e w' => e = .returned (.int .i64 (y - t * d)) ∧ Below w.heap.size w w' := by
  have c := Int.mul_nonneg h3 h5
  have c2 := Int.mul_le_mul h4 h6 h5 (by omega)
  have m1 : wrap64 (t * d) = t * d := IntWalk.wrap64_in _ ⟨by omega, by omega⟩
  have B0 := Lib.hid ((Below.refl w.heap.size w).alloc (Nat.le_refl _) (.cells #[.int .i64 y, .int .i64 t] 59))
  clear h3 h4 h5 h6
  go_enter Tryz.func28, Tryz.ntmps28
  go_wp2_with fail
  go_ret
  exact ⟨rfl, B0.out⟩
set_option maxHeartbeats 800000 in
theorem inLeg_any (w : World) (g1 g2 b off cap : Nat) (xs : List Pth) (d : Int) (k1 : w.cell? ⟨g1, 0, none⟩ = some (.slice (some ⟨b, off, none⟩) xs.length cap)) (k2 : w.cell? ⟨g2, 0, none⟩ = some (.int .i64 d)) (P : PtAt w b off xs) (i : Nat) (hi : i + 1 < xs.length) (hl : xs.length ≤ 24) :
    Calls Tryz.prog 49 (#[.int .i64 (i : Int)] ++ #[.pointer (some ⟨g2, 0, none⟩), .pointer (some ⟨g1, 0, none⟩)]) w fun e w' => e = .returned (.bool (decide (d ≤ (An.nd xs (i + 1)).di))) ∧ Below w.heap.size w w' := by
  obtain ⟨c0, -⟩ := P (i + 1) hi
  have hz : ((i : Int) + 1) < (xs.length : Int) := by omega
  clear P
  generalize (An.nd xs (i + 1)).di = x at *
  go_enter Tryz.func49, Tryz.ntmps49
  go_wp2_with fail
  go_quiet (fail)
  go_wp2_with fail
  go_ret
  exact ⟨rfl, below_drewW _ _⟩
set_option maxHeartbeats 3200000 in
theorem groundHeight_any (w : World) (b off cap : Nat) (xs : List Pth) (P : PtAt w b off xs) (o : An.Ok xs) (d : Int) (h0 : 0 ≤ d) (h1 : d ≤ An.la xs) :
    Calls Tryz.prog 26 #[.slice (some ⟨b, off, none⟩) xs.length cap, .int .i64 d] w fun e w' => e = .returned (.int .i64 (An.gr xs d)) ∧ Below w.heap.size w w' := by
  have hla := o.last
  have n24 := o.n24
  have n2 := o.n2
  have HD : Hid (0 ≤ d ∧ d ≤ 20000) := Lib.hid ⟨h0, by omega⟩
  have G := Lib.hid (An.gi_spec o h1)
  obtain ⟨W1, hW1⟩ : ∃ W, W = (w.alloc (.cells #[.slice (some ⟨b, off, none⟩) xs.length cap] 57)).alloc (.cells #[.int .i64 d] 2) := ⟨_, rfl⟩
  have K1 : Whole W1 w.heap.size 57 #[.slice (some ⟨b, off, none⟩) xs.length cap] := by rw [hW1]; exact Whole.alloc (Whole.new _ _ _) _
  have K2 : Whole W1 (w.heap.size + 1) 2 #[.int .i64 d] := by
    have := Whole.new (w.alloc (.cells #[.slice (some ⟨b, off, none⟩) xs.length cap] 57)) 2 #[.int .i64 d]
    rw [hW1]; simpa using this
  have HB : Hid (Below w.heap.size w W1) := Lib.hid (by
    rw [hW1]
    exact ((Below.refl w.heap.size w).alloc (Nat.le_refl _) (.cells #[.slice (some ⟨b, off, none⟩) xs.length cap] 57)).alloc (by simp) (.cells #[.int .i64 d] 2))
  have SC : Hid (Calls Tryz.prog 48 #[.int .i64 ((xs.length - 1 : Nat) : Int), .func (.func 49) #[] #[.pointer (some ⟨w.heap.size + 1, 0, none⟩), .pointer (some ⟨w.heap.size, 0, none⟩)]] W1 (SrchB (xs.length - 1) (fun k => decide (d ≤ (An.nd xs (k + 1)).di)) W1)) :=
    Lib.hid (searchV_any 49 #[.pointer (some ⟨w.heap.size + 1, 0, none⟩), .pointer (some ⟨w.heap.size, 0, none⟩)] (enters_of Tryz.func49 (by kernel_rfl) rfl) (xs.length - 1) (fun k => decide (d ≤ (An.nd xs (k + 1)).di)) W1 (by omega)
      (fun W i hb hi => inLeg_any W w.heap.size (w.heap.size + 1) b off cap xs d ((K1.all hb).at_ 0) ((K2.all hb).at_ 0) (P.below (bt HB.out hb)) i (by omega) n24)
      (fun a c hac hc ha => decide_eq_true (by
        have := of_decide_eq_true ha
        have := o.le (show a + 1 ≤ c + 1 by omega) (by omega)
        omega)))
  have HK := Lib.hid (fun W (hb : Below W1.heap.size W1 W) => (⟨(K1.all hb).at_ 0, (K2.all hb).at_ 0⟩ : W.cell? ⟨w.heap.size, 0, none⟩ = some (.slice (some ⟨b, off, none⟩) xs.length cap) ∧ W.cell? ⟨w.heap.size + 1, 0, none⟩ = some (.int .i64 d)))
  have HP := Lib.hid (fun W (hb : Below W1.heap.size W1 W) => PtAt.below P (bt HB.out hb))
  obtain ⟨k1, k2⟩ := HK.out W1 (Below.refl _ _)
  have HO := Lib.hid o
  have E : Hid (Ar.line (An.nd xs (An.gi xs d)).di (1000 * (An.nd xs (An.gi xs d)).he) (An.nd xs (An.gi xs d + 1)).di (1000 * (An.nd xs (An.gi xs d + 1)).he) d = An.gr xs d) := Lib.hid rfl
  have GE := Lib.hid (fun k (h1 : k ≤ xs.length - 1) (h2 : ∀ i, i < k → decide (d ≤ (An.nd xs (i + 1)).di) = false) (h3 : ∀ a, k ≤ a → a < xs.length - 1 → decide (d ≤ (An.nd xs (a + 1)).di) = true) => (show An.gi xs d = k from An.fi_eq h1 h2 (fun h => h3 k (Nat.le_refl _) h)))
  have hsz : W1.heap.size = w.heap.size + 2 := by rw [hW1]; simp
  have m1 : IntKind.i64.wrap ((xs.length : Int) - 1) = ((xs.length - 1 : Nat) : Int) := by
    have : ((xs.length : Int) - 1) = ((xs.length - 1 : Nat) : Int) := by omega
    rw [this]; exact wrap_in (by omega) (by omega)
  clear K1 K2 P o h0 h1 hla
  subst hW1
  go_enter Tryz.func26, Tryz.ntmps26
  go_wp2_with fail
  refine SC.out.mono ?_
  rintro e w1 ⟨k, hk, rfl, hlo, hhi, bb1⟩
  have B1 := Lib.hid (bt HB.out bb1)
  have hgk := Lib.hid (GE.out k hk hlo hhi)
  obtain ⟨k1, k2⟩ := HK.out _ bb1
  have hk1 : k + 1 < xs.length := by have := G.out.1; rw [hgk.out] at this; exact this
  obtain ⟨c0, c1⟩ := HP.out _ bb1 k (by omega)
  obtain ⟨d0, d1⟩ := HP.out _ bb1 (k + 1) hk1
  have f1 := HO.out.dl k (by omega)
  have f2 := HO.out.dh k (by omega)
  have f3 := HO.out.hl k (by omega)
  have f4 := HO.out.h9 k (by omega)
  have g1 := HO.out.dl (k + 1) hk1
  have g2 := HO.out.dh (k + 1) hk1
  have g3 := HO.out.hl (k + 1) hk1
  have g4 := HO.out.h9 (k + 1) hk1
  have hdb := HD.out
  have C := Lib.hid (fun W => lineAt_any (An.nd xs k).di (1000 * (An.nd xs k).he) (An.nd xs (k + 1)).di (1000 * (An.nd xs (k + 1)).he) d W (by omega) (by omega) (by omega) (by omega) (by omega) (by omega) (by omega) (by omega))
  have E2 : Hid (Ar.line (An.nd xs k).di (1000 * (An.nd xs k).he) (An.nd xs (k + 1)).di (1000 * (An.nd xs (k + 1)).he) d = An.gr xs d) := Lib.hid (by rw [← E.out, hgk.out])
  have hkz : (k : Int) < (xs.length : Int) := by omega
  have hkz1 : ((k : Int) + 1) < (xs.length : Int) := by omega
  have hbl : b < w1.heap.size := World.block_lt_of_cell? w1 _ c0
  have hgl : w.heap.size + 1 < w1.heap.size := World.block_lt_of_cell? w1 _ k2
  have hgl0 : w.heap.size < w1.heap.size := by omega
  rw [E2.out] at C
  have l4 : w.heap.size < w1.heap.size + 1 := by omega
  have l5 : w.heap.size + 1 < w1.heap.size + 1 := by omega
  have l6 : b < w1.heap.size + 1 := by omega
  have l8 : (0 : Int) ≤ (k : Int) + 1 := by omega
  have hwm : IntKind.i64.wrap ((k : Int) + 1) = (k : Int) + 1 := wrap_in (by omega) (by omega)
  have hwn : ((k : Int) + 1).toNat = k + 1 := by omega
  have A := fun (q : Nat) (v0 v1 : Value) (o : Obj) => Whole.alloc (Whole.new (w1.drewN q) 36 #[v0, v1]) o
  have a0 : ∀ (q : Nat) (v0 v1 : Value) (o : Obj), (((w1.drewN q).alloc (.cells #[v0, v1] 36)).alloc o).cell? ⟨w1.heap.size, 0, none⟩ = some v0 := fun q v0 v1 o => (A q v0 v1 o).at_ 0
  have b0 : ∀ (q : Nat) (v0 v1 : Value) (o : Obj), (((w1.drewN q).alloc (.cells #[v0, v1] 36)).alloc o).frozen? ⟨w1.heap.size, 0, none⟩ = false := fun q v0 v1 o => (A q v0 v1 o).free 0
  have s0 : ∀ (q : Nat) (v0 v1 u : Value), ((w1.drewN q).alloc (.cells #[v0, v1] 36)).setCell ⟨w1.heap.size, 0, none⟩ u = (w1.drewN q).alloc (.cells #[u, v1] 36) := fun q v0 v1 u => World.setCell_alloc_at (w := w1.drewN q) _ _ _ _ _ rfl
  have a1 : ∀ (q : Nat) (v0 v1 : Value) (o : Obj), (((w1.drewN q).alloc (.cells #[v0, v1] 36)).alloc o).cell? ⟨w1.heap.size, 1, none⟩ = some v1 := fun q v0 v1 o => (A q v0 v1 o).at_ 1
  have b1 : ∀ (q : Nat) (v0 v1 : Value) (o : Obj), (((w1.drewN q).alloc (.cells #[v0, v1] 36)).alloc o).frozen? ⟨w1.heap.size, 1, none⟩ = false := fun q v0 v1 o => (A q v0 v1 o).free 1
  have s1 : ∀ (q : Nat) (v0 v1 u : Value), ((w1.drewN q).alloc (.cells #[v0, v1] 36)).setCell ⟨w1.heap.size, 1, none⟩ u = (w1.drewN q).alloc (.cells #[v0, u] 36) := fun q v0 v1 u => World.setCell_alloc_at (w := w1.drewN q) _ _ _ _ _ rfl
  have kk : ∀ (q : Nat) (o o' : Obj), (((w1.drewN q).alloc o).alloc o').cell? ⟨w.heap.size + 1, 0, none⟩ = some (.int .i64 d) := fun q o o' => by
    have b : Below w1.heap.size w1 (((w1.drewN q).alloc o).alloc o') := ((below_drewW w1 q).alloc (Nat.le_refl _) o).alloc (by simp) o'
    exact (b.cell (p := ⟨w.heap.size + 1, 0, none⟩) hgl).trans k2
  have BF := fun (q : Nat) (o o' : Obj) => Lib.hid (((below_drewN B1.out q).alloc B1.out.size o).alloc (by have := B1.out.size; simp; omega) o')
  clear A SC hlo hhi bb1 GE G HP HK HO E E2 hgk hk HB hdb HD hsz hgl0
  generalize (An.nd xs k).he = y0 at *
  generalize (An.nd xs k).di = x0 at *
  generalize (An.nd xs (k + 1)).he = y1 at *
  generalize (An.nd xs (k + 1)).di = x1 at *
  go_wp2_with fail
  go_region_held3 (fun w' => w'.cell? ⟨w.heap.size, 0, none⟩ = some (.slice (some ⟨b, off, none⟩) xs.length cap) ∧ w'.cell? ⟨b, off + k * 2, none⟩ = some (.int .i64 x0) ∧ w'.cell? ⟨b, off + k * 2 + 1, none⟩ = some (.int .i64 y0) ∧ w'.cell? ⟨b, off + (k + 1) * 2, none⟩ = some (.int .i64 x1) ∧ w'.cell? ⟨b, off + (k + 1) * 2 + 1, none⟩ = some (.int .i64 y1)) (go_keep) (fail)
  all_goals
    go_wp2_with fail
    refine (C.out _).mono ?_
    rintro e w5 ⟨rfl, rfl⟩
    go_wp2_with fail
    go_ret
    exact ⟨rfl, (BF _ _ _).out⟩
end Go.Proofs.YtmieckchppfogaaGreatDoor
