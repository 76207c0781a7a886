/-
  The slope from a cell to another, answered or refused, by the program. The conditions: the table of ways as it is laid.
-/
import Derived.Test.YtobcflcmlejajabDoorTrP
namespace Go.Proofs.YtobcflcmlejajabDoor
open Go.RowKit Go.Shelf Go.Deep
set_option linter.unusedVariables false
set_option maxRecDepth 100000
set_option maxHeartbeats 3200000 in
theorem slopeTo_no (w : World) (r c s : Int) (v : Value) (k z e0 : Int) (h0 : e0 ≠ 0)
    (hc : Calls Tryd.prog 65 #[.agg #[.int .i64 r, .int .i64 c, .int .i64 s, v], .slice (some ⟨w.heap.size + 3, 0, none⟩) 2 2] (boxTo w r c s v k z) fun e w' => e = .returned (.int .i64 e0) ∧ Below (boxTo w r c s v k z).heap.size (boxTo w r c s v k z) w') :
    Calls Tryd.prog 27 #[.agg #[.int .i64 r, .int .i64 c, .int .i64 s, v], .int .i64 k, .int .i64 z] w fun e w' => e = .returned (.tuple #[.int .i64 0, .int .i64 e0]) ∧ Below w.heap.size w w' := by
  have HB := Lib.hid (boxTo_below w r c s v k z)
  have HR0 := Lib.hid (boxTo_r0 w r c s v k z)
  have HR1 := Lib.hid (boxTo_r1 w r c s v k z)
  have CC := Lib.hid hc
  clear hc
  obtain ⟨W4, hW4⟩ : ∃ W4, boxTo w r c s v k z = W4 := ⟨_, rfl⟩
  have hWW := hW4
  rw [hW4] at HB HR0 HR1 CC
  unfold boxTo at hWW
  clear hW4
  go_enter Tryd.func27, Tryd.ntmps27
  go_wp2_with fail
  refine CC.out.mono ?_
  rintro e w1 ⟨rfl, b1⟩
  have B1 := Lib.hid (bt HB.out b1)
  have Q0 := Lib.hid (HR0.out.all b1)
  have Q1 : Hid (Whole w1 (w.heap.size + 1 + 1) 2 #[.int .i64 0]) := Lib.hid (HR1.out.all b1)
  have u0 := Q0.out.at_ 0; have u1 := Q0.out.free 0; have v0 := Q1.out.at_ 0; have v1 := Q1.out.free 0
  clear b1 CC hWW
  go_wp2_with fail
  have BP := Lib.hid (Below.setCell (p := ⟨w.heap.size + 1 + 1, 0, none⟩) (Below.setCell (p := ⟨w.heap.size + 1, 0, none⟩) B1.out (by show w.heap.size ≤ w.heap.size + 1; omega) (.int .i64 0)) (by show w.heap.size ≤ w.heap.size + 1 + 1; omega) (.int .i64 e0))
  have P1 : Hid (Whole ((w1.setCell ⟨w.heap.size + 1, 0, none⟩ (.int .i64 0)).setCell ⟨w.heap.size + 1 + 1, 0, none⟩ (.int .i64 e0)) (w.heap.size + 1) 2 #[.int .i64 0]) := Lib.hid ((BX.put (n := w.heap.size + 2) (x := w.heap.size + 1 + 1) _ 0 _).whole (by have := Q0.out.put 0 (.int .i64 0); simpa using this) (by omega) (by omega))
  have P2 : Hid (Whole ((w1.setCell ⟨w.heap.size + 1, 0, none⟩ (.int .i64 0)).setCell ⟨w.heap.size + 1 + 1, 0, none⟩ (.int .i64 e0)) (w.heap.size + 1 + 1) 2 #[.int .i64 e0]) := Lib.hid (by
    have := ((BX.put (n := w.heap.size + 3) (x := w.heap.size + 1) w1 0 (.int .i64 0)).whole Q1.out (by omega) (by omega)).put 0 (.int .i64 e0)
    simpa using this)
  generalize (w1.setCell ⟨w.heap.size + 1, 0, none⟩ (.int .i64 0)).setCell ⟨w.heap.size + 1 + 1, 0, none⟩ (.int .i64 e0) = W9 at *
  have c1' := P1.out.at_ 0
  have c2' := P2.out.at_ 0
  exact bodyPost_ret (v := .tuple #[.int .i64 0, .int .i64 e0]) (by simp [results, Tryd.results27, go_sem, c1', c2']) rfl ⟨rfl, BP.out⟩
theorem implSlopeTo_any (w : World) (r c s : Int) (v : Value) (zs : List Int) (k z : Int) (ho : IAt w v zs) (hl : zs.length ≤ 1048576) (hA : AspAt w) :
    Calls Tryd.prog 27 #[.agg #[.int .i64 r, .int .i64 c, .int .i64 s, v], .int .i64 k, .int .i64 z] w fun e w' => e = .returned (.tuple #[.int .i64 (Gw.toR r c s zs k z).1, .int .i64 (Gw.toR r c s zs k z).2]) ∧ Below w.heap.size w w' := by
  have CC := cellsCode_any (boxTo w r c s v k z) r c s v _ zs [k, z] (ho.sl.below (boxTo_below w r c s v k z)) (boxTo_sl w r c s v k z) hl (by simp)
  have hany : (!([k, z].any fun x => !Ar.inB 0 x (zs.length - 1))) = (Ar.inB 0 k (zs.length - 1) && Ar.inB 0 z (zs.length - 1)) := by simp
  rw [hany] at CC
  cases hq : Gw.ok r c s zs with
  | false =>
    rw [hq, Cd.cd_f] at CC
    rw [Gw.to_bad hq]
    exact slopeTo_no w r c s v k z 1 (by decide) CC
  | true =>
    have G := (Gw.ok_iff _ _ _ _).1 hq
    have hb : ∀ x, Ar.inB 0 x (zs.length - 1) = Gw.isCell r c x := fun x => by unfold Gw.isCell; rw [G.n]
    rw [hq, hb, hb] at CC
    cases hi : Gw.isCell r c k with
    | false =>
      rw [hi, Bool.false_and, Cd.cd_tf] at CC
      rw [Gw.to_out hq hi]
      exact slopeTo_no w r c s v k z 2 (by decide) CC
    | true =>
      cases hj : Gw.isCell r c z with
      | false =>
        rw [hi, hj, Bool.and_false, Cd.cd_tf] at CC
        rw [Gw.to_out2 hq hi hj]
        exact slopeTo_no w r c s v k z 2 (by decide) CC
      | true =>
        rw [hi, hj, Bool.and_true, Cd.cd_t] at CC
        obtain ⟨k1, k2⟩ := Gw.isCell_bd hi G.r1 G.r2 G.c1 G.c2
        obtain ⟨z1, z2⟩ := Gw.isCell_bd hj G.r1 G.r2 G.c1 G.c2
        have hkl : k.toNat < zs.length := Gw.isCell_lt hi G.n
        have hzl : z.toNat < zs.length := Gw.isCell_lt hj G.n
        obtain ⟨R, rfl⟩ : ∃ R : Nat, r = (R : Int) := ⟨r.toNat, (Int.toNat_of_nonneg (by have := G.r1; omega)).symm⟩
        obtain ⟨C, rfl⟩ : ∃ C : Nat, c = (C : Int) := ⟨c.toNat, (Int.toNat_of_nonneg (by have := G.c1; omega)).symm⟩
        obtain ⟨kn, rfl⟩ : ∃ kn : Nat, k = (kn : Int) := ⟨k.toNat, (Int.toNat_of_nonneg k1).symm⟩
        obtain ⟨zn, rfl⟩ : ∃ zn : Nat, z = (zn : Int) := ⟨z.toNat, (Int.toNat_of_nonneg z1).symm⟩
        rw [Int.toNat_natCast] at hkl hzl
        obtain ⟨Bo, g0, cap, rfl, hown⟩ := ho
        refine (callsIn_wide.1 (slopeTo_in 8 (Nat.le_refl _) w R C kn zn g0 cap Bo s zs G hkl hzl hown hA CC)).mono ?_
        rintro e w' ⟨⟨a, hw, rfl⟩ | ⟨hw, rfl⟩, hB⟩
        · rw [Gw.to_yes hq hi hj hw]; exact ⟨rfl, hB⟩
        · rw [Gw.to_no hq hi hj hw]; exact ⟨rfl, hB⟩
end Go.Proofs.YtobcflcmlejajabDoor
