/-
  failsUnder and failsAt of chapter 7 by the program. Its condition: impl.strengthFactors holds what the program's text lays.
-/
import Derived.Test.YteikghppebiibaaDoorStL
namespace Go.Proofs.YteikghppebiibaaDoor
open Go.RowKit Go.Shelf
set_option linter.unusedVariables false
set_option maxRecDepth 100000

set_option maxHeartbeats 3200000 in
theorem failsUnder_any (w : World) (v : Value) (xs : List Lay) (k : Nat) (ri ru d t : Int) (hv : LAs w v xs) (hf : Sb.Fine xs ri ru d) (hk : k ≤ 1000000) (hw : FactorsAt w) :
    Calls Tryd.prog 56 #[.agg #[v, .int .i64 ri, .int .i64 ru, .int .i64 d, .int .i64 t, .int .i64 0], .int .i64 (k : Int)] w fun e w' => e = .returned (.bool (!Sb.stb k ri ru d t xs)) ∧ Below w.heap.size w w' := by
  obtain ⟨W2, hW2⟩ : ∃ W, W = boxP w v ri ru d t k 66 := ⟨_, rfl⟩
  have HB : Hid (Below w.heap.size w W2) := Lib.hid (by rw [hW2]; exact boxP_below ..)
  have C := Lib.hid (isStable_any W2 v xs ri ru d t k (hv.all HB.out) hf (by omega) (by omega) (hw.below HB.out))
  have hbx : boxP w v ri ru d t k 66 = w.alloc (.cells #[v, .int .i64 ri, .int .i64 ru, .int .i64 d, .int .i64 t, .int .i64 k] 66) := rfl
  obtain ⟨a, cap, rfl⟩ := hv.sl.form
  clear hv hf hw
  generalize Sb.stb k ri ru d t xs = q at *
  go_enter Tryd.func56, Tryd.ntmps56
  go_wp2_with fail
  rw [← hbx, ← hW2]
  clear hbx hW2
  refine C.out.mono ?_
  rintro e w1 ⟨rfl, b1⟩
  have B1 := Lib.hid (bt HB.out b1)
  clear b1
  go_wp2_with fail
  go_ret
  exact ⟨rfl, B1.out⟩
set_option maxHeartbeats 3200000 in
theorem failsAt_any (w : World) (v : Value) (xs : List Lay) (k : Nat) (ru d t : Int) (hv : LAs w v xs) (hf : Sb.Fine xs k ru d) (hk : k ≤ 1000000) (hw : FactorsAt w) :
    Calls Tryd.prog 57 #[.agg #[v, .int .i64 0, .int .i64 ru, .int .i64 d, .int .i64 t, .int .i64 0], .int .i64 (k : Int)] w fun e w' => e = .returned (.bool (!Sb.stb 0 k ru d t xs)) ∧ Below w.heap.size w w' := by
  obtain ⟨W2, hW2⟩ : ∃ W, W = boxP w v k ru d t 0 66 := ⟨_, rfl⟩
  have HB : Hid (Below w.heap.size w W2) := Lib.hid (by rw [hW2]; exact boxP_below ..)
  have C := Lib.hid (isStable_any W2 v xs k ru d t 0 (hv.all HB.out) hf (by omega) (by omega) (hw.below HB.out))
  have hbx : boxP w v k ru d t 0 66 = w.alloc (.cells #[v, .int .i64 k, .int .i64 ru, .int .i64 d, .int .i64 t, .int .i64 0] 66) := rfl
  obtain ⟨a, cap, rfl⟩ := hv.sl.form
  clear hv hf hw
  generalize Sb.stb 0 k ru d t xs = q at *
  go_enter Tryd.func57, Tryd.ntmps57
  go_wp2_with fail
  rw [← hbx, ← hW2]
  clear hbx hW2
  refine C.out.mono ?_
  rintro e w1 ⟨rfl, b1⟩
  have B1 := Lib.hid (bt HB.out b1)
  clear b1
  go_wp2_with fail
  go_ret
  exact ⟨rfl, B1.out⟩
end Go.Proofs.YteikghppebiibaaDoor
