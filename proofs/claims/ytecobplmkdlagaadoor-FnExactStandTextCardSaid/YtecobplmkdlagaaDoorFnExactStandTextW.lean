/-
  The walk of the law FnExactStandText and what it stands on: For every stand (a name of any bytes, four int64 numbers) the program's StandText answers as its model: the law returns true and writes nothing that was there, where the library's listed variables hold what its text lays (tied by the card). No other condition (beyond 2^20 bytes of name the law itself returns true).
-/
import Derived.Test.YtecobplmkdlagaaDoorRows
import Derived.Test.YtecobplmkdlagaaDoorFoT
import Derived.Test.YtecobplmkdlagaaDoorStdL
import Derived.Test.YtecobplmkdlagaaDoorStdS
import Derived.WalkKit
import Derived.WalkSpells
import Derived.WalkLawsBesides
import Derived.Outline
import Derived.IntWalk
import Derived.Lib.Hide
import Derived.ProofKit
import Derived.OpenShut
import Derived.ShutString
import Derived.ChangeOld
import Derived.ChangeVars
import Derived.Below
import Derived.WalkSmall
import Derived.Lib.LaidTab
import Derived.LaidMore
import Derived.LaidSub
namespace Go.Proofs.YtecobplmkdlagaaDoor.fnExactStandText
open Go.ChangeShapes Go.WideShapes Go.ChangeAt Go.RowKit
open Go.ChangeMaps (open_string shut_string)
set_option linter.unusedVariables false
set_option maxRecDepth 100000
set_option maxHeartbeats 3200000
theorem walk (x0 : Std) (w : World) (bd0 : Sn.Bd x0) (hL : laidMetH Tryd.prog Rows.fnExactStandTextRow.laid w) (hsh : w.ShapedOpen Tryd.prog) :
    Calls Tryd.prog 4 #[.agg #[.string ⟨x0.id.toArray⟩, .int .i64 x0.tr, .int .i64 x0.he, .int .i64 x0.co, .int .i64 x0.ga]] w fun e w' => e = .returned (.bool true) ∧ Below w.heap.size w w' := by
  have HW := Lib.hid (pow_of hL (by kernel_rfl))
  clear hL hsh
  have T := fun W => Lib.hid (toStand_any x0 W)
  have HB := Lib.hid (boxStd_below w x0 36)
  have HK : Hid (∀ w1, Below (boxStd w x0 36).heap.size (boxStd w x0 36) w1 → SnCells w1 w.heap.size 0 x0) := Lib.hid (fun w1 h => boxStd_kept h)
  have BD := Lib.hid bd0
  clear bd0
  by_cases hs : Sn.szn x0 ≤ 1048576
  · have Z0 := Lib.hid (szStand_in x0 (boxStd w x0 36) 1048576 (by omega) (by omega))
    have hn : ¬ (1048576 : Int) - (Sn.szn x0 : Int) < 0 := by omega
    have hx : Sn.Sh1 x0 := Sn.sh1_of hs
    have C1 := fun W => Lib.hid (specStandText_any x0  W hx)
    have C2 := fun W h => Lib.hid (implStandText_any x0  W hx h)
    clear hx hs
    generalize Sn.szn x0 = sz at *
    try generalize Fo.stx x0 = r0 at *
    unfold boxStd at HB HK Z0
    go_enter Tryd.func4, Tryd.ntmps4
    go_wp2_with fail
    refine (Z0.out).mono ?_
    rintro e w1 ⟨rfl, b1⟩
    have B1 := Lib.hid b1
    clear b1
    obtain ⟨c0, c1, c2, c3, c4⟩ := (HK.out w1 B1.out).zero
    have hlt := World.block_lt_of_cell? w1 _ c0
    go_wp2_with fail
    refine ((T _).out).mono ?_
    rintro e w2 ⟨rfl, b2⟩
    clear c0 c1 c2 c3 c4 hlt
    have B2 := Lib.hid (bt B1.out b2)
    clear b2
    go_wp2_with fail
    refine ((C1 _).out).mono ?_
    rintro e w3 ⟨rfl, b3⟩
    have B3 := Lib.hid (bt B2.out b3)
    clear b3
    obtain ⟨c0, c1, c2, c3, c4⟩ := (HK.out w3 B3.out).zero
    have hlt := World.block_lt_of_cell? w3 _ c0
    go_wp2_with fail
    refine ((T _).out).mono ?_
    rintro e w4 ⟨rfl, b4⟩
    clear c0 c1 c2 c3 c4 hlt
    have B4 := Lib.hid (bt B3.out b4)
    clear b4
    go_wp2_with fail
    refine ((C2 _ ((HW.out.below (bt HB.out B4.out)))).out).mono ?_
    rintro e w5 ⟨rfl, b5⟩
    have B5 := Lib.hid (bt B4.out b5)
    clear b5
    go_wp2_with fail
    go_ret
    exact ⟨rfl, bt HB.out B5.out⟩
  · have Z0 := Lib.hid (szStand_out x0 (boxStd w x0 36) 1048576 BD.out (by omega) (by omega) (by omega))
    clear hs
    unfold boxStd at HB HK Z0
    go_enter Tryd.func4, Tryd.ntmps4
    go_wp2_with fail
    refine Z0.out.mono ?_
    rintro e w1 ⟨rfl, b1⟩
    have B1 := Lib.hid b1
    clear b1
    go_wp2_with fail
    go_ret
    exact ⟨rfl, bt HB.out B1.out⟩
end Go.Proofs.YtecobplmkdlagaaDoor.fnExactStandText
