/-
  The walk of the law FnExactAspectName and what it stands on: For every int64 the program's AspectName answers as its model, where impl.aspectNames holds what the program's text lays (tied by the card): the law returns true and writes nothing that was there. No other condition.
-/
import Derived.Test.YteileaeeiejonacDoorRows
import Derived.Test.YteileaeeiejonacDoorNames
import Derived.WalkKit
import Derived.WalkSpells
import Derived.WalkLawsBesides
import Derived.Outline
import Derived.IntWalk
import Derived.Lib.Hide
import Derived.ProofKit
import Derived.OpenShut
import Derived.ShutString
import Derived.ChangeOld
import Derived.ChangeVars
import Derived.Below
import Derived.WalkSmall
import Derived.Lib.LaidTab
import Derived.LaidMore
import Derived.LaidSub
namespace Go.Proofs.YteileaeeiejonacDoor.fnExactAspectName
open Go.ChangeShapes Go.WideShapes Go.ChangeAt Go.RowKit
open Go.ChangeMaps (open_string shut_string)
set_option linter.unusedVariables false
set_option maxRecDepth 100000
/-- the names -/
def names : List (List UInt8) := [[78], [78, 69], [69], [83, 69], [83], [83, 87], [87], [78, 87]]
/-- the name of a direction -/
def nameOf (a : Int) : ByteArray := if 0 ≤ a ∧ a ≤ 7 then ⟨(names.getD a.toNat []).toArray⟩ else ⟨#[]⟩
theorem gName : Tryd.prog.globalNamed "loop.example/g01013/impl.aspectNames" = some 0 := by kernel_rfl
theorem tName : (Tryd.prog.globals[0]?).map (·.type) = some 71 := by kernel_rfl
theorem cName : Tryd.prog.cellsOf 9 = 1 := by kernel_rfl
set_option maxHeartbeats 1600000 in
theorem spec_any (a : Int) (w : World) : Calls Tryd.prog 10 #[.int .i64 a] w fun e w' => e = .returned (.string (nameOf a)) ∧ Below w.heap.size w w' := by
  rcases in_cases 0 a 7 with ⟨h1, h2, hi⟩ | ⟨hn, hi⟩
  · have hc : a = 0 ∨ a = 1 ∨ a = 2 ∨ a = 3 ∨ a = 4 ∨ a = 5 ∨ a = 6 ∨ a = 7 := by omega
    clear h1 h2
    rcases hc with rfl | rfl | rfl | rfl | rfl | rfl | rfl | rfl
    all_goals
      go_enter Tryd.func10, Tryd.ntmps10
      go_wp2_with (go_at_call 44; refine (l00In_any _ _ _ _).mono ?_; rintro e w' ⟨rfl, rfl⟩)
      go_ret
      exact ⟨rfl, (Below.refl _ _).alloc (Nat.le_refl _) _⟩
  · have hz : Hid (nameOf a = ⟨#[]⟩) := Lib.hid (by unfold nameOf; rw [if_neg hn])
    clear hn
    go_enter Tryd.func10, Tryd.ntmps10
    go_wp2_with (go_at_call 44; refine (l00In_any _ _ _ _).mono ?_; rintro e w' ⟨rfl, rfl⟩)
    go_ret
    exact ⟨ret_str hz.out.symm, Below.refl _ _⟩
set_option maxHeartbeats 1600000 in
theorem impl_any (a : Int) (w : World) (hc : ∀ (i : Nat) (b : List UInt8), names[i]? = some b → i < 8 → w.cell? ⟨0, i, none⟩ = some (.string ⟨b.toArray⟩)) :
    Calls Tryd.prog 11 #[.int .i64 a] w fun e w' => e = .returned (.string (nameOf a)) ∧ w = w' := by
  rcases in_cases 0 a 7 with ⟨h1, h2, hi⟩ | ⟨hn, hi⟩
  · have c0 := hc 0 _ rfl (by omega)
    have c1 := hc 1 _ rfl (by omega)
    have c2 := hc 2 _ rfl (by omega)
    have c3 := hc 3 _ rfl (by omega)
    have c4 := hc 4 _ rfl (by omega)
    have c5 := hc 5 _ rfl (by omega)
    have c6 := hc 6 _ rfl (by omega)
    have c7 := hc 7 _ rfl (by omega)
    have hcs : a = 0 ∨ a = 1 ∨ a = 2 ∨ a = 3 ∨ a = 4 ∨ a = 5 ∨ a = 6 ∨ a = 7 := by omega
    clear h1 h2 hc
    rcases hcs with rfl | rfl | rfl | rfl | rfl | rfl | rfl | rfl
    all_goals
      go_enter Tryd.func11, Tryd.ntmps11
      go_wp2_with (go_at_call 45; refine (within_any _ _ _ _).mono ?_; rintro e w' ⟨rfl, rfl⟩)
      go_ret
      exact ⟨rfl, rfl⟩
  · have hz : Hid (nameOf a = ⟨#[]⟩) := Lib.hid (by unfold nameOf; rw [if_neg hn])
    clear hn hc
    go_enter Tryd.func11, Tryd.ntmps11
    go_wp2_with (go_at_call 45; refine (within_any _ _ _ _).mono ?_; rintro e w' ⟨rfl, rfl⟩)
    go_ret
    exact ⟨ret_str hz.out.symm, rfl⟩
theorem walk (a0 : Int) (w : World) (w0 : (Lit.int .i64 a0).wf = true) (hL : laidMetH Tryd.prog Rows.fnExactAspectNameRow.laid w) (hsh : w.ShapedOpen Tryd.prog) :
    Calls Tryd.prog 3 #[.int .i64 a0] w fun e w' => e = .returned (.bool true) ∧ Below w.heap.size w w' := by
  have HC := Lib.hid (texts_of (ss := names) hL (by kernel_rfl) gName tName Tryd.underlying71 Tryd.underlying9 cName)
  clear hL hsh w0
  go_enter Tryd.func3, Tryd.ntmps3
  go_wp2_with fail
  refine (spec_any _ _).mono ?_
  rintro e w1 ⟨rfl, b1⟩
  have B1 := Lib.hid b1
  have H1 := Lib.hid (texts_below HC.out b1)
  clear b1
  go_wp2_with fail
  refine (impl_any _ _ H1.out).mono ?_
  rintro e w2 ⟨rfl, rfl⟩
  go_wp2_with fail
  go_ret
  exact ⟨rfl, B1.out⟩
end Go.Proofs.YteileaeeiejonacDoor.fnExactAspectName
