/-
  The walk of the law FnExactWindName and what it stands on: For every int64 the program's WindName answers as its model, where impl.windNames holds what the program's text lays (tied by the card): the law returns true and writes nothing that was there. No other condition.
-/
import Derived.Test.YtnflndngkihaaaaDoorRows
import Derived.Test.YtnflndngkihaaaaDoorNames
import Derived.WalkKit
import Derived.WalkSpells
import Derived.WalkLawsBesides
import Derived.Outline
import Derived.IntWalk
import Derived.Lib.Hide
import Derived.ProofKit
import Derived.OpenShut
import Derived.ShutString
import Derived.ChangeOld
import Derived.ChangeVars
import Derived.Below
import Derived.WalkSmall
import Derived.Lib.LaidTab
import Derived.LaidMore
import Derived.LaidSub
namespace Go.Proofs.YtnflndngkihaaaaDoor.fnExactWindName
open Go.ChangeShapes Go.WideShapes Go.ChangeAt Go.RowKit
open Go.ChangeMaps (open_string shut_string)
set_option linter.unusedVariables false
/-- the names -/
def names : List (List UInt8) := [[110, 111, 114, 116, 104], [101, 97, 115, 116], [115, 111, 117, 116, 104], [119, 101, 115, 116]]
/-- the name of a number -/
def nameOf (a : Int) : ByteArray := if 0 ≤ a ∧ a ≤ 3 then ⟨(names.getD a.toNat []).toArray⟩ else ⟨#[]⟩
theorem gName : Tryd.prog.globalNamed "loop.example/g01013/impl.windNames" = some 1 := by kernel_rfl
theorem tName : (Tryd.prog.globals[1]?).map (·.type) = some 65 := by kernel_rfl
theorem cName : Tryd.prog.cellsOf 9 = 1 := by kernel_rfl
set_option maxHeartbeats 1600000 in
theorem wind_spec (a : Int) (w : World) : Calls Tryd.prog 61 #[.int .i64 a] w fun e w' => e = .returned (.string (nameOf a)) ∧ Below w.heap.size w w' := by
  rcases in_cases 0 a 3 with ⟨h1, h2, hi⟩ | ⟨hn, hi⟩
  · have hc : a = 0 ∨ a = 1 ∨ a = 2 ∨ a = 3 := by omega
    clear h1 h2
    rcases hc with rfl | rfl | rfl | rfl
    all_goals
      go_enter Tryd.func61, Tryd.ntmps61
      go_wp2_with (go_at_call 46; refine (l00In_any _ _ _ _).mono ?_; rintro e w' ⟨rfl, rfl⟩)
      go_ret
      exact ⟨rfl, (Below.refl _ _).alloc (Nat.le_refl _) _⟩
  · have hz : Hid (nameOf a = ⟨#[]⟩) := Lib.hid (by unfold nameOf; rw [if_neg hn])
    clear hn
    go_enter Tryd.func61, Tryd.ntmps61
    go_wp2_with (go_at_call 46; refine (l00In_any _ _ _ _).mono ?_; rintro e w' ⟨rfl, rfl⟩)
    go_ret
    exact ⟨ret_str hz.out.symm, (Below.refl _ _).alloc (Nat.le_refl _) _⟩
theorem spec_any (a : Int) (w : World) : Calls Tryd.prog 31 #[.int .i64 a] w fun e w' => e = .returned (.string (nameOf a)) ∧ Below w.heap.size w w' := by
  go_enter Tryd.func31, Tryd.ntmps31
  go_wp2_with fail
  refine (wind_spec _ _).mono ?_
  rintro e w1 ⟨rfl, b1⟩
  have B1 := Lib.hid b1
  clear b1
  go_wp2_with fail
  go_ret
  exact ⟨rfl, B1.out⟩
set_option maxHeartbeats 1600000 in
theorem impl_any (a : Int) (w : World) (hc : ∀ (i : Nat) (b : List UInt8), names[i]? = some b → i < 4 → w.cell? ⟨1, i, none⟩ = some (.string ⟨b.toArray⟩)) :
    Calls Tryd.prog 32 #[.int .i64 a] w fun e w' => e = .returned (.string (nameOf a)) ∧ w = w' := by
  rcases in_cases 0 a 3 with ⟨h1, h2, hi⟩ | ⟨hn, hi⟩
  · have c0 := hc 0 _ rfl (by omega)
    have c1 := hc 1 _ rfl (by omega)
    have c2 := hc 2 _ rfl (by omega)
    have c3 := hc 3 _ rfl (by omega)
    have hcs : a = 0 ∨ a = 1 ∨ a = 2 ∨ a = 3 := by omega
    clear h1 h2 hc
    rcases hcs with rfl | rfl | rfl | rfl
    all_goals
      go_enter Tryd.func32, Tryd.ntmps32
      go_wp2_with (go_at_call 38; refine (within_any _ _ _ _).mono ?_; rintro e w' ⟨rfl, rfl⟩)
      go_ret
      exact ⟨rfl, rfl⟩
  · have hz : Hid (nameOf a = ⟨#[]⟩) := Lib.hid (by unfold nameOf; rw [if_neg hn])
    clear hn hc
    go_enter Tryd.func32, Tryd.ntmps32
    go_wp2_with (go_at_call 38; refine (within_any _ _ _ _).mono ?_; rintro e w' ⟨rfl, rfl⟩)
    go_ret
    exact ⟨ret_str hz.out.symm, rfl⟩
theorem walk (a0 : Int) (w : World) (w0 : (Lit.int .i64 a0).wf = true) (hL : laidMetH Tryd.prog Rows.fnExactWindNameRow.laid w) (hsh : w.ShapedOpen Tryd.prog) :
    Calls Tryd.prog 12 #[.int .i64 a0] w fun e w' => e = .returned (.bool true) ∧ Below w.heap.size w w' := by
  have HC := Lib.hid (texts_of (ss := names) hL (by kernel_rfl) gName tName Tryd.underlying65 Tryd.underlying9 cName)
  clear hL hsh w0
  go_enter Tryd.func12, Tryd.ntmps12
  go_wp2_with fail
  refine (spec_any _ _).mono ?_
  rintro e w1 ⟨rfl, b1⟩
  have B1 := Lib.hid b1
  have H1 := Lib.hid (texts_below HC.out b1)
  clear b1
  go_wp2_with fail
  refine (impl_any _ _ H1.out).mono ?_
  rintro e w2 ⟨rfl, rfl⟩
  go_wp2_with fail
  go_ret
  exact ⟨rfl, B1.out⟩
end Go.Proofs.YtnflndngkihaaaaDoor.fnExactWindName
