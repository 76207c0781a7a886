/-
  The walk of the law FnExactJoinTonnes and what it stands on: For every slice of int64 (nil, shared and with spare room too) the program's JoinTonnes answers as its model and leaves its argument as it was: the law returns true and writes nothing that was there, where the table sizeLimits and the variable errTooGreat hold what their text lays (tied by the card). No other condition (beyond 2^20 numbers the law itself returns true).
-/
import Derived.Test.YtobcflcmlejajaaDoorRows
import Derived.Test.YtobcflcmlejajaaDoorVoP
import Derived.Test.YtobcflcmlejajaaDoorIntsM
import Derived.WalkKit
import Derived.WalkSpells
import Derived.WalkLawsBesides
import Derived.Outline
import Derived.IntWalk
import Derived.Lib.Hide
import Derived.ProofKit
import Derived.OpenShut
import Derived.ShutString
import Derived.ChangeOld
import Derived.ChangeVars
import Derived.Below
import Derived.WalkSmall
import Derived.Lib.LaidTab
import Derived.LaidMore
import Derived.LaidSub
namespace Go.Proofs.YtobcflcmlejajaaDoor.fnExactJoinTonnes
open Go.ChangeShapes Go.WideShapes Go.ChangeAt Go.RowKit
open Go.ChangeMaps (open_string shut_string)
set_option linter.unusedVariables false
def IsRow (k : IntKind) (w : World) (a : Option Addr) (len cap : Nat) (zs : List Int) : Prop :=
  (a = none ∧ len = 0 ∧ cap = 0 ∧ zs = []) ∨
  ∃ x, a = some x ∧ len ≤ cap ∧ cap ≤ maxLen ∧ zs.length = cap ∧ (∀ i, i < zs.length → w.cell? (x.add i) = some (.int k (zs.getD i 0))) ∧ ∀ n ∈ zs, (Lit.int k n).wf = true
set_option maxRecDepth 100000
set_option maxHeartbeats 3200000
theorem walk (a0 : Option Addr) (len0 cap0 : Nat) (z0 : List Int) (w : World) (w0 : IsRow .i64 w a0 len0 cap0 z0) (hL : laidMetH Tryd.prog Rows.fnExactJoinTonnesRow.laid w) (hsh : w.ShapedOpen Tryd.prog) :
    Calls Tryd.prog 7 #[.slice a0 len0 cap0] w fun e w' => e = .returned (.bool true) ∧ Below w.heap.size w w' := by
  obtain ⟨aT, HT0⟩ := tg_of hL (by kernel_rfl)
  have HT := Lib.hid HT0
  have HL := Lib.hid (lm_of hL (by kernel_rfl))
  clear hL hsh HT0
  obtain ⟨s0, hz0⟩ := Sl.of_row w0
  have hlm0 : len0 ≤ 9223372036854775807 := by rcases w0 with ⟨_, h, _⟩ | ⟨_, _, h1, h2, _⟩ <;> (try unfold maxLen at *) <;> omega
  clear w0
  generalize z0.take len0 = zs0 at *
  subst hz0
  by_cases hb0 : zs0.length ≤ 1048576
  · have hsn0 : ¬ (1048576 : Int) < zs0.length := by omega
    have hl0 : zs0.length ≤ 1048576 := by omega
    have HV0 := Lib.hid s0
    clear s0
    go_enter Tryd.func7, Tryd.ntmps7
    go_wp2_with fail
    refine (toInt64S_at _ _ zs0 HV0.out hl0).mono ?_
    rintro e v1 ⟨rfl, o1, b1⟩
    have zz1 := Lib.hid b1.size
    have B1 := Lib.hid b1
    have p0_1 := Lib.hid o1
    clear b1 o1
    go_wp2_with fail
    refine (specJoinTonnes_any _ _ zs0 p0_1.out.sl hl0).mono ?_
    rintro e v2 ⟨rfl, b2⟩
    clear p0_1
    have zz2 := Lib.hid b2.size
    have B2 := Lib.hid (bt B1.out b2)
    clear b2
    go_wp2_with fail
    refine (toInt64S_at _ _ zs0 (HV0.out.below B2.out) hl0).mono ?_
    rintro e v3 ⟨rfl, o3, b3⟩
    have zz3 := Lib.hid b3.size
    have B3 := Lib.hid (bt B2.out b3)
    have x0_3 := Lib.hid o3
    clear b3 o3
    go_wp2_with fail
    refine (implJoinTonnes_any _ _ zs0 x0_3.out.sl hl0 ⟨HT.out.below B3, HL.out.below B3⟩).mono ?_
    rintro e v4 ⟨rfl, b4⟩
    have zz4 := Lib.hid b4.size
    have B4 := Lib.hid (bt B3.out b4)
    have x0_4 := Lib.hid (x0_3.out.belowAll b4)
    clear x0_3
    clear b4
    go_wp2_with fail
    refine (toInt64S_at _ _ zs0 (HV0.out.below B4.out) hl0).mono ?_
    rintro e v5 ⟨rfl, o5, b5⟩
    have zz5 := Lib.hid b5.size
    have B5 := Lib.hid (bt B4.out b5)
    have x0_5 := Lib.hid (x0_4.out.belowAll b5)
    clear x0_4
    have y5 := Lib.hid o5
    clear b5 o5
    go_wp2_with fail
    refine (eqInt64S_any _ _ _ zs0 zs0 x0_5.out.sl y5.out.sl hl0 hl0).mono ?_
    rintro e v6 ⟨rfl, b6⟩
    clear y5
    clear x0_5
    have zz6 := Lib.hid b6.size
    have B6 := Lib.hid (bt B5.out b6)
    clear b6
    rw [show (zs0 == zs0) = true from beq_self_eq_true _]
    go_wp2_with fail
    go_ret
    exact ⟨rfl, B6.out⟩
  · have hsn : (1048576 : Int) < zs0.length := by omega
    go_enter Tryd.func7, Tryd.ntmps7
    go_wp2_with fail
    go_ret
    exact ⟨rfl, Below.refl _ _⟩
end Go.Proofs.YtobcflcmlejajaaDoor.fnExactJoinTonnes
