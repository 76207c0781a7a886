/-
  The walk of the law FnExactListText and what it stands on: For every slice of int64 numbers (nil, shared and with spare room too) the program's ListText answers as its model and leaves its argument as it was, where the library's table of powers of ten holds what its text lays (tied by the card). No other condition (beyond 2^20 numbers the law itself returns true).
-/
import Derived.Test.YtoopjefalkdpkaaDoorRows
import Derived.Test.YtoopjefalkdpkaaDoorList
import Derived.WalkKit
import Derived.WalkSpells
import Derived.WalkLawsBesides
import Derived.Outline
import Derived.IntWalk
import Derived.Lib.Hide
import Derived.ProofKit
import Derived.OpenShut
import Derived.ShutString
import Derived.ChangeOld
import Derived.ChangeVars
import Derived.Below
import Derived.WalkSmall
import Derived.Lib.LaidTab
import Derived.LaidMore
import Derived.LaidSub
namespace Go.Proofs.YtoopjefalkdpkaaDoor.fnExactListText
open Go.ChangeShapes Go.WideShapes Go.ChangeAt Go.RowKit
open Go.ChangeMaps (open_string shut_string)
set_option linter.unusedVariables false
def IsRow (k : IntKind) (w : World) (a : Option Addr) (len cap : Nat) (zs : List Int) : Prop :=
  (a = none ∧ len = 0 ∧ cap = 0 ∧ zs = []) ∨
  ∃ x, a = some x ∧ len ≤ cap ∧ cap ≤ maxLen ∧ zs.length = cap ∧ (∀ i, i < zs.length → w.cell? (x.add i) = some (.int k (zs.getD i 0))) ∧ ∀ n ∈ zs, (Lit.int k n).wf = true

theorem walk (a0 : Option Addr) (len0 cap0 : Nat) (z0 : List Int) (w : World) (w0 : IsRow .i64 w a0 len0 cap0 z0) (hL : laidMetH Tryd.prog Rows.fnExactListTextRow.laid w) (hsh : w.ShapedOpen Tryd.prog) :
    Calls Tryd.prog 6 #[.slice a0 len0 cap0] w fun e w' => e = .returned (.bool true) ∧ Below w.heap.size w w' := by
---
  obtain ⟨hs, hln⟩ := Sl.of_row w0
  by_cases hb0 : len0 ≤ 1048576
  · have hp : Pow w := pow_of hL (by kernel_rfl)
    clear hL hsh w0
    generalize z0.take len0 = zs at *
    have hzl : zs.length ≤ 1048576 := by omega
    have HL := Lib.hid hln
    have HS := Lib.hid hs
    have HP := Lib.hid hp
    clear hs hp hln
    have hnl : ¬ (1048576 : Int) < len0 := by omega
    have hself : Hid ((zs == zs) = true) := Lib.hid (beq_self_eq_true _)
    go_enter Tryd.func6, Tryd.ntmps6
    go_wp2_with fail
    refine (toInt64S_any w _ zs HS.out hzl).mono ?_
    rintro e w1 ⟨u, rfl, ho, hb1⟩
    have H1 := Lib.hid ho
    clear ho
    go_wp2_with fail
    refine (specListText_any w1 u zs H1.out.sl hzl).mono ?_
    rintro e w2 ⟨rfl, hb2⟩
    have B2 := bt hb1 hb2
    go_wp2_with fail
    refine (toInt64S_any w2 _ zs (HS.out.below B2) hzl).mono ?_
    rintro e w3 ⟨x0, rfl, ho, hb3⟩
    have B3 := bt B2 hb3
    have H3 := Lib.hid ho
    clear ho hb1 hb2 hb3
    go_wp2_with fail
    refine (implListText_any w3 x0 zs H3.out.sl hzl (HP.out.below B3)).mono ?_
    rintro e w4 ⟨rfl, hb4⟩
    have B4 := bt B3 hb4
    go_wp2_with fail
    refine (toInt64S_any w4 _ zs (HS.out.below B4) hzl).mono ?_
    rintro e w5 ⟨x1, rfl, ho, hb5⟩
    have B5 := bt B4 hb5
    have H5 := Lib.hid ho
    have H6 := Lib.hid ((H3.out.sl.below hb4).below hb5)
    clear ho hb4 hb5
    go_wp2_with fail
    refine (eqInt64S_any w5 x0 x1 zs zs H6.out H5.out.sl hzl hzl).mono ?_
    rintro e w6 ⟨rfl, hb6⟩
    have B6 := bt B5 hb6
    rw [hself.out]
    go_wp2_with fail
    go_ret
    exact ⟨rfl, B6⟩
  · have hnl : (1048576 : Int) < len0 := by omega
    go_enter Tryd.func6, Tryd.ntmps6
    go_wp2_with fail
    go_ret
    exact ⟨rfl, Below.refl _ _⟩
end Go.Proofs.YtoopjefalkdpkaaDoor.fnExactListText
