/-
  The walk of the law FnExactReadField and what it stands on: For every string the program's ReadField answers as its model and its answer owns its memory: the law returns true and writes nothing that was there, where the listed variables of the library hold what its text lays (tied by the card). No other condition (beyond 2^20 bytes the law itself returns true).
-/
import Derived.Test.YtjogppgddjfejaaDoorRows
import Derived.Test.YtjogppgddjfejaaDoorFdRd
import Derived.Test.YtjogppgddjfejaaDoorFdO
import Derived.WalkKit
import Derived.WalkSpells
import Derived.WalkLawsBesides
import Derived.Outline
import Derived.IntWalk
import Derived.Lib.Hide
import Derived.ProofKit
import Derived.OpenShut
import Derived.ShutString
import Derived.ChangeOld
import Derived.ChangeVars
import Derived.Below
import Derived.WalkSmall
import Derived.Lib.LaidTab
import Derived.LaidMore
import Derived.LaidSub
namespace Go.Proofs.YtjogppgddjfejaaDoor.fnExactReadField
open Go.ChangeShapes Go.WideShapes Go.ChangeAt Go.RowKit
open Go.ChangeMaps (open_string shut_string)
set_option linter.unusedVariables false
set_option maxRecDepth 100000
set_option maxHeartbeats 6400000
theorem walk (a0 : ByteArray) (w : World) (w0 : a0.size ≤ maxLen) (hL : laidMetH Tryd.prog Rows.fnExactReadFieldRow.laid w) (hsh : w.ShapedOpen Tryd.prog) :
    Calls Tryd.prog 3 #[.string a0] w fun e w' => e = .returned (.bool true) ∧ Below w.heap.size w w' := by
  unfold maxLen at w0
  by_cases hb0 : a0.size ≤ 1048576
  · have HP := Lib.hid (pow_of hL (by kernel_rfl))
    have HE := Lib.hid (errs_of hL (by kernel_rfl) (by kernel_rfl))
    have HM := Lib.hid (maxL_of hsh)
    have hnl : ¬ (1048576 : Int) < a0.size := by omega
    have C1 := Lib.hid (specReadField_any a0 w hb0)
    have C2 : Hid (∀ W, Pow W → Errs W → MaxL W → Calls Tryd.prog 5 #[.string a0] W (RFe W (Fw.rf a0.data.toList))) := Lib.hid (fun W h1 h2 h3 => implReadField_any a0 W hb0 h1 h2 h3)
    have hlen := Fw.rf_len a0.data.toList
    clear hL hsh w0
    generalize Fw.rf a0.data.toList = o at *
    unfold RFe at C1 C2
    generalize o.getD Fw.fz = G at *
    generalize o.isSome = y at *
    obtain ⟨R, Cc, zs⟩ := G
    simp only [] at hlen C1 C2
    have hy : (y != y) = false := by cases y <;> rfl
    go_enter Tryd.func3, Tryd.ntmps3
    go_wp2_with fail
    refine C1.out.mono ?_
    rintro e v1 ⟨us, rfl, o1, b1⟩
    obtain ⟨sa, scap, rfl⟩ := (Own.sl o1).form
    have B1 := Lib.hid b1
    have bs := Lib.hid (boxF_below v1 R Cc (.slice sa zs.length scap) 24)
    have B1b := Lib.hid (bt B1.out bs.out)
    have SR := Lib.hid (o1.belowAll bs.out)
    have SX := Lib.hid (boxF_cells v1 R Cc (.slice sa zs.length scap) 24)
    clear o1 b1
    go_wp2_with fail
    refine (C2.out (boxF v1 R Cc (.slice sa zs.length scap) 24) (HP.out.below B1b.out) (HE.out.below B1b.out) (HM.out.below B1b.out)).mono ?_
    rintro e v2 ⟨ug, rfl, o2, b2⟩
    obtain ⟨ga, gcap, rfl⟩ := (Own.sl o2).form
    have gul := Lib.hid (fun j hj => World.ownsRow.lt o2 j hj)
    have bg := Lib.hid (boxF_below v2 R Cc (.slice ga zs.length gcap) 24)
    have A2 := Lib.hid (bt b2 bg.out)
    have S2 := Lib.hid (SX.out.all b2)
    have GR := Lib.hid (o2.belowAll bg.out)
    have GX := Lib.hid (boxF_cells v2 R Cc (.slice ga zs.length gcap) 24)
    clear o2 b2
    obtain ⟨sc0, sc1, sc2⟩ := (S2.out).three
    have slt := (S2.out).lt
    go_wp2_with fail
    refine (eqField_self (boxF v2 R Cc (.slice ga zs.length gcap) 24) R Cc _ _ zs GR.out.sl (SR.out.belowAll A2.out).sl hlen).mono ?_
    rintro e v3 ⟨rfl, b3⟩
    clear sc0 sc1 sc2 slt
    have A3 := Lib.hid (bt A2.out b3)
    have GR3 := Lib.hid (GR.out.belowAll b3)
    have GX3 := Lib.hid (GX.out.all b3)
    clear b3 GR GX
    obtain ⟨gc0, gc1, gc2⟩ := (GX3.out).three
    have glt := (GX3.out).lt
    go_wp2_with fail
    refine (markField_g _ v3 R Cc _ zs 1 (by omega) (by omega) GR3.out hlen).mono ?_
    rintro e v4 ⟨rfl, mo, hg⟩
    clear gc0 gc1 gc2 glt
    have A4 := Lib.hid ((A3.out).grown hg A3.out.size (fun j hj => (gul.out j hj).1))
    have GX4 := Lib.hid (GX3.out.grow hg (fun j hj => by have := (gul.out j hj).2; omega))
    have MK4 := Lib.hid mo
    clear mo hg GR3 GX3
    obtain ⟨gc0, gc1, gc2⟩ := (GX4.out).three
    have glt := (GX4.out).lt
    go_wp2_with fail
    refine (heldField_any v4 R Cc _ zs.length 1 (by omega) (by omega) (Own.sl MK4.out) hlen).mono ?_
    rintro e v5 ⟨rfl, b5⟩
    clear gc0 gc1 gc2 glt
    have A5 := Lib.hid (bt A4.out b5)
    have GX5 := Lib.hid (GX4.out.all b5)
    have MK5 := Lib.hid (own_belowAll MK4.out b5)
    clear b5 GX4 MK4
    have B5 := Lib.hid (bt B1b.out A5.out)
    go_wp2_with fail
    refine (C2.out v5 (HP.out.below B5.out) (HE.out.below B5.out) (HM.out.below B5.out)).mono ?_
    rintro e v6 ⟨uh, rfl, o6, b6⟩
    obtain ⟨ha, hcap, rfl⟩ := (Own.sl o6).form
    have bh := Lib.hid (boxF_below v6 R Cc (.slice ha zs.length hcap) 24)
    have A6 := Lib.hid (bt A5.out (bt b6 bh.out))
    have S6 := Lib.hid (SX.out.all (bt A5.out b6))
    have GX6 := Lib.hid (GX5.out.all (bt b6 bh.out))
    have MK6 := Lib.hid (own_belowAll MK5.out (bt b6 bh.out))
    have HR6 := Lib.hid (o6.belowAll bh.out)
    have HX6 := Lib.hid (boxF_cells v6 R Cc (.slice ha zs.length hcap) 24)
    clear o6 b6 GX5 MK5
    obtain ⟨sc0, sc1, sc2⟩ := (S6.out).three
    have slt := (S6.out).lt
    go_wp2_with fail
    refine (eqField_self (boxF v6 R Cc (.slice ha zs.length hcap) 24) R Cc _ _ zs HR6.out.sl (SR.out.belowAll A6.out).sl hlen).mono ?_
    rintro e v7 ⟨rfl, b7⟩
    clear sc0 sc1 sc2 slt
    have A7 := Lib.hid (bt A6.out b7)
    have GX7 := Lib.hid (GX6.out.all b7)
    have MK7 := Lib.hid (own_belowAll MK6.out b7)
    clear b7 GX6 MK6
    obtain ⟨gc0, gc1, gc2⟩ := (GX7.out).three
    have glt := (GX7.out).lt
    go_wp2_with fail
    refine (heldField_any v7 R Cc _ zs.length 1 (by omega) (by omega) (Own.sl MK7.out) hlen).mono ?_
    rintro e v8 ⟨rfl, b8⟩
    clear gc0 gc1 gc2 glt
    have B8 := Lib.hid (bt B1b.out (bt A7.out b8))
    clear b8
    go_wp2_with fail
    go_ret
    exact ⟨rfl, B8.out⟩
  · have hnl : (1048576 : Int) < a0.size := by omega
    go_enter Tryd.func3, Tryd.ntmps3
    go_wp2_with fail
    go_ret
    exact ⟨rfl, Below.refl _ _⟩
end Go.Proofs.YtjogppgddjfejaaDoor.fnExactReadField
