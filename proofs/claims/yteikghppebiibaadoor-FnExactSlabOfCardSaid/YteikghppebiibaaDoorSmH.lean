/-
  SlabOf of chapter 7 by the program. Its condition: impl.strengthFactors holds what the program's text lays.
-/
import Derived.Test.YteikghppebiibaaDoorSmC
namespace Go.Proofs.YteikghppebiibaaDoor
open Go.RowKit Go.Shelf
set_option linter.unusedVariables false
set_option maxRecDepth 100000

set_option maxHeartbeats 6400000 in
theorem implSlabOf_any (w : World) (v : Value) (xs : List Lay) (ri ru d : Int) (hv : LAs w v xs) (hl : xs.length ≤ 1048576) (hw : FactorsAt w) :
    Calls Tryd.prog 28 #[v, .int .i64 ri, .int .i64 ru, .int .i64 d] w fun e w' => e = .returned (.tuple #[.int .i64 (Sb.sb xs ri ru d).1, .int .i64 (Sb.sb xs ri ru d).2]) ∧ Below w.heap.size w w' := by
  have HV := Lib.hid hv
  have CW := Lib.hid (implWeakestLayer_any w v xs ri ru d hv hl hw)
  obtain ⟨B, b, cap, rfl, ho⟩ := hv
  clear ho hw
  by_cases hc : (Sb.wl xs ri ru d).2.2 = 0
  · have h1 : La.okP xs = true := by
      cases h : La.okP xs with
      | true => rfl
      | false => rw [Sb.wl_1 h] at hc; cases hc
    have h2 : Sb.sd ri ru d = true := by
      cases h : Sb.sd ri ru d with
      | true => rfl
      | false => rw [Sb.wl_2 h1 h] at hc; cases hc
    have h3 : xs ≠ [] := by
      intro h
      subst h
      rw [Sb.wl_3 h2] at hc; cases hc
    obtain ⟨k, hk, hkl⟩ := Sb.wkB_at (m := 0) (ri := ri) (ru := ru) (d := d) h3
    have hr : Hid (Sb.sb xs ri ru d = (La.sm La.thick (xs.drop (k + 1)), 0)) := Lib.hid (by rw [Sb.sb_0 h1 h2 h3, hk, Int.toNat_natCast])
    rw [Sb.wl_0 h1 h2 h3, hk] at CW
    have hfit := ((La.okP_iff xs).1 h1).2
    have h16 := ((La.okP_iff xs).1 h1).1
    have CS : Hid (∀ u W, LSl W u (xs.drop (k + 1)) → Calls Tryd.prog 59 #[u, .func (.func 60) #[] #[]] W fun e w' => e = .returned (.int .i64 (La.sm La.thick (xs.drop (k + 1)))) ∧ Below W.heap.size W w') :=
      Lib.hid (fun u W h => sumOf_any 60 (enters_of Tryd.func60 (by kernel_rfl) rfl) La.thick W u _ (by rw [List.length_drop]; omega) h (fun x hx => bd100 (La.thick_bd (hfit x (List.mem_of_mem_drop hx)))) (fun x hx W => thickness_any x W (hfit x (List.mem_of_mem_drop hx))))
    obtain ⟨hz, htl, hc1, hc2⟩ := HV.out.above hkl
    unfold maxLen at hc2
    clear h1 h2 h3 hc hfit hk
    generalize Sb.wkL (Sb.ixs 0 ri ru d xs) = ll at *
    generalize La.sm La.thick (xs.drop (k + 1)) = S at *
    by_cases hb : cap = k + 1
    · obtain ⟨hl0, hlk⟩ := hz hb
      have CS := Lib.hid (fun W (h : Below w.heap.size w W) => CS.out _ W (hl0.below h))
      clear hz htl hl0
      subst hb
      rw [hlk] at CW
      rw [hlk]
      go_enter Tryd.func28, Tryd.ntmps28
      go_wp2_with fail
      refine CW.out.mono ?_
      rintro e w1 ⟨rfl, b1⟩
      have B1 := Lib.hid b1
      clear b1
      go_wp2_with fail
      refine (CS.out _ B1.out).mono ?_
      rintro e w2 ⟨rfl, b2⟩
      have B2 := Lib.hid (bt B1.out b2)
      clear b2
      go_wp2_with fail
      go_ret2
      exact ⟨ret_p2 hr.out, B2.out⟩
    · have CS := Lib.hid (fun W (h : Below w.heap.size w W) => CS.out _ W (htl.below h))
      clear hz htl
      go_enter Tryd.func28, Tryd.ntmps28
      go_wp2_with fail
      refine CW.out.mono ?_
      rintro e w1 ⟨rfl, b1⟩
      have B1 := Lib.hid b1
      clear b1
      go_wp2_with fail
      refine (CS.out _ B1.out).mono ?_
      rintro e w2 ⟨rfl, b2⟩
      have B2 := Lib.hid (bt B1.out b2)
      clear b2
      go_wp2_with fail
      go_ret2
      exact ⟨ret_p2 hr.out, B2.out⟩
  · have hcz : ((Sb.wl xs ri ru d).2.2 != 0) = true := by simpa using hc
    have hr : Hid (Sb.sb xs ri ru d = (0, (Sb.wl xs ri ru d).2.2)) := Lib.hid (by unfold Sb.sb; rw [if_neg hc])
    generalize (Sb.wl xs ri ru d).2.2 = c at *
    generalize (Sb.wl xs ri ru d).2.1 = l at *
    generalize (Sb.wl xs ri ru d).1 = k at *
    go_enter Tryd.func28, Tryd.ntmps28
    go_wp2_with fail
    refine CW.out.mono ?_
    rintro e w1 ⟨rfl, b1⟩
    have B1 := Lib.hid b1
    clear b1
    go_wp2_with fail
    go_ret2
    exact ⟨ret_p2 hr.out, B1.out⟩
end Go.Proofs.YteikghppebiibaaDoor
