/-
  The questions of chapter 7 by the model: StrengthBounds StressAt IndexBounds WeakestLayer IsStable MoreLoad SteepestFor SlabOf. No condition of its own.
-/
import Derived.Test.YtaldmdammipfjaaDoorStD
namespace Go.Proofs.YtaldmdammipfjaaDoor
open Go.RowKit Go.Shelf
set_option linter.unusedVariables false
set_option maxRecDepth 100000

theorem cd_f (b : Bool) : Sb.cd false b = 1 := rfl
theorem cd_tf : Sb.cd true false = 2 := rfl
theorem cd_tt : Sb.cd true true = 0 := rfl
set_option maxHeartbeats 1600000 in
theorem specWeakestLayer_any (w : World) (v : Value) (xs : List Lay) (ri ru d : Int) (hv : LAs w v xs) (hl : xs.length ≤ 1048576) :
    Calls Tryd.prog 34 #[v, .int .i64 ri, .int .i64 ru, .int .i64 d] w fun e w' => e = .returned (.tuple #[.int .i64 (Sb.wl xs ri ru d).1, .int .i64 (Sb.wl xs ri ru d).2.1, .int .i64 (Sb.wl xs ri ru d).2.2]) ∧ Below w.heap.size w w' := by
  have HV := Lib.hid hv
  have C1 := Lib.hid (l07Ask_any w v xs ri ru d hv.sl hl)
  obtain ⟨B, b, cap, rfl, ho⟩ := hv
  clear ho
  cases h1 : La.okP xs with
  | false =>
    have hr := Lib.hid (Sb.wl_1 (ri := ri) (ru := ru) (d := d) h1)
    rw [h1, cd_f] at C1
    clear h1
    go_enter Tryd.func34, Tryd.ntmps34
    go_wp2_with fail
    refine C1.out.mono ?_
    rintro e w1 ⟨rfl, rfl⟩
    go_wp2_with fail
    go_ret3
    exact ⟨ret_p3 hr.out, Below.refl _ _⟩
  | true =>
    cases h2 : Sb.sd ri ru d with
    | false =>
      have hr := Lib.hid (Sb.wl_2 h1 h2)
      rw [h1, h2, cd_tf] at C1
      clear h1 h2
      go_enter Tryd.func34, Tryd.ntmps34
      go_wp2_with fail
      refine C1.out.mono ?_
      rintro e w1 ⟨rfl, rfl⟩
      go_wp2_with fail
      go_ret3
      exact ⟨ret_p3 hr.out, Below.refl _ _⟩
    | true =>
      have C2 := Lib.hid (l07Weakest_any w _ xs 0 ri ru d HV.out (Sb.fine h1 h2) (by omega) (by omega))
      rw [h1, h2, cd_tt] at C1
      by_cases h3 : xs = []
      · have hn := (Sb.wkB_neg (zs := Sb.ixs 0 ri ru d xs)).2 (Sb.ixs_nil.2 h3)
        have hr : Hid (Sb.wl xs ri ru d = (0, 0, 3)) := Lib.hid (by subst h3; exact Sb.wl_3 h2)
        clear h1 h2 h3
        generalize Sb.wkB (Sb.ixs 0 ri ru d xs) = kk at *
        generalize Sb.wkL (Sb.ixs 0 ri ru d xs) = ll at *
        go_enter Tryd.func34, Tryd.ntmps34
        go_wp2_with fail
        refine C1.out.mono ?_
        rintro e w1 ⟨rfl, rfl⟩
        go_wp2_with fail
        refine C2.out.mono ?_
        rintro e w1 ⟨rfl, b1⟩
        have B1 := Lib.hid b1
        clear b1
        go_wp2_with fail
        go_ret3
        exact ⟨ret_p3 hr.out, B1.out⟩
      · have hn : ¬ Sb.wkB (Sb.ixs 0 ri ru d xs) < 0 := fun h => h3 (Sb.ixs_nil.1 (Sb.wkB_neg.1 h))
        have hr := Lib.hid (Sb.wl_0 h1 h2 h3)
        clear h1 h2 h3
        generalize Sb.wkB (Sb.ixs 0 ri ru d xs) = kk at *
        generalize Sb.wkL (Sb.ixs 0 ri ru d xs) = ll at *
        go_enter Tryd.func34, Tryd.ntmps34
        go_wp2_with fail
        refine C1.out.mono ?_
        rintro e w1 ⟨rfl, rfl⟩
        go_wp2_with fail
        refine C2.out.mono ?_
        rintro e w1 ⟨rfl, b1⟩
        have B1 := Lib.hid b1
        clear b1
        go_wp2_with fail
        go_ret3
        exact ⟨ret_p3 hr.out, B1.out⟩
theorem okP_drop {xs : List Lay} {k : Nat} (h : La.okP xs = true) : La.okP (xs.drop k) = true := by
  obtain ⟨h1, h2⟩ := (La.okP_iff xs).1 h
  exact (La.okP_iff _).2 ⟨by rw [List.length_drop]; omega, fun x hx => h2 x (List.mem_of_mem_drop hx)⟩
end Go.Proofs.YtaldmdammipfjaaDoor
