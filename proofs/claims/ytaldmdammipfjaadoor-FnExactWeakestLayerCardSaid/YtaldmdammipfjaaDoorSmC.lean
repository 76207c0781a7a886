/-
  WeakestLayer of chapter 7 by the program. Its condition: impl.strengthFactors holds what the program's text lays.
-/
import Derived.Test.YtaldmdammipfjaaDoorStL
namespace Go.Proofs.YtaldmdammipfjaaDoor
open Go.RowKit Go.Shelf
set_option linter.unusedVariables false
set_option maxRecDepth 100000

set_option maxHeartbeats 6400000 in
theorem implWeakestLayer_any (w : World) (v : Value) (xs : List Lay) (ri ru d : Int) (hv : LAs w v xs) (hl : xs.length ≤ 1048576) (hw : FactorsAt w) :
    Calls Tryd.prog 36 #[v, .int .i64 ri, .int .i64 ru, .int .i64 d] w fun e w' => e = .returned (.tuple #[.int .i64 (Sb.wl xs ri ru d).1, .int .i64 (Sb.wl xs ri ru d).2.1, .int .i64 (Sb.wl xs ri ru d).2.2]) ∧ Below w.heap.size w w' := by
  have HV := Lib.hid hv
  have HW := Lib.hid hw
  clear hw
  obtain ⟨B, b, cap, rfl, ho⟩ := hv
  clear ho
  obtain ⟨W2, hW2⟩ : ∃ W, W = boxP w (.slice (some ⟨b, 0, none⟩) xs.length cap) ri ru d 0 0 104 := ⟨_, rfl⟩
  have HB : Hid (Below w.heap.size w W2) := Lib.hid (by rw [hW2]; exact boxP_below ..)
  have KK : Hid (∀ W, Below W2.heap.size W2 W → PC W w.heap.size (.slice (some ⟨b, 0, none⟩) xs.length cap) ri ru d 0 0) := Lib.hid (fun W h => by
    have c := boxP_cells w (.slice (some ⟨b, 0, none⟩) xs.length cap) ri ru d 0 0 104
    rw [← hW2] at c
    exact c.all h)
  have hbx : boxP w (.slice (some ⟨b, 0, none⟩) xs.length cap) ri ru d 0 0 104 = w.alloc (.cells #[.slice (some ⟨b, 0, none⟩) xs.length cap, .int .i64 ri, .int .i64 ru, .int .i64 d, .int .i64 0, .int .i64 0] 104) := rfl
  have CD := Lib.hid (code_any W2 (.slice (some ⟨b, 0, none⟩) xs.length cap) (.slice none 0 0) xs [] ri ru d 0 0 (HV.out.sl.below HB.out) hl (sts_nil _) (by simp))
  rw [show allS [] = true from rfl, Bool.and_true, sdt_0] at CD
  cases h1 : La.okP xs with
  | false =>
    have hr := Lib.hid (Sb.wl_1 (ri := ri) (ru := ru) (d := d) h1)
    rw [h1, cd_f] at CD
    clear h1
    go_enter Tryd.func36, Tryd.ntmps36
    go_wp2_with fail
    rw [← hbx, ← hW2]
    clear hbx hW2
    refine CD.out.mono ?_
    rintro e w1 ⟨rfl, b1⟩
    have B1 := Lib.hid b1
    clear b1
    go_wp2_with fail
    go_ret3
    exact ⟨ret_p3 hr.out, bt HB.out B1.out⟩
  | true =>
    cases h3 : Sb.sd ri ru d with
    | false =>
      have hr := Lib.hid (Sb.wl_2 h1 h3)
      rw [h1, h3, cd_tf] at CD
      clear h1 h3
      go_enter Tryd.func36, Tryd.ntmps36
      go_wp2_with fail
      rw [← hbx, ← hW2]
      clear hbx hW2
      refine CD.out.mono ?_
      rintro e w1 ⟨rfl, b1⟩
      have B1 := Lib.hid b1
      clear b1
      go_wp2_with fail
      go_ret3
      exact ⟨ret_p3 hr.out, bt HB.out B1.out⟩
    | true =>
      rw [h1, h3, cd_tt] at CD
      by_cases h4 : xs = []
      · have hr : Hid (Sb.wl xs ri ru d = (0, 0, 3)) := Lib.hid (by subst h4; exact Sb.wl_3 h3)
        have hlz : ((xs.length : Int) == 0) = true := by subst h4; rfl
        clear h1 h3 h4
        go_enter Tryd.func36, Tryd.ntmps36
        go_wp2_with fail
        rw [← hbx, ← hW2]
        clear hbx hW2
        refine CD.out.mono ?_
        rintro e w1 ⟨rfl, b1⟩
        have B1 := Lib.hid b1
        clear b1
        go_wp2_with fail
        go_ret3
        exact ⟨ret_p3 hr.out, bt HB.out B1.out⟩
      · have hr := Lib.hid (Sb.wl_0 h1 h3 h4)
        have hlz : ((xs.length : Int) == 0) = false := by
          have : xs.length ≠ 0 := fun h => h4 (List.eq_nil_of_length_eq_zero h)
          exact beq_eq_false_iff_ne.2 (by omega)
        have CL := Lib.hid (fun W (h : Below W2.heap.size W2 W) => leastIndices_any W _ xs ri ru d 0 0 (HV.out.all (bt HB.out h)) (Sb.fine h1 h3) (by omega) (by omega) (HW.out.below (bt HB.out h)))
        have hnn : Sb.ixs 0 ri ru d xs ≠ [] := by rw [Ne, Sb.ixs_nil]; exact h4
        have hll : (Sb.ixs 0 ri ru d xs).length ≤ 1048576 := by rw [Sb.ixs_length]; exact hl
        clear h1 h3 h4
        generalize Sb.ixs 0 ri ru d xs = zs at *
        have CM := Lib.hid (fun W u (h : Sl W u zs) => firstLeastI_any W u zs h hll hnn)
        clear hnn hll
        generalize Sb.wkL zs = ll at *
        generalize Sb.wkB zs = kk at *
        go_enter Tryd.func36, Tryd.ntmps36
        go_wp2_with fail
        rw [← hbx, ← hW2]
        clear hbx hW2
        refine CD.out.mono ?_
        rintro e w1 ⟨rfl, b1⟩
        have B1 := Lib.hid b1
        clear b1
        obtain ⟨x0, x1, x2, x3, x4, x5⟩ := (KK.out w1 B1.out).six
        go_wp2_with fail
        refine (CL.out _ B1.out).mono ?_
        rintro e w2 ⟨u, rfl, o2, b2⟩
        have B2 := Lib.hid (bt B1.out b2)
        have S2 := Lib.hid o2.sl
        clear b2 o2 x0 x1 x2 x3 x4 x5
        go_wp2_with fail
        refine (CM.out _ _ S2.out).mono ?_
        rintro e w3 ⟨rfl, rfl⟩
        go_wp2_with fail
        go_ret3
        exact ⟨ret_p3 hr.out, bt HB.out B2.out⟩
end Go.Proofs.YtaldmdammipfjaaDoor
