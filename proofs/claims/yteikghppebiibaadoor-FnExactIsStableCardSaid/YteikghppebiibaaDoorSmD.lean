/-
  IsStable of chapter 7 by the program. Its condition: impl.strengthFactors holds what the program's text lays.
-/
import Derived.Test.YteikghppebiibaaDoorStL
namespace Go.Proofs.YteikghppebiibaaDoor
open Go.RowKit Go.Shelf
set_option linter.unusedVariables false
set_option maxRecDepth 100000

set_option maxHeartbeats 6400000 in
theorem implIsStable_any (w : World) (v : Value) (xs : List Lay) (ri ru d t : Int) (hv : LAs w v xs) (hl : xs.length ≤ 1048576) (hw : FactorsAt w) :
    Calls Tryd.prog 22 #[v, .int .i64 ri, .int .i64 ru, .int .i64 d, .int .i64 t] w fun e w' => e = .returned (.bool (Sb.iss xs ri ru d t)) ∧ Below w.heap.size w w' := by
  have HV := Lib.hid hv
  have HW := Lib.hid hw
  clear hw
  obtain ⟨B, b, cap, rfl, ho⟩ := hv
  clear ho
  obtain ⟨W2, hW2⟩ : ∃ W, W = boxP w (.slice (some ⟨b, 0, none⟩) xs.length cap) ri ru d t 0 66 := ⟨_, rfl⟩
  have HB : Hid (Below w.heap.size w W2) := Lib.hid (by rw [hW2]; exact boxP_below ..)
  have KK : Hid (∀ W, Below W2.heap.size W2 W → PC W w.heap.size (.slice (some ⟨b, 0, none⟩) xs.length cap) ri ru d t 0) := Lib.hid (fun W h => by
    have c := boxP_cells w (.slice (some ⟨b, 0, none⟩) xs.length cap) ri ru d t 0 66
    rw [← hW2] at c
    exact c.all h)
  have hbx : boxP w (.slice (some ⟨b, 0, none⟩) xs.length cap) ri ru d t 0 66 = w.alloc (.cells #[.slice (some ⟨b, 0, none⟩) xs.length cap, .int .i64 ri, .int .i64 ru, .int .i64 d, .int .i64 t, .int .i64 0] 66) := rfl
  have CD := Lib.hid (code_any W2 (.slice (some ⟨b, 0, none⟩) xs.length cap) (.slice none 0 0) xs [] ri ru d t 0 (HV.out.sl.below HB.out) hl (sts_nil _) (by simp))
  rw [show allS [] = true from rfl, Bool.and_true] at CD
  cases h1 : La.okP xs with
  | false =>
    have hr : Hid (Sb.iss xs ri ru d t = false) := Lib.hid (by unfold Sb.iss; rw [h1]; rfl)
    rw [h1, cd_f] at CD
    clear h1
    go_enter Tryd.func22, Tryd.ntmps22
    go_wp2_with fail
    rw [← hbx, ← hW2]
    clear hbx hW2
    refine CD.out.mono ?_
    rintro e w1 ⟨rfl, b1⟩
    have B1 := Lib.hid b1
    clear b1
    go_wp2_with fail
    go_ret
    exact ⟨ret_bool hr.out.symm, bt HB.out B1.out⟩
  | true =>
    cases h3 : sdt ri ru d t with
    | false =>
      have hr : Hid (Sb.iss xs ri ru d t = false) := Lib.hid (by
        unfold sdt at h3; unfold Sb.iss; rw [h1, Bool.true_and, h3]; rfl)
      rw [h1, h3, cd_tf] at CD
      clear h1 h3
      go_enter Tryd.func22, Tryd.ntmps22
      go_wp2_with fail
      rw [← hbx, ← hW2]
      clear hbx hW2
      refine CD.out.mono ?_
      rintro e w1 ⟨rfl, b1⟩
      have B1 := Lib.hid b1
      clear b1
      go_wp2_with fail
      go_ret
      exact ⟨ret_bool hr.out.symm, bt HB.out B1.out⟩
    | true =>
      rw [h1, h3, cd_tt] at CD
      have hr : Hid (Sb.iss xs ri ru d t = Sb.stb 0 ri ru d t xs) := Lib.hid (by
        unfold sdt at h3; unfold Sb.iss; rw [h1, Bool.true_and, h3, Bool.true_and])
      unfold sdt at h3
      rw [Bool.and_eq_true] at h3
      have CS := Lib.hid (fun W (h : Below W2.heap.size W2 W) => isStable_any W _ xs ri ru d t 0 (HV.out.all (bt HB.out h)) (Sb.fine h1 h3.1) (by omega) (by omega) (HW.out.below (bt HB.out h)))
      clear h1 h3
      generalize Sb.stb 0 ri ru d t xs = q at *
      go_enter Tryd.func22, Tryd.ntmps22
      go_wp2_with fail
      rw [← hbx, ← hW2]
      clear hbx hW2
      refine CD.out.mono ?_
      rintro e w1 ⟨rfl, b1⟩
      have B1 := Lib.hid b1
      clear b1
      obtain ⟨x0, x1, x2, x3, x4, x5⟩ := (KK.out w1 B1.out).six
      go_wp2_with fail
      refine (CS.out _ B1.out).mono ?_
      rintro e w2 ⟨rfl, b2⟩
      have B2 := Lib.hid (bt B1.out b2)
      clear b2 x0 x1 x2 x3 x4 x5
      go_wp2_with fail
      go_ret
      exact ⟨ret_bool hr.out.symm, bt HB.out B2.out⟩
end Go.Proofs.YteikghppebiibaaDoor
