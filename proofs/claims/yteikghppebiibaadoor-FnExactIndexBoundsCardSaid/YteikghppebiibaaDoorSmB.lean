/-
  IndexBounds of chapter 7 by the program. Its condition: impl.strengthFactors holds what the program's text lays.
-/
import Derived.Test.YteikghppebiibaaDoorStL
namespace Go.Proofs.YteikghppebiibaaDoor
open Go.RowKit Go.Shelf
set_option linter.unusedVariables false
set_option maxRecDepth 100000

set_option maxHeartbeats 6400000 in
theorem implIndexBounds_any (w : World) (v : Value) (xs : List Lay) (k ri ru d : Int) (hv : LAs w v xs) (hl : xs.length ≤ 1048576) (hw : FactorsAt w) :
    Calls Tryd.prog 17 #[v, .int .i64 k, .int .i64 ri, .int .i64 ru, .int .i64 d] w fun e w' => e = .returned (.tuple #[.int .i64 (Sb.ib xs k ri ru d).1, .int .i64 (Sb.ib xs k ri ru d).2.1, .int .i64 (Sb.ib xs k ri ru d).2.2]) ∧ Below w.heap.size w w' := by
  have HV := Lib.hid hv
  have HW := Lib.hid hw
  clear hw
  obtain ⟨B, b, cap, rfl, ho⟩ := hv
  clear ho
  obtain ⟨W2, hW2⟩ : ∃ W, W = boxP w (.slice (some ⟨b, 0, none⟩) xs.length cap) ri ru d 0 0 66 := ⟨_, rfl⟩
  have HB : Hid (Below w.heap.size w W2) := Lib.hid (by rw [hW2]; exact boxP_below ..)
  have KK : Hid (∀ W, Below W2.heap.size W2 W → PC W w.heap.size (.slice (some ⟨b, 0, none⟩) xs.length cap) ri ru d 0 0) := Lib.hid (fun W h => by
    have c := boxP_cells w (.slice (some ⟨b, 0, none⟩) xs.length cap) ri ru d 0 0 66
    rw [← hW2] at c
    exact c.all h)
  have hbx : boxP w (.slice (some ⟨b, 0, none⟩) xs.length cap) ri ru d 0 0 66 = w.alloc (.cells #[.slice (some ⟨b, 0, none⟩) xs.length cap, .int .i64 ri, .int .i64 ru, .int .i64 d, .int .i64 0, .int .i64 0] 66) := rfl
  have CD := Lib.hid (code_any (W2.alloc (objK (some ⟨b, 0, none⟩) xs.length cap k 107)) (.slice (some ⟨b, 0, none⟩) xs.length cap) (.slice (some ⟨W2.heap.size, 0, none⟩) 1 1) xs _ ri ru d 0 0 (HV.out.sl.below (bt HB.out (below_al _ _))) hl (usK_new W2 _ _ _ _ _ hl) (by simp))
  rw [allS_one, sdt_0] at CD
  have hsz : W2.heap.size = w.heap.size + 1 := by rw [hW2]; simp [boxP]
  rw [hsz] at CD
  clear hsz
  have HU := Lib.hid (below_al W2 (objK (some ⟨b, 0, none⟩) xs.length cap k 107))
  have hox : objK (some ⟨b, 0, none⟩) xs.length cap k 107 = .cells #[.iface 69 (.agg #[.slice (some ⟨b, 0, none⟩) xs.length cap, .int .i64 k])] 107 := rfl
  cases h1 : La.okP xs with
  | false =>
    have hr := Lib.hid (Sb.ib_1 (k := k) (ri := ri) (ru := ru) (d := d) h1)
    rw [h1, cd_f] at CD
    clear h1
    go_enter Tryd.func17, Tryd.ntmps17
    go_wp2_with fail
    rw [← hox, ← hbx, ← hW2]
    clear hox hbx hW2
    refine CD.out.mono ?_
    rintro e w1 ⟨rfl, b1⟩
    have B1 := Lib.hid (bt HU.out b1)
    clear b1
    go_wp2_with fail
    go_ret3
    exact ⟨ret_p3 hr.out, bt HB.out B1.out⟩
  | true =>
    cases h3 : (Sb.sd ri ru d && Ar.inB 0 k ((xs.length : Int) - 1)) with
    | false =>
      have hr := Lib.hid (Sb.ib_2 (k := k) (ri := ri) (ru := ru) (d := d) h1 (by
        cases ha : Sb.sd ri ru d with
        | false => exact Or.inr rfl
        | true => rw [ha, Bool.true_and] at h3; exact Or.inl h3))
      rw [h1, h3, cd_tf] at CD
      clear h1 h3
      go_enter Tryd.func17, Tryd.ntmps17
      go_wp2_with fail
      rw [← hox, ← hbx, ← hW2]
      clear hox hbx hW2
      refine CD.out.mono ?_
      rintro e w1 ⟨rfl, b1⟩
      have B1 := Lib.hid (bt HU.out b1)
      clear b1
      go_wp2_with fail
      go_ret3
      exact ⟨ret_p3 hr.out, bt HB.out B1.out⟩
    | true =>
      rw [h1, h3, cd_tt] at CD
      rw [Bool.and_eq_true] at h3
      obtain ⟨h3, h2⟩ := h3
      obtain ⟨j, rfl, hj⟩ := nat_of_in h2
      have hr := Lib.hid (Sb.ib_0 h1 hj h2 h3)
      have CS := Lib.hid (fun W (h : Below W2.heap.size W2 W) => index_any W _ xs j ri ru d 0 0 (HV.out.all (bt HB.out h)) hj (Sb.fine h1 h3) (by omega) (by omega) (HW.out.below (bt HB.out h)))
      clear h1 h2 h3
      generalize Sb.ix 0 ri ru d xs j xs[j] = r1 at *
      generalize Sb.ixH 0 ri ru d xs j xs[j] = r2 at *
      go_enter Tryd.func17, Tryd.ntmps17
      go_wp2_with fail
      rw [← hox, ← hbx, ← hW2]
      clear hox hbx hW2
      refine CD.out.mono ?_
      rintro e w1 ⟨rfl, b1⟩
      have B1 := Lib.hid (bt HU.out b1)
      clear b1
      obtain ⟨x0, x1, x2, x3, x4, x5⟩ := (KK.out w1 B1.out).six
      go_wp2_with fail
      refine (CS.out _ B1.out).mono ?_
      rintro e w2 ⟨rfl, b2⟩
      have B2 := Lib.hid (bt B1.out b2)
      clear b2 x0 x1 x2 x3 x4 x5
      go_wp2_with fail
      go_quiet (fail)
      go_wp2_with fail
      go_ret3
      exact ⟨ret_p3 hr.out, bt (bt (bt HB.out B2.out) (below_al _ _)) (below_drewW _ _)⟩
end Go.Proofs.YteikghppebiibaaDoor
