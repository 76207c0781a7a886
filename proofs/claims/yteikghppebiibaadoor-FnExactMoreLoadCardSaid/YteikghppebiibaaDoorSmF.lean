/-
  MoreLoad of chapter 7 by the program. Its condition: impl.strengthFactors holds what the program's text lays.
-/
import Derived.Test.YteikghppebiibaaDoorSmE
namespace Go.Proofs.YteikghppebiibaaDoor
open Go.RowKit Go.Shelf
set_option linter.unusedVariables false
set_option maxRecDepth 100000

set_option maxHeartbeats 6400000 in
theorem implMoreLoad_any (w : World) (v : Value) (xs : List Lay) (ri ru d t : Int) (hv : LAs w v xs) (hl : xs.length ≤ 1048576) (hw : FactorsAt w) :
    Calls Tryd.prog 24 #[v, .int .i64 ri, .int .i64 ru, .int .i64 d, .int .i64 t] w fun e w' => e = .returned (.tuple #[.int .i64 (Sb.ml xs ri ru d t).1, .int .i64 (Sb.ml xs ri ru d t).2]) ∧ Below w.heap.size w w' := by
  have HV := Lib.hid hv
  have HW := Lib.hid hw
  clear hw
  obtain ⟨B, b, cap, rfl, ho⟩ := hv
  clear ho
  obtain ⟨W2, hW2⟩ : ∃ W, W = boxP w (.slice (some ⟨b, 0, none⟩) xs.length cap) ri ru d t 0 66 := ⟨_, rfl⟩
  have HB : Hid (Below w.heap.size w W2) := Lib.hid (by rw [hW2]; exact boxP_below ..)
  have KK : Hid (∀ W, Below W2.heap.size W2 W → PC W w.heap.size (.slice (some ⟨b, 0, none⟩) xs.length cap) ri ru d t 0) := Lib.hid (fun W h => by
    have c := boxP_cells w (.slice (some ⟨b, 0, none⟩) xs.length cap) ri ru d t 0 66
    rw [← hW2] at c
    exact c.all h)
  have hbx : boxP w (.slice (some ⟨b, 0, none⟩) xs.length cap) ri ru d t 0 66 = w.alloc (.cells #[.slice (some ⟨b, 0, none⟩) xs.length cap, .int .i64 ri, .int .i64 ru, .int .i64 d, .int .i64 t, .int .i64 0] 66) := rfl
  have CD := Lib.hid (code_any W2 (.slice (some ⟨b, 0, none⟩) xs.length cap) (.slice none 0 0) xs [] ri ru d t 0 (HV.out.sl.below HB.out) hl (sts_nil _) (by simp))
  rw [show allS [] = true from rfl, Bool.and_true] at CD
  cases h1 : La.okP xs with
  | false =>
    have hr := Lib.hid (Sb.ml_1 (ri := ri) (ru := ru) (d := d) (t := t) h1)
    rw [h1, cd_f] at CD
    clear h1
    go_enter Tryd.func24, Tryd.ntmps24
    go_wp2_with fail
    rw [← hbx, ← hW2]
    clear hbx hW2
    refine CD.out.mono ?_
    rintro e w1 ⟨rfl, b1⟩
    have B1 := Lib.hid b1
    clear b1
    go_wp2_with fail
    go_ret2
    exact ⟨ret_p2 hr.out, bt HB.out B1.out⟩
  | true =>
    cases h3 : sdt ri ru d t with
    | false =>
      have hr := Lib.hid (Sb.ml_2 (ri := ri) (ru := ru) (d := d) (t := t) h1 (by
        unfold sdt at h3
        cases ha : Sb.sd ri ru d with
        | false => exact Or.inl rfl
        | true => rw [ha, Bool.true_and] at h3; exact Or.inr h3))
      rw [h1, h3, cd_tf] at CD
      clear h1 h3
      go_enter Tryd.func24, Tryd.ntmps24
      go_wp2_with fail
      rw [← hbx, ← hW2]
      clear hbx hW2
      refine CD.out.mono ?_
      rintro e w1 ⟨rfl, b1⟩
      have B1 := Lib.hid b1
      clear b1
      go_wp2_with fail
      go_ret2
      exact ⟨ret_p2 hr.out, bt HB.out B1.out⟩
    | true =>
      rw [h1, h3, cd_tt] at CD
      unfold sdt at h3
      rw [Bool.and_eq_true] at h3
      obtain ⟨h3, h4⟩ := h3
      have hfine := Sb.fine h1 h3
      have CF := Lib.hid (fun W (h : Below W2.heap.size W2 W) => searchB_any 56 (.agg #[.slice (some ⟨b, 0, none⟩) xs.length cap, .int .i64 ri, .int .i64 ru, .int .i64 d, .int .i64 t, .int .i64 0]) (enters_of Tryd.func56 (by kernel_rfl) rfl) 1000001 (fun m => !Sb.stb m ri ru d t xs) W (by omega)
        (fun W' i hb hi => failsUnder_any W' _ xs i ri ru d t (HV.out.all (bt HB.out (bt h hb))) hfine (by omega) (HW.out.below (bt HB.out (bt h hb)))) (fun a b h _ ha => Sb.fails_mono hfine h ha))
      rw [show ((1000001 : Nat) : Int) = 1000001 from rfl] at CF
      have HM := Lib.hid (fun (k : Nat) k2 hl hk => Sb.ml_search (k := k) h1 h3 h4 k2 hl hk)
      clear h1 h3 h4 hfine
      go_enter Tryd.func24, Tryd.ntmps24
      go_wp2_with fail
      rw [← hbx, ← hW2]
      clear hbx hW2
      refine CD.out.mono ?_
      rintro e w1 ⟨rfl, b1⟩
      have B1 := Lib.hid b1
      clear b1
      obtain ⟨x0, x1, x2, x3, x4, x5⟩ := (KK.out w1 B1.out).six
      go_wp2_with fail
      refine (CF.out _ B1.out).mono ?_
      rintro e w2 ⟨k, hk, rfl, hlo, hhi, b2⟩
      have B2 := Lib.hid (bt B1.out b2)
      have hm := HM.out k hk hlo hhi
      clear b2 hlo hhi x0 x1 x2 x3 x4 x5 HM
      by_cases hk0 : k = 0
      · have hr : Hid (Sb.ml xs ri ru d t = (0, 6)) := Lib.hid (by rw [hm, if_pos hk0])
        have hkz : ((k : Int) == 0) = true := by subst hk0; rfl
        clear hm
        go_wp2_with fail
        go_ret2
        exact ⟨ret_p2 hr.out, bt HB.out B2.out⟩
      · have hkz : ((k : Int) == 0) = false := beq_eq_false_iff_ne.2 (by omega)
        by_cases hk1 : 1000000 < k
        · have hr : Hid (Sb.ml xs ri ru d t = (0, 3)) := Lib.hid (by rw [hm, if_neg hk0, if_pos hk1])
          have hkg : (1000000 : Int) < (k : Int) := by omega
          clear hm
          go_wp2_with fail
          go_ret2
          exact ⟨ret_p2 hr.out, bt HB.out B2.out⟩
        · have hr : Hid (Sb.ml xs ri ru d t = ((k : Int), 0)) := Lib.hid (by rw [hm, if_neg hk0, if_neg hk1])
          have hkg : ¬ (1000000 : Int) < (k : Int) := by omega
          clear hm
          go_wp2_with fail
          go_ret2
          exact ⟨ret_p2 hr.out, bt HB.out B2.out⟩
end Go.Proofs.YteikghppebiibaaDoor
