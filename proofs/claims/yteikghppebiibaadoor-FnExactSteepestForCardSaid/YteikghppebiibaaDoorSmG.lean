/-
  SteepestFor of chapter 7 by the program. Its condition: impl.strengthFactors holds what the program's text lays.
-/
import Derived.Test.YteikghppebiibaaDoorSmE
namespace Go.Proofs.YteikghppebiibaaDoor
open Go.RowKit Go.Shelf
set_option linter.unusedVariables false
set_option maxRecDepth 100000

set_option maxHeartbeats 6400000 in
theorem implSteepestFor_any (w : World) (v : Value) (xs : List Lay) (ru d t : Int) (hv : LAs w v xs) (hl : xs.length ≤ 1048576) (hw : FactorsAt w) :
    Calls Tryd.prog 26 #[v, .int .i64 ru, .int .i64 d, .int .i64 t] w fun e w' => e = .returned (.tuple #[.int .i64 (Sb.sf xs ru d t).1, .int .i64 (Sb.sf xs ru d t).2]) ∧ Below w.heap.size w w' := by
  have HV := Lib.hid hv
  have HW := Lib.hid hw
  clear hw
  obtain ⟨B, b, cap, rfl, ho⟩ := hv
  clear ho
  obtain ⟨W2, hW2⟩ : ∃ W, W = boxP w (.slice (some ⟨b, 0, none⟩) xs.length cap) 0 ru d t 0 66 := ⟨_, rfl⟩
  have HB : Hid (Below w.heap.size w W2) := Lib.hid (by rw [hW2]; exact boxP_below ..)
  have KK : Hid (∀ W, Below W2.heap.size W2 W → PC W w.heap.size (.slice (some ⟨b, 0, none⟩) xs.length cap) 0 ru d t 0) := Lib.hid (fun W h => by
    have c := boxP_cells w (.slice (some ⟨b, 0, none⟩) xs.length cap) 0 ru d t 0 66
    rw [← hW2] at c
    exact c.all h)
  have hbx : boxP w (.slice (some ⟨b, 0, none⟩) xs.length cap) 0 ru d t 0 66 = w.alloc (.cells #[.slice (some ⟨b, 0, none⟩) xs.length cap, .int .i64 0, .int .i64 ru, .int .i64 d, .int .i64 t, .int .i64 0] 66) := rfl
  have CD := Lib.hid (code_any W2 (.slice (some ⟨b, 0, none⟩) xs.length cap) (.slice none 0 0) xs [] 0 ru d t 0 (HV.out.sl.below HB.out) hl (sts_nil _) (by simp))
  rw [show allS [] = true from rfl, Bool.and_true] at CD
  cases h1 : La.okP xs with
  | false =>
    have hr := Lib.hid (Sb.sf_1 (ru := ru) (d := d) (t := t) h1)
    rw [h1, cd_f] at CD
    clear h1
    go_enter Tryd.func26, Tryd.ntmps26
    go_wp2_with fail
    rw [← hbx, ← hW2]
    clear hbx hW2
    refine CD.out.mono ?_
    rintro e w1 ⟨rfl, b1⟩
    have B1 := Lib.hid b1
    clear b1
    go_wp2_with fail
    go_ret2
    exact ⟨ret_p2 hr.out, bt HB.out B1.out⟩
  | true =>
    cases h3 : sdt 0 ru d t with
    | false =>
      have hr := Lib.hid (Sb.sf_2 (ru := ru) (d := d) (t := t) h1 (by
        unfold sdt at h3
        cases ha : Sb.sd 0 ru d with
        | false => exact Or.inl rfl
        | true => rw [ha, Bool.true_and] at h3; exact Or.inr h3))
      rw [h1, h3, cd_tf] at CD
      clear h1 h3
      go_enter Tryd.func26, Tryd.ntmps26
      go_wp2_with fail
      rw [← hbx, ← hW2]
      clear hbx hW2
      refine CD.out.mono ?_
      rintro e w1 ⟨rfl, b1⟩
      have B1 := Lib.hid b1
      clear b1
      go_wp2_with fail
      go_ret2
      exact ⟨ret_p2 hr.out, bt HB.out B1.out⟩
    | true =>
      rw [h1, h3, cd_tt] at CD
      unfold sdt at h3
      rw [Bool.and_eq_true] at h3
      obtain ⟨h3, h4⟩ := h3
      have hfine := Sb.fine h1 h3
      have u0 := hfine.slo.u0
      have u1 := hfine.slo.u1
      obtain ⟨n, hn⟩ : ∃ n : Nat, ru = n := ⟨ru.toNat, by omega⟩
      have hnt : ru.toNat + 1 = n + 1 := by omega
      have CF := Lib.hid (fun W (h : Below W2.heap.size W2 W) => searchB_any 57 (.agg #[.slice (some ⟨b, 0, none⟩) xs.length cap, .int .i64 0, .int .i64 ru, .int .i64 d, .int .i64 t, .int .i64 0]) (enters_of Tryd.func57 (by kernel_rfl) rfl) (n + 1) (fun m => !Sb.stb 0 m ru d t xs) W (by omega)
        (fun W' i hb hi => failsAt_any W' _ xs i ru d t (HV.out.all (bt HB.out (bt h hb))) ⟨hfine.okp, ⟨by omega, by omega, u0, u1⟩, hfine.d0, hfine.d1⟩ (by omega) (HW.out.below (bt HB.out (bt h hb)))) (fun a b h hb ha => Sb.steep_mono hfine h (by omega) ha))
      have HM := Lib.hid (fun (k : Nat) k2 hl hk => Sb.sf_search (k := k) h1 h3 h4 k2 hl hk)
      rw [hnt] at HM
      have hcast : (((n + 1 : Nat)) : Int) = ru + 1 := by omega
      rw [hcast] at CF
      have HN := Lib.hid hn
      clear h1 h3 h4 hfine hnt hcast hn
      go_enter Tryd.func26, Tryd.ntmps26
      go_wp2_with fail
      rw [← hbx, ← hW2]
      clear hbx hW2
      refine CD.out.mono ?_
      rintro e w1 ⟨rfl, b1⟩
      have B1 := Lib.hid b1
      clear b1
      obtain ⟨x0, x1, x2, x3, x4, x5⟩ := (KK.out w1 B1.out).six
      go_wp2_with fail
      refine (CF.out _ B1.out).mono ?_
      rintro e w2 ⟨k, hk, rfl, hlo, hhi, b2⟩
      have B2 := Lib.hid (bt B1.out b2)
      have hr := Lib.hid (HM.out k hk hlo hhi)
      have hk9 : (k : Int) ≤ 1000000 := by have := HN.out; omega
      clear b2 hlo hhi x0 x1 x2 x3 x4 x5 HM
      go_wp2_with fail
      go_ret2
      exact ⟨ret_p2 hr.out, bt HB.out B2.out⟩
end Go.Proofs.YteikghppebiibaaDoor
