/-
  StressAt of chapter 7 by the program.
-/
import Derived.Test.YteikghppebiibaaStL
namespace Go.Proofs.Yteikghppebiibaa
open Go.RowKit Go.Shelf
set_option linter.unusedVariables false
set_option maxRecDepth 100000

theorem cdA_f (b : Bool) : Sb.cd false b = 1 := rfl
theorem cdA_tf : Sb.cd true false = 2 := rfl
theorem cdA_tt : Sb.cd true true = 0 := rfl
set_option maxHeartbeats 6400000 in
theorem implStressAt_any (w : World) (v : Value) (xs : List Lay) (k ri ru : Int) (hv : LAs w v xs) (hl : xs.length ≤ 1048576) :
    Calls Try.prog 7 #[v, .int .i64 k, .int .i64 ri, .int .i64 ru] w fun e w' => e = .returned (.tuple #[.int .i64 (Sb.sa xs k ri ru).1, .int .i64 (Sb.sa xs k ri ru).2]) ∧ Below w.heap.size w w' := by
  have HV := Lib.hid hv
  obtain ⟨B, b, cap, rfl, ho⟩ := hv
  clear ho
  obtain ⟨W2, hW2⟩ : ∃ W, W = boxP w (.slice (some ⟨b, 0, none⟩) xs.length cap) ri ru 0 0 0 42 := ⟨_, rfl⟩
  have HB : Hid (Below w.heap.size w W2) := Lib.hid (by rw [hW2]; exact boxP_below ..)
  have KK : Hid (∀ W, Below W2.heap.size W2 W → PC W w.heap.size (.slice (some ⟨b, 0, none⟩) xs.length cap) ri ru 0 0 0) := Lib.hid (fun W h => by
    have c := boxP_cells w (.slice (some ⟨b, 0, none⟩) xs.length cap) ri ru 0 0 0 42
    rw [← hW2] at c
    exact c.all h)
  have hbx : boxP w (.slice (some ⟨b, 0, none⟩) xs.length cap) ri ru 0 0 0 42 = w.alloc (.cells #[.slice (some ⟨b, 0, none⟩) xs.length cap, .int .i64 ri, .int .i64 ru, .int .i64 0, .int .i64 0, .int .i64 0] 42) := rfl
  have CD := Lib.hid (code_any (W2.alloc (objK (some ⟨b, 0, none⟩) xs.length cap k 64)) (.slice (some ⟨b, 0, none⟩) xs.length cap) (.slice (some ⟨W2.heap.size, 0, none⟩) 1 1) xs _ ri ru 0 0 0 (HV.out.sl.below (bt HB.out (below_al _ _))) hl (usK_new W2 _ _ _ _ _ hl) (by simp))
  rw [allS_one, sdt_00] at CD
  have hsz : W2.heap.size = w.heap.size + 1 := by rw [hW2]; simp [boxP]
  rw [hsz] at CD
  clear hsz
  have HU := Lib.hid (below_al W2 (objK (some ⟨b, 0, none⟩) xs.length cap k 64))
  have hox : objK (some ⟨b, 0, none⟩) xs.length cap k 64 = .cells #[.iface 45 (.agg #[.slice (some ⟨b, 0, none⟩) xs.length cap, .int .i64 k])] 64 := rfl
  cases h1 : La.okP xs with
  | false =>
    have hr := Lib.hid (Sb.sa_1 (k := k) (ri := ri) (ru := ru) h1)
    rw [h1, cdA_f] at CD
    clear h1
    go_enter Try.func7, Try.ntmps7
    go_wp2_with fail
    rw [← hox, ← hbx, ← hW2]
    clear hox hbx hW2
    refine CD.out.mono ?_
    rintro e w1 ⟨rfl, b1⟩
    have B1 := Lib.hid (bt HU.out b1)
    clear b1
    go_wp2_with fail
    go_ret2
    exact ⟨ret_p2 hr.out, bt HB.out B1.out⟩
  | true =>
    cases h3 : (Sb.slo ri ru && Ar.inB 0 k ((xs.length : Int) - 1)) with
    | false =>
      have hr := Lib.hid (Sb.sa_2 (k := k) (ri := ri) (ru := ru) h1 (by
        cases ha : Sb.slo ri ru with
        | false => exact Or.inr rfl
        | true => rw [ha, Bool.true_and] at h3; exact Or.inl h3))
      rw [h1, h3, cdA_tf] at CD
      clear h1 h3
      go_enter Try.func7, Try.ntmps7
      go_wp2_with fail
      rw [← hox, ← hbx, ← hW2]
      clear hox hbx hW2
      refine CD.out.mono ?_
      rintro e w1 ⟨rfl, b1⟩
      have B1 := Lib.hid (bt HU.out b1)
      clear b1
      go_wp2_with fail
      go_ret2
      exact ⟨ret_p2 hr.out, bt HB.out B1.out⟩
    | true =>
      rw [h1, h3, cdA_tt] at CD
      rw [Bool.and_eq_true] at h3
      obtain ⟨h3, h2⟩ := h3
      obtain ⟨j, rfl, hj⟩ := nat_of_in h2
      have hr := Lib.hid (Sb.sa_0 h1 h2 h3)
      have CS := Lib.hid (fun W (h : Below W2.heap.size W2 W) => stress_any W _ xs j ri ru 0 0 0 (HV.out.all (bt HB.out h)) hj h1 (Sb.slo_iff.1 h3) (by omega) (by omega))
      rw [Int.zero_add] at CS
      clear h1 h2 h3
      go_enter Try.func7, Try.ntmps7
      go_wp2_with fail
      rw [← hox, ← hbx, ← hW2]
      clear hox hbx hW2
      refine CD.out.mono ?_
      rintro e w1 ⟨rfl, b1⟩
      have B1 := Lib.hid (bt HU.out b1)
      clear b1
      obtain ⟨x0, x1, x2, x3, x4, x5⟩ := (KK.out w1 B1.out).six
      go_wp2_with fail
      refine (CS.out _ B1.out).mono ?_
      rintro e w2 ⟨rfl, b2⟩
      have B2 := Lib.hid (bt B1.out b2)
      clear b2 x0 x1 x2 x3 x4 x5
      go_wp2_with fail
      go_ret2
      exact ⟨ret_p2 hr.out, bt HB.out B2.out⟩
end Go.Proofs.Yteikghppebiibaa
