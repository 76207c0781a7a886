/-
  The questions of chapter 7 by the model: StrengthBounds StressAt IndexBounds WeakestLayer IsStable MoreLoad SteepestFor SlabOf. No condition of its own.
-/
import Derived.Test.YteikghppebiibaaStD
namespace Go.Proofs.Yteikghppebiibaa
open Go.RowKit Go.Shelf
set_option linter.unusedVariables false
set_option maxRecDepth 100000

set_option maxHeartbeats 1600000 in
theorem specStressAt_any (w : World) (v : Value) (xs : List Lay) (k ri ru : Int) (hv : LAs w v xs) (hl : xs.length ≤ 1048576) :
    Calls Try.prog 5 #[v, .int .i64 k, .int .i64 ri, .int .i64 ru] w fun e w' => e = .returned (.tuple #[.int .i64 (Sb.sa xs k ri ru).1, .int .i64 (Sb.sa xs k ri ru).2]) ∧ Below w.heap.size w w' := by
  have C1 := Lib.hid (l03Ask_any w v xs k hv.sl hl)
  have C2 := Lib.hid (fun W => l07Slope_any ri ru W)
  obtain ⟨B, b, cap, rfl, ho⟩ := hv
  cases h1 : La.okP xs with
  | false =>
    have hr := Lib.hid (Sb.sa_1 (k := k) (ri := ri) (ru := ru) h1)
    rw [ask_1 h1] at C1
    clear h1 ho
    go_enter Try.func5, Try.ntmps5
    go_wp2_with fail
    refine C1.out.mono ?_
    rintro e w1 ⟨rfl, rfl⟩
    go_wp2_with fail
    go_ret2
    exact ⟨ret_p2 hr.out, Below.refl _ _⟩
  | true =>
    cases h2 : Ar.inB 0 k (xs.length - 1) with
    | false =>
      have hr := Lib.hid (Sb.sa_2 (ri := ri) (ru := ru) h1 (Or.inl h2))
      rw [ask_2 h1 h2] at C1
      clear h1 h2 ho
      go_enter Try.func5, Try.ntmps5
      go_wp2_with fail
      refine C1.out.mono ?_
      rintro e w1 ⟨rfl, rfl⟩
      go_wp2_with fail
      go_ret2
      exact ⟨ret_p2 hr.out, Below.refl _ _⟩
    | true =>
      rw [ask_0 h1 h2] at C1
      cases h3 : Sb.slo ri ru with
      | false =>
        have hr := Lib.hid (Sb.sa_2 (k := k) h1 (Or.inr h3))
        rw [h3] at C2
        clear h1 h2 h3 ho
        go_enter Try.func5, Try.ntmps5
        go_wp2_with fail
        refine C1.out.mono ?_
        rintro e w1 ⟨rfl, rfl⟩
        go_wp2_with fail
        refine (C2.out _).mono ?_
        rintro e w1 ⟨rfl, rfl⟩
        go_wp2_with fail
        go_ret2
        exact ⟨ret_p2 hr.out, Below.refl _ _⟩
      | true =>
        obtain ⟨j, rfl, hj⟩ := nat_of_in h2
        have hr := Lib.hid (Sb.sa_0 h1 h2 h3)
        have C3 := Lib.hid (l03Load_any B w b cap xs.length xs j hj h1 ho)
        have hfit := ((La.okP_iff xs).1 h1).2
        obtain ⟨S0, S1⟩ := Sb.sum_bd (xs := xs.drop (j + 1)) (fun x hx => hfit x (List.mem_of_mem_drop hx)) (by have := ((La.okP_iff xs).1 h1).1; rw [List.length_drop]; omega)
        have C4 := Lib.hid (fun W => l07Stress_any (La.sm La.mass (xs.drop (j + 1))) ri ru W (Sb.slo_iff.1 h3) S0 (by omega))
        rw [h3] at C2
        clear h1 h2 h3 ho hfit
        generalize La.sm La.mass (xs.drop (j + 1)) = S at *
        go_enter Try.func5, Try.ntmps5
        go_wp2_with fail
        refine C1.out.mono ?_
        rintro e w1 ⟨rfl, rfl⟩
        go_wp2_with fail
        refine (C2.out _).mono ?_
        rintro e w1 ⟨rfl, rfl⟩
        go_wp2_with fail
        refine C3.out.mono ?_
        rintro e w1 ⟨rfl, rfl⟩
        go_wp2_with fail
        refine (C4.out _).mono ?_
        rintro e w1 ⟨rfl, rfl⟩
        go_wp2_with fail
        go_ret2
        exact ⟨ret_p2 hr.out, Below.refl _ _⟩
theorem okP_drop {xs : List Lay} {k : Nat} (h : La.okP xs = true) : La.okP (xs.drop k) = true := by
  obtain ⟨h1, h2⟩ := (La.okP_iff xs).1 h
  exact (La.okP_iff _).2 ⟨by rw [List.length_drop]; omega, fun x hx => h2 x (List.mem_of_mem_drop hx)⟩
end Go.Proofs.Yteikghppebiibaa
