/-
  Numbers between bounds that strictly increase, by the model: a call that leaves the world as it is but for its draws. No condition of its own.
-/
import Derived.Test.YtaldmdammipfjaaDoorRlA
namespace Go.Proofs.YtaldmdammipfjaaDoor
open Go.RowKit Go.Shelf
set_option linter.unusedVariables false
set_option maxRecDepth 100000
set_option maxHeartbeats 800000 in
theorem l00Rises_q (w : World) (v : Value) (xs : List Int) (lo hi : Int) (hv : Sl w v xs) (hl : xs.length ≤ 1048576) :
    Calls Tryd.prog 87 #[v, .int .i64 lo, .int .i64 hi] w fun e w' => e = .returned (.bool (Rl.ri lo hi xs)) ∧ ∃ m, w' = w.drewN m := by
  obtain ⟨a, cap, rfl⟩ := hv.form
  have HV := Lib.hid hv
  clear hv
  go_enter Tryd.func87, Tryd.ntmps87
  go_wp2
  go_loopw [7] (fun i wr => ∃ k : Nat, k ≤ xs.length ∧ i = .int .i64 (k : Int) ∧ Hid (Rl.ri lo hi (xs.take k) = true) ∧ Hid (∃ n, wr = w.drewN n)) (fun i _ => xs.length - (intOf i).toNat)
  case atStart => exact ⟨0, Nat.zero_le _, rfl, Lib.hid rfl, Lib.hid ⟨0, rfl⟩⟩
  case round =>
    obtain ⟨k, hk, rfl, hr, hb⟩ := hrel
    by_cases hlt : k < xs.length
    · have hltz : (k : Int) < (xs.length : Int) := by omega
      obtain ⟨b, off, cap1, hn, hbl, hcc⟩ := (show Sl wr _ xs from (by obtain ⟨n, rfl⟩ := hb.out; exact HV.out.drewN n)).atI hlt
      simp only [Value.slice.injEq] at hn
      obtain ⟨rfl, -, rfl⟩ := hn
      have c0 := hcc k hlt
      have CI := Lib.hid (fun W => (l00In_any xs[k] lo hi W).mono (fun _ _ ⟨h, h2⟩ => (⟨h, h2.symm⟩ : _ ∧ _)))
      cases hin : Ar.inB lo xs[k] hi with
      | false =>
        have hno : Hid (Rl.ri lo hi xs = false) := Lib.hid (Rl.ri_out hlt hin)
        rw [hin] at CI
        clear hin hcc
        generalize xs[k] = x at *
        go_wp2_with fail
        go_quiet (first | (go_at_call 88; refine Calls.quiet_of_same (CI.out _)))
        have BQ := Lib.hid (show ∃ n, wr.drewN nq = w.drewN n from (by obtain ⟨n, rfl⟩ := hb.out; exact ⟨n + nq, World.drewN_drewN ..⟩))
        go_wp2_with fail
        go_ret
        exact ⟨ret_bool hno.out.symm, BQ.out⟩
      | true =>
        rw [hin] at CI
        by_cases hk0 : k = 0
        · subst hk0
          have hy : Hid (Rl.ri lo hi (xs.take (0 + 1)) = true) := Lib.hid (Rl.ri_first hlt hin)
          have l0 : (0 : Int) < (xs.length : Int) := hltz
          have c00 : wr.cell? ⟨b, off, none⟩ = some (.int .i64 xs[0]) := c0
          clear hin hcc hr hltz c0
          generalize xs[0] = x at *
          go_wp2_with fail
          go_quiet (first | (go_at_call 88; refine Calls.quiet_of_same (CI.out _)))
          have BQ := Lib.hid (show ∃ n, wr.drewN nq = w.drewN n from (by obtain ⟨n, rfl⟩ := hb.out; exact ⟨n + nq, World.drewN_drewN ..⟩))
          go_wp2_with fail
          exact ⟨⟨1, by omega, by go_num, hy, BQ⟩, by simp only [intOf]; omega⟩
        · obtain ⟨m, rfl⟩ : ∃ m, k = m + 1 := ⟨k - 1, by omega⟩
          clear hk0
          have c1 := hcc m (by omega)
          have hmz : (m : Int) < (xs.length : Int) := by omega
          have HLT := Lib.hid hlt
          by_cases hd : (xs[m]'(by omega)) < xs[m + 1]
          · have hy : Hid (Rl.ri lo hi (xs.take (m + 1 + 1)) = true) := Lib.hid (Rl.ri_next hlt hr.out hin hd)
            have hle : decide (xs[m + 1] ≤ (xs[m]'(by omega))) = false := decide_eq_false (by omega)
            clear hin hcc hr hd
            generalize xs[m + 1] = x at *
            generalize xs[m]'(by omega) = y at *
            clear hlt hk
            go_wp2_with fail
            go_quiet (first | (go_at_call 88; refine Calls.quiet_of_same (CI.out _)))
            have BQ := Lib.hid (show ∃ n, wr.drewN nq = w.drewN n from (by obtain ⟨n, rfl⟩ := hb.out; exact ⟨n + nq, World.drewN_drewN ..⟩))
            go_wp2_with fail
            exact ⟨⟨m + 1 + 1, by omega, by go_num, hy, BQ⟩, by simp only [intOf]; omega⟩
          · have hno : Hid (Rl.ri lo hi xs = false) := Lib.hid (Rl.ri_turn hlt hd)
            have hle : decide (xs[m + 1] ≤ (xs[m]'(by omega))) = true := decide_eq_true (by omega)
            clear hin hcc hr hd
            generalize xs[m + 1] = x at *
            generalize xs[m]'(by omega) = y at *
            clear hlt hk
            go_wp2_with fail
            go_quiet (first | (go_at_call 88; refine Calls.quiet_of_same (CI.out _)))
            have BQ := Lib.hid (show ∃ n, wr.drewN nq = w.drewN n from (by obtain ⟨n, rfl⟩ := hb.out; exact ⟨n + nq, World.drewN_drewN ..⟩))
            go_wp2_with fail
            go_ret
            exact ⟨ret_bool hno.out.symm, BQ.out⟩
    · have hltz : ¬ (k : Int) < (xs.length : Int) := by omega
      have hall : Hid (Rl.ri lo hi xs = true) := Lib.hid (by have := hr.out; rwa [List.take_of_length_le (by omega)] at this)
      go_wp2
      go_ret
      exact ⟨ret_bool hall.out.symm, hb.out⟩
end Go.Proofs.YtaldmdammipfjaaDoor
