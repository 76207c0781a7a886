/-
  Numbers that strictly increase between bounds, by the model and by the program; the code of an ordered list. No condition of its own.
-/
import Derived.Test.YtaldmdammipfjaaDoorIntG
import Derived.Test.YtaldmdammipfjaaDoorCd
import Derived.Test.YtaldmdammipfjaaDoorUnits
import Derived.Deep.QuietTactic
import Derived.BigQuiet
import Derived.Defers
namespace Go.Proofs.YtaldmdammipfjaaDoor
open Go.RowKit Go.Shelf
set_option linter.unusedVariables false
set_option maxRecDepth 100000
namespace Rl
def be : Option Int → Int → Bool
  | none, _ => true
  | some y, x => decide (y < x)
def up : Option Int → List Int → Bool
  | _, [] => true
  | p, x :: xs => be p x && up (some x) xs
def la : Option Int → List Int → Option Int
  | p, [] => p
  | _, x :: xs => la (some x) xs
theorem la_app (p : Option Int) (xs : List Int) (x : Int) : la p (xs ++ [x]) = some x := by
  induction xs generalizing p with
  | nil => rfl
  | cons y ys ih => exact ih _
theorem up_app (p : Option Int) (xs : List Int) (x : Int) : up p (xs ++ [x]) = (up p xs && be (la p xs) x) := by
  induction xs generalizing p with
  | nil => simp [up, la]
  | cons y ys ih => rw [List.cons_append, up, up, la, ih, Bool.and_assoc]
theorem la_take (p : Option Int) {xs : List Int} {k : Nat} (h : k < xs.length) : la p (xs.take (k + 1)) = some xs[k] := by
  rw [List.take_succ_eq_append_getElem h, la_app]
theorem up_snoc {p : Option Int} {xs : List Int} {k : Nat} (h : k < xs.length) : up p (xs.take (k + 1)) = (up p (xs.take k) && be (la p (xs.take k)) xs[k]) := by
  rw [List.take_succ_eq_append_getElem h, up_app]
theorem up_pre (p : Option Int) (xs ys : List Int) (h : up p (xs ++ ys) = true) : up p xs = true := by
  induction xs generalizing p with
  | nil => rfl
  | cons x xs ih =>
    rw [List.cons_append, up, Bool.and_eq_true] at h
    rw [up, h.1, ih _ h.2]; rfl
theorem up_no {xs : List Int} {k : Nat} (h : up none (xs.take k) = false) : up none xs = false := by
  rw [Bool.eq_false_iff]; intro hc
  have := up_pre none (xs.take k) (xs.drop k) (by rw [List.take_append_drop]; exact hc)
  rw [h] at this; cases this
theorem up_one {xs : List Int} (h : 0 < xs.length) : up none (xs.take (0 + 1)) = true := by rw [up_snoc h]; rfl
/-- numbers between bounds that strictly increase -/
def ri (lo hi : Int) (xs : List Int) : Bool := xs.all (fun x => Ar.inB lo x hi) && up none xs
theorem ri_snoc {lo hi : Int} {xs : List Int} {k : Nat} (h : k < xs.length) : ri lo hi (xs.take (k + 1)) = (ri lo hi (xs.take k) && (Ar.inB lo xs[k] hi && be (la none (xs.take k)) xs[k])) := by
  unfold ri
  rw [up_snoc h, List.take_succ_eq_append_getElem h, List.all_append]
  simp only [List.all_cons, List.all_nil, Bool.and_true]
  cases (xs.take k).all (fun x => Ar.inB lo x hi) <;> cases up none (xs.take k) <;> cases Ar.inB lo xs[k] hi <;> simp
theorem ri_no {lo hi : Int} {xs : List Int} {k : Nat} (h : ri lo hi (xs.take k) = false) : ri lo hi xs = false := by
  rw [Bool.eq_false_iff]; intro hc
  unfold ri at hc h
  rw [Bool.and_eq_true] at hc
  have h1 : (xs.take k).all (fun x => Ar.inB lo x hi) = true := by rw [List.all_eq_true] at *; exact fun x hx => hc.1 x (List.mem_of_mem_take hx)
  rw [h1, Bool.true_and] at h
  rw [up_no h] at hc; exact absurd hc.2 (by decide)
theorem ri_out {lo hi : Int} {xs : List Int} {k : Nat} (h : k < xs.length) (hi' : Ar.inB lo xs[k] hi = false) : ri lo hi xs = false := ri_no (k := k + 1) (by rw [ri_snoc h, hi']; simp)
theorem ri_first {lo hi : Int} {xs : List Int} (h : 0 < xs.length) (hi' : Ar.inB lo xs[0] hi = true) : ri lo hi (xs.take (0 + 1)) = true := by rw [ri_snoc h, hi']; rfl
theorem ri_next {lo hi : Int} {xs : List Int} {m : Nat} (h : m + 1 < xs.length) (hr : ri lo hi (xs.take (m + 1)) = true) (hi' : Ar.inB lo xs[m + 1] hi = true) (hlt : (xs[m]'(by omega)) < xs[m + 1]) : ri lo hi (xs.take (m + 1 + 1)) = true := by
  rw [ri_snoc h, hr, hi', la_take none (show m < xs.length by omega)]
  show (true && (true && decide _)) = true
  rw [decide_eq_true hlt]; rfl
theorem ri_turn {lo hi : Int} {xs : List Int} {m : Nat} (h : m + 1 < xs.length) (hge : ¬ (xs[m]'(by omega)) < xs[m + 1]) : ri lo hi xs = false := ri_no (k := m + 1 + 1) (by
  rw [ri_snoc h, la_take none (show m < xs.length by omega)]
  show (_ && (_ && decide _)) = false
  rw [decide_eq_false hge]; simp)
theorem ri_eq (lo hi : Int) (xs : List Int) : (up none xs && !xs.any fun x => !Ar.inB lo x hi) = ri lo hi xs := by
  unfold ri
  rw [List.not_any_eq_all_not]
  simp only [Bool.not_not]
  exact Bool.and_comm _ _
end Rl
set_option maxHeartbeats 800000 in
theorem l00Rises_any (w : World) (v : Value) (xs : List Int) (lo hi : Int) (hv : Sl w v xs) (hl : xs.length ≤ 1048576) :
    Calls Tryd.prog 87 #[v, .int .i64 lo, .int .i64 hi] w fun e w' => e = .returned (.bool (Rl.ri lo hi xs)) ∧ Below w.heap.size w w' := by
  obtain ⟨a, cap, rfl⟩ := hv.form
  have HV := Lib.hid hv
  clear hv
  go_enter Tryd.func87, Tryd.ntmps87
  go_wp2
  go_loopw [7] (fun i wr => ∃ k : Nat, k ≤ xs.length ∧ i = .int .i64 (k : Int) ∧ Hid (Rl.ri lo hi (xs.take k) = true) ∧ Hid (Below w.heap.size w wr)) (fun i _ => xs.length - (intOf i).toNat)
  case atStart => exact ⟨0, Nat.zero_le _, rfl, Lib.hid rfl, Lib.hid (Below.refl _ _)⟩
  case round =>
    obtain ⟨k, hk, rfl, hr, hb⟩ := hrel
    by_cases hlt : k < xs.length
    · have hltz : (k : Int) < (xs.length : Int) := by omega
      obtain ⟨b, off, cap1, hn, hbl, hcc⟩ := (HV.out.below hb.out).atI hlt
      simp only [Value.slice.injEq] at hn
      obtain ⟨rfl, -, rfl⟩ := hn
      have c0 := hcc k hlt
      have CI := Lib.hid (fun W => (l00In_any xs[k] lo hi W).mono (fun _ _ ⟨h, h2⟩ => (⟨h, h2.symm⟩ : _ ∧ _)))
      cases hin : Ar.inB lo xs[k] hi with
      | false =>
        have hno : Hid (Rl.ri lo hi xs = false) := Lib.hid (Rl.ri_out hlt hin)
        rw [hin] at CI
        clear hin hcc
        generalize xs[k] = x at *
        go_wp2_with fail
        go_quiet (first | (go_at_call 88; refine Calls.quiet_of_same (CI.out _)))
        have BQ := Lib.hid (bt hb.out (below_drewW wr nq))
        go_wp2_with fail
        go_ret
        exact ⟨ret_bool hno.out.symm, BQ.out⟩
      | true =>
        rw [hin] at CI
        by_cases hk0 : k = 0
        · subst hk0
          have hy : Hid (Rl.ri lo hi (xs.take (0 + 1)) = true) := Lib.hid (Rl.ri_first hlt hin)
          have l0 : (0 : Int) < (xs.length : Int) := hltz
          have c00 : wr.cell? ⟨b, off, none⟩ = some (.int .i64 xs[0]) := c0
          clear hin hcc hr hltz c0
          generalize xs[0] = x at *
          go_wp2_with fail
          go_quiet (first | (go_at_call 88; refine Calls.quiet_of_same (CI.out _)))
          have BQ := Lib.hid (bt hb.out (below_drewW wr nq))
          go_wp2_with fail
          exact ⟨⟨1, by omega, by go_num, hy, BQ⟩, by simp only [intOf]; omega⟩
        · obtain ⟨m, rfl⟩ : ∃ m, k = m + 1 := ⟨k - 1, by omega⟩
          clear hk0
          have c1 := hcc m (by omega)
          have hmz : (m : Int) < (xs.length : Int) := by omega
          have HLT := Lib.hid hlt
          by_cases hd : (xs[m]'(by omega)) < xs[m + 1]
          · have hy : Hid (Rl.ri lo hi (xs.take (m + 1 + 1)) = true) := Lib.hid (Rl.ri_next hlt hr.out hin hd)
            have hle : decide (xs[m + 1] ≤ (xs[m]'(by omega))) = false := decide_eq_false (by omega)
            clear hin hcc hr hd
            generalize xs[m + 1] = x at *
            generalize xs[m]'(by omega) = y at *
            clear hlt hk
            go_wp2_with fail
            go_quiet (first | (go_at_call 88; refine Calls.quiet_of_same (CI.out _)))
            have BQ := Lib.hid (bt hb.out (below_drewW wr nq))
            go_wp2_with fail
            exact ⟨⟨m + 1 + 1, by omega, by go_num, hy, BQ⟩, by simp only [intOf]; omega⟩
          · have hno : Hid (Rl.ri lo hi xs = false) := Lib.hid (Rl.ri_turn hlt hd)
            have hle : decide (xs[m + 1] ≤ (xs[m]'(by omega))) = true := decide_eq_true (by omega)
            clear hin hcc hr hd
            generalize xs[m + 1] = x at *
            generalize xs[m]'(by omega) = y at *
            clear hlt hk
            go_wp2_with fail
            go_quiet (first | (go_at_call 88; refine Calls.quiet_of_same (CI.out _)))
            have BQ := Lib.hid (bt hb.out (below_drewW wr nq))
            go_wp2_with fail
            go_ret
            exact ⟨ret_bool hno.out.symm, BQ.out⟩
    · have hltz : ¬ (k : Int) < (xs.length : Int) := by omega
      have hall : Hid (Rl.ri lo hi xs = true) := Lib.hid (by have := hr.out; rwa [List.take_of_length_le (by omega)] at this)
      go_wp2
      go_ret
      exact ⟨ret_bool hall.out.symm, hb.out⟩
end Go.Proofs.YtaldmdammipfjaaDoor
