/-
  The numbers below a bound for which something holds, as a rising list; sets as words; is a number in a list? No condition of its own.
-/
import Derived.Test.YtaldmdammipfjaaDoorRlC
namespace Go.Proofs.YtaldmdammipfjaaDoor
open Go.RowKit Go.Shelf Go.Deep
set_option linter.unusedVariables false
set_option maxRecDepth 100000
namespace Gw
/-- the numbers below n for which it holds -/
def stF (p : Nat → Bool) (n : Nat) : List Int := ((List.range n).filter p).map (fun (k : Nat) => (k : Int))
theorem stF_yes {p : Nat → Bool} {n : Nat} (h : p n = true) : stF p (n + 1) = stF p n ++ [(n : Int)] := by unfold stF; rw [List.range_succ, List.filter_append, List.map_append]; simp [h]
theorem stF_no {p : Nat → Bool} {n : Nat} (h : p n = false) : stF p (n + 1) = stF p n := by unfold stF; rw [List.range_succ, List.filter_append, List.map_append]; simp [h]
theorem stF_len (p : Nat → Bool) (n : Nat) : (stF p n).length ≤ n := by
  unfold stF
  rw [List.length_map]
  have := List.length_filter_le p (List.range n)
  rwa [List.length_range] at this
theorem stF_congr {p q : Nat → Bool} {n : Nat} (h : ∀ k, k < n → p k = q k) : stF p n = stF q n := by
  unfold stF
  congr 1
  exact List.filter_congr (fun k hk => h k (List.mem_range.1 hk))
theorem stF_mem {p : Nat → Bool} {n : Nat} {x : Int} : x ∈ stF p n ↔ ∃ k : Nat, k < n ∧ p k = true ∧ x = (k : Int) := by
  unfold stF
  rw [List.mem_map]
  constructor
  · rintro ⟨k, h1, h2⟩
    rw [List.mem_filter, List.mem_range] at h1
    exact ⟨k, h1.1, h1.2, h2.symm⟩
  · rintro ⟨k, h1, h2, h3⟩
    exact ⟨k, List.mem_filter.2 ⟨List.mem_range.2 h1, h2⟩, h3.symm⟩
theorem stF_up (p : Nat → Bool) (n : Nat) : (stF p n).Pairwise (· < ·) := by
  unfold stF
  rw [List.pairwise_map]
  exact (List.pairwise_lt_range.filter p).imp (fun h => by omega)
end Gw
namespace Rl
theorem up_of : ∀ (p : Option Int) (xs : List Int), (∀ x ∈ xs, be p x = true) → xs.Pairwise (· < ·) → up p xs = true
  | p, [], _, _ => rfl
  | p, x :: xs, h, hp => by
    obtain ⟨h1, h2⟩ := List.pairwise_cons.1 hp
    show (be p x && up (some x) xs) = true
    rw [h x (List.mem_cons_self ..), Bool.true_and]
    exact up_of (some x) xs (fun y hy => decide_eq_true (h1 y hy)) h2
theorem of_up : ∀ (p : Option Int) (xs : List Int), up p xs = true → (∀ x ∈ xs, be p x = true) ∧ xs.Pairwise (· < ·)
  | p, [], _ => ⟨fun x hx => (by cases hx), List.Pairwise.nil⟩
  | p, x :: xs, h => by
    have h' : (be p x && up (some x) xs) = true := h
    rw [Bool.and_eq_true] at h'
    obtain ⟨h1, h2⟩ := of_up (some x) xs h'.2
    refine ⟨fun y hy => ?_, List.pairwise_cons.2 ⟨fun y hy => of_decide_eq_true (h1 y hy), h2⟩⟩
    rcases List.mem_cons.1 hy with rfl | hy
    · exact h'.1
    · have e := of_decide_eq_true (h1 y hy)
      cases p with
      | none => rfl
      | some a =>
        have e2 := of_decide_eq_true h'.1
        exact decide_eq_true (by omega)
theorem sN_mem {xs : List Int} (hx : ∀ x ∈ xs, 0 ≤ x) {i : Nat} : (sN xs).testBit i = true ↔ (i : Int) ∈ xs := by
  rw [sN_bit, List.any_eq_true]
  constructor
  · rintro ⟨x, h1, h2⟩
    have e := of_decide_eq_true h2
    have := hx x h1
    rwa [show (i : Int) = x by omega]
  · intro h; exact ⟨_, h, by simp⟩
theorem sN_ext {xs ys : List Int} (h : ∀ x, x ∈ xs ↔ x ∈ ys) : sN xs = sN ys := by
  apply Nat.eq_of_testBit_eq
  intro i
  rw [sN_bit, sN_bit, Bool.eq_iff_iff, List.any_eq_true, List.any_eq_true]
  exact ⟨fun ⟨x, h1, h2⟩ => ⟨x, (h x).1 h1, h2⟩, fun ⟨x, h1, h2⟩ => ⟨x, (h x).2 h1, h2⟩⟩
theorem sN_and {xs ys : List Int} (hx : ∀ x ∈ xs, 0 ≤ x) (hy : ∀ x ∈ ys, 0 ≤ x) : sN xs &&& sN ys = sN (xs.filter (fun x => ys.any (fun y => y == x))) := by
  apply Nat.eq_of_testBit_eq
  intro i
  rw [Nat.testBit_and, Bool.eq_iff_iff, Bool.and_eq_true, sN_mem hx, sN_mem hy, sN_mem (fun x h => hx x (List.mem_filter.1 h).1), List.mem_filter, List.any_eq_true]
  constructor
  · rintro ⟨h1, h2⟩; exact ⟨h1, _, h2, beq_self_eq_true _⟩
  · rintro ⟨h1, y, h2, h3⟩
    refine ⟨h1, ?_⟩
    rw [← beq_iff_eq.1 h3]; exact h2
theorem sN_or (xs ys : List Int) : sN xs ||| sN ys = sN (xs ++ ys) := by
  apply Nat.eq_of_testBit_eq
  intro i
  rw [Nat.testBit_or, sN_bit, sN_bit, sN_bit, List.any_append]
theorem sN_zero {xs : List Int} (hx : ∀ x ∈ xs, 0 ≤ x) : sN xs = 0 ↔ xs = [] := by
  constructor
  · intro h
    cases xs with
    | nil => rfl
    | cons x t =>
      have := (sN_mem hx (i := x.toNat)).2 (by rw [Int.toNat_of_nonneg (hx x (List.mem_cons_self ..))]; exact List.mem_cons_self ..)
      rw [h, Nat.zero_testBit] at this; cases this
  · rintro rfl; rfl
theorem and_any {xs ys : List Int} (hx : ∀ x ∈ xs, 0 ≤ x) (hy : ∀ x ∈ ys, 0 ≤ x) : (((sN xs &&& sN ys : Nat) : Int) != 0) = xs.any (fun x => ys.any (fun y => y == x)) := by
  rw [sN_and hx hy, Bool.eq_iff_iff, bne_iff_ne]
  have h := sN_zero (xs := xs.filter (fun x => ys.any (fun y => y == x))) (fun x h => hx x (List.mem_filter.1 h).1)
  rw [List.any_eq_true]
  constructor
  · intro hn
    have : xs.filter (fun x => ys.any (fun y => y == x)) ≠ [] := fun e => hn (by rw [h.2 e]; rfl)
    obtain ⟨x, hx'⟩ := List.exists_mem_of_ne_nil _ this
    exact ⟨x, List.mem_filter.1 hx'⟩
  · rintro ⟨x, h1, h2⟩ e
    have e2 := h.1 (by omega)
    have hm : x ∈ xs.filter (fun x => ys.any (fun y => y == x)) := List.mem_filter.2 ⟨h1, h2⟩
    rw [e2] at hm; cases hm
end Rl
set_option maxHeartbeats 1600000 in
theorem l00Has_any (w : World) (v : Value) (xs : List Int) (n : Int) (hv : Sl w v xs) (hl : xs.length ≤ 1048576) :
    Calls Tryd.prog 109 #[v, .int .i64 n] w fun e w' => e = .returned (.bool (xs.any (fun x => x == n))) ∧ Below w.heap.size w w' := by
  obtain ⟨a, cap, rfl⟩ := hv.form
  have HV := Lib.hid hv
  clear hv
  go_enter Tryd.func109, Tryd.ntmps109
  go_wp2
  go_loopw [5] (fun i wr => ∃ k : Nat, k ≤ xs.length ∧ i = .int .i64 (k : Int) ∧ Hid ((xs.take k).any (fun x => x == n) = false) ∧ Hid (Below w.heap.size w wr)) (fun i _ => xs.length - (intOf i).toNat)
  case atStart => exact ⟨0, Nat.zero_le _, rfl, Lib.hid rfl, Lib.hid (Below.refl _ _)⟩
  case round =>
    obtain ⟨k, hk, rfl, hr, hb⟩ := hrel
    by_cases hlt : k < xs.length
    · have hltz : (k : Int) < (xs.length : Int) := by omega
      obtain ⟨b, off, cap1, hn, hbl, hcc⟩ := (HV.out.below hb.out).atI hlt
      simp only [Value.slice.injEq] at hn
      obtain ⟨rfl, -, rfl⟩ := hn
      have c0 := hcc k hlt
      clear hcc
      by_cases he : xs[k] = n
      · have hy : Hid (xs.any (fun x => x == n) = true) := Lib.hid (List.any_eq_true.2 ⟨_, List.getElem_mem hlt, by rw [he]; exact beq_self_eq_true _⟩)
        have heb : (xs[k] == n) = true := beq_iff_eq.2 he
        clear he
        generalize xs[k] = x at *
        go_wp2_with fail
        go_ret
        exact ⟨ret_bool hy.out.symm, hb.out⟩
      · have heb : (xs[k] == n) = false := beq_eq_false_iff_ne.2 he
        have hy : Hid ((xs.take (k + 1)).any (fun x => x == n) = false) := Lib.hid (by rw [List.take_succ_eq_append_getElem hlt, List.any_append, hr.out]; simp [he])
        clear he
        generalize xs[k] = x at *
        go_wp2_with fail
        exact ⟨⟨k + 1, by omega, by go_num, hy, hb⟩, by simp only [intOf]; omega⟩
    · have hltz : ¬ (k : Int) < (xs.length : Int) := by omega
      have hn : Hid (xs.any (fun x => x == n) = false) := Lib.hid (by have := hr.out; rwa [List.take_of_length_le (by omega)] at this)
      go_wp2
      go_ret
      exact ⟨ret_bool hn.out.symm, hb.out⟩
end Go.Proofs.YtaldmdammipfjaaDoor
