/-
  Sets of cells as rising lists and as words; the border of cells. No Go in sight.
-/
import Derived.Test.YthcmpalbhaefbaaDoorPtM
import Derived.Test.YthcmpalbhaefbaaDoorRlI
import Derived.Test.YthcmpalbhaefbaaDoorRlD
import Derived.Test.YthcmpalbhaefbaaDoorRlH
namespace Go.Proofs.YthcmpalbhaefbaaDoor
open Go.RowKit Go.Shelf
set_option linter.unusedVariables false
set_option maxRecDepth 100000
namespace Rl
theorem up_of : ∀ (p : Option Int) (xs : List Int), (∀ x ∈ xs, be p x = true) → xs.Pairwise (· < ·) → up p xs = true
  | p, [], _, _ => rfl
  | p, x :: xs, h, hp => by
    obtain ⟨h1, h2⟩ := List.pairwise_cons.1 hp
    show (be p x && up (some x) xs) = true
    rw [h x (List.mem_cons_self ..), Bool.true_and]
    exact up_of (some x) xs (fun y hy => decide_eq_true (h1 y hy)) h2
theorem of_up : ∀ (p : Option Int) (xs : List Int), up p xs = true → (∀ x ∈ xs, be p x = true) ∧ xs.Pairwise (· < ·)
  | p, [], _ => ⟨fun x hx => (by cases hx), List.Pairwise.nil⟩
  | p, x :: xs, h => by
    have h' : (be p x && up (some x) xs) = true := h
    rw [Bool.and_eq_true] at h'
    obtain ⟨h1, h2⟩ := of_up (some x) xs h'.2
    refine ⟨fun y hy => ?_, List.pairwise_cons.2 ⟨fun y hy => of_decide_eq_true (h1 y hy), h2⟩⟩
    rcases List.mem_cons.1 hy with rfl | hy
    · exact h'.1
    · have e := of_decide_eq_true (h1 y hy)
      cases p with
      | none => rfl
      | some a =>
        have e2 := of_decide_eq_true h'.1
        exact decide_eq_true (by omega)
theorem sN_mem {xs : List Int} (hx : ∀ x ∈ xs, 0 ≤ x) {i : Nat} : (sN xs).testBit i = true ↔ (i : Int) ∈ xs := by
  rw [sN_bit, List.any_eq_true]
  constructor
  · rintro ⟨x, h1, h2⟩
    have e := of_decide_eq_true h2
    have := hx x h1
    rwa [show (i : Int) = x by omega]
  · intro h; exact ⟨_, h, by simp⟩
theorem sN_ext {xs ys : List Int} (h : ∀ x, x ∈ xs ↔ x ∈ ys) : sN xs = sN ys := by
  apply Nat.eq_of_testBit_eq
  intro i
  rw [sN_bit, sN_bit, Bool.eq_iff_iff, List.any_eq_true, List.any_eq_true]
  exact ⟨fun ⟨x, h1, h2⟩ => ⟨x, (h x).1 h1, h2⟩, fun ⟨x, h1, h2⟩ => ⟨x, (h x).2 h1, h2⟩⟩
theorem sN_and {xs ys : List Int} (hx : ∀ x ∈ xs, 0 ≤ x) (hy : ∀ x ∈ ys, 0 ≤ x) : sN xs &&& sN ys = sN (xs.filter (fun x => ys.any (fun y => y == x))) := by
  apply Nat.eq_of_testBit_eq
  intro i
  rw [Nat.testBit_and, Bool.eq_iff_iff, Bool.and_eq_true, sN_mem hx, sN_mem hy, sN_mem (fun x h => hx x (List.mem_filter.1 h).1), List.mem_filter, List.any_eq_true]
  constructor
  · rintro ⟨h1, h2⟩; exact ⟨h1, _, h2, beq_self_eq_true _⟩
  · rintro ⟨h1, y, h2, h3⟩
    refine ⟨h1, ?_⟩
    rw [← beq_iff_eq.1 h3]; exact h2
theorem sN_or (xs ys : List Int) : sN xs ||| sN ys = sN (xs ++ ys) := by
  apply Nat.eq_of_testBit_eq
  intro i
  rw [Nat.testBit_or, sN_bit, sN_bit, sN_bit, List.any_append]
theorem sN_zero {xs : List Int} (hx : ∀ x ∈ xs, 0 ≤ x) : sN xs = 0 ↔ xs = [] := by
  constructor
  · intro h
    cases xs with
    | nil => rfl
    | cons x t =>
      have := (sN_mem hx (i := x.toNat)).2 (by rw [Int.toNat_of_nonneg (hx x (List.mem_cons_self ..))]; exact List.mem_cons_self ..)
      rw [h, Nat.zero_testBit] at this; cases this
  · rintro rfl; rfl
theorem and_any {xs ys : List Int} (hx : ∀ x ∈ xs, 0 ≤ x) (hy : ∀ x ∈ ys, 0 ≤ x) : (((sN xs &&& sN ys : Nat) : Int) != 0) = xs.any (fun x => ys.any (fun y => y == x)) := by
  rw [sN_and hx hy, Bool.eq_iff_iff, bne_iff_ne]
  have h := sN_zero (xs := xs.filter (fun x => ys.any (fun y => y == x))) (fun x h => hx x (List.mem_filter.1 h).1)
  rw [List.any_eq_true]
  constructor
  · intro hn
    have : xs.filter (fun x => ys.any (fun y => y == x)) ≠ [] := fun e => hn (by rw [h.2 e]; rfl)
    obtain ⟨x, hx'⟩ := List.exists_mem_of_ne_nil _ this
    exact ⟨x, List.mem_filter.1 hx'⟩
  · rintro ⟨x, h1, h2⟩ e
    have e2 := h.1 (by omega)
    have hm : x ∈ xs.filter (fun x => ys.any (fun y => y == x)) := List.mem_filter.2 ⟨h1, h2⟩
    rw [e2] at hm; cases hm
end Rl
namespace Gw
theorem near_word (r c k : Int) : Rl.sN ((dirs r c k).map (goC r c k)) = Rl.sN (near r c k 8) := Rl.sN_ext (fun x => by
  rw [near_mem, List.mem_map]
  constructor
  · rintro ⟨a, h1, h2⟩; obtain ⟨h3, h4⟩ := mem_dirs.1 h1; exact ⟨a, h3, h4, h2.symm⟩
  · rintro ⟨a, h1, h2, h3⟩; exact ⟨a, mem_dirs.2 ⟨h1, h2⟩, h3.symm⟩)
theorem near_bd {r c : Int} {n : Nat} (h1 : 1 ≤ c) (hn : (n : Int) = r * c) {k x : Int} (h : x ∈ near r c k 8) : 0 ≤ x ∧ x < n := by
  obtain ⟨i, _, h2, rfl⟩ := (near_mem 8).1 h
  have := goC_lt h2 h1 hn
  omega
/-- do all directions from a cell lead into cells? -/
def innB (r c : Int) (ks : List Int) (k : Int) : Bool := (List.range 8).all (fun a => goB r c k a && ks.any (fun y => y == goC r c k a))
theorem sum_one {α : Type} (q : α → Bool) (l : List α) : (l.map (fun x => if q x = true then (1 : Int) else 0)).sum = ((l.filter q).length : Int) := by
  induction l with
  | nil => rfl
  | cons x l ih =>
    rw [List.map_cons, List.sum_cons, ih, List.filter_cons]
    split <;> simp <;> omega
theorem near_count (r c k : Int) (ks : List Int) : ((near r c k 8).filter (fun x => ks.any (fun y => y == x))).length = (List.range 8).countP (fun a => goB r c k a && ks.any (fun y => y == goC r c k a)) := by
  have h := near_sum (fun x => if ks.any (fun y => y == x) = true then (1 : Int) else 0) (r := r) (c := c) (k := k) 8 (Nat.le_refl _)
  rw [sum_one] at h
  have h2 := sum_one (fun i => ks.any (fun y => y == goC r c k i)) ((List.range 8).filter (goB r c k))
  rw [h2, List.filter_filter] at h
  rw [List.countP_eq_length_filter]
  have e : (fun a => goB r c k a && ks.any (fun y => y == goC r c k a)) = (fun a => (ks.any fun y => y == goC r c k a) && goB r c k a) := funext (fun a => Bool.and_comm _ _)
  rw [e]
  exact Int.ofNat.inj h
theorem near_inner (r c k : Int) (ks : List Int) : decide ((((near r c k 8).filter (fun x => ks.any (fun y => y == x))).length : Int) < 8) = !innB r c ks k := by
  rw [near_count]
  have h1 := List.countP_le_length (p := fun a => goB r c k a && ks.any (fun y => y == goC r c k a)) (l := List.range 8)
  rw [List.length_range] at h1
  have h2 := List.countP_eq_length (p := fun a => goB r c k a && ks.any (fun y => y == goC r c k a)) (l := List.range 8)
  rw [List.length_range] at h2
  cases hb : innB r c ks k with
  | true =>
    have := h2.2 (fun a ha => List.all_eq_true.1 hb a ha)
    rw [this]; rfl
  | false =>
    have hn : (List.range 8).countP (fun a => goB r c k a && ks.any (fun y => y == goC r c k a)) ≠ 8 := fun e => by
      have := h2.1 e
      rw [show innB r c ks k = true from List.all_eq_true.2 this] at hb
      cases hb
    exact decide_eq_true (by omega)
theorem stF_mem {p : Nat → Bool} {n : Nat} {x : Int} : x ∈ stF p n ↔ ∃ k : Nat, k < n ∧ p k = true ∧ x = (k : Int) := by
  unfold stF
  rw [List.mem_map]
  constructor
  · rintro ⟨k, h1, h2⟩
    rw [List.mem_filter, List.mem_range] at h1
    exact ⟨k, h1.1, h1.2, h2.symm⟩
  · rintro ⟨k, h1, h2, h3⟩
    exact ⟨k, List.mem_filter.2 ⟨List.mem_range.2 h1, h2⟩, h3.symm⟩
theorem stF_up (p : Nat → Bool) (n : Nat) : (stF p n).Pairwise (· < ·) := by
  unfold stF
  rw [List.pairwise_map]
  exact (List.pairwise_lt_range.filter p).imp (fun h => by omega)
/-- those of some rising cells for which something holds -/
theorem filter_stF {n : Nat} {ks : List Int} (hu : ks.Pairwise (· < ·)) (hx : ∀ x ∈ ks, 0 ≤ x ∧ x < n) (p : Int → Bool) : ks.filter p = stF (fun k => ks.any (fun y => y == (k : Int)) && p k) n := by
  refine Ptq.up_ext (hu.filter p) (stF_up _ _) (fun x => ?_)
  rw [List.mem_filter, stF_mem]
  constructor
  · rintro ⟨h1, h2⟩
    obtain ⟨b1, b2⟩ := hx x h1
    have e : ((x.toNat : Nat) : Int) = x := Int.toNat_of_nonneg b1
    refine ⟨x.toNat, by omega, ?_, e.symm⟩
    rw [e, h2, Bool.and_true, List.any_eq_true]
    exact ⟨x, h1, beq_self_eq_true _⟩
  · rintro ⟨k, h1, h2, rfl⟩
    rw [Bool.and_eq_true, List.any_eq_true] at h2
    obtain ⟨⟨y, h3, h4⟩, h5⟩ := h2
    rw [← beq_iff_eq.1 h4] at h5 ⊢
    exact ⟨h3, h5⟩
/-- the code of a question about cells -/
def rqC (r c s : Int) (zs ks : List Int) : Int := odC (ok r c s zs) true (Rl.ri 0 (zs.length - 1) ks)
theorem rq_0 {r c s : Int} {zs ks : List Int} (h : rqC r c s zs ks = 0) : Good r c s zs ∧ ks.Pairwise (· < ·) ∧ (∀ x ∈ ks, 0 ≤ x ∧ x < zs.length) ∧ ks.length ≤ 64 := by
  obtain ⟨h1, -, h3⟩ := od_zero2 h
  have G := (ok_iff _ _ _ _).1 h1
  have hlen := G.len
  unfold Rl.ri at h3
  rw [Bool.and_eq_true, List.all_eq_true] at h3
  have hx : ∀ x ∈ ks, 0 ≤ x ∧ x < zs.length := fun x hx => by have := inB_iff.1 (h3.1 x hx); omega
  refine ⟨G, (Rl.of_up none ks h3.2).2, hx, ?_⟩
  have := Rl.count_sN ks h3.2 (fun x h => by have := hx x h; omega)
  have h2 := List.countP_le_length (p := fun i => (Rl.sN ks).testBit i) (l := List.range 64)
  rw [List.length_range] at h2
  omega
theorem isCell_of {r c s : Int} {zs : List Int} (G : Good r c s zs) {k : Nat} (hk : k < zs.length) : isCell r c k = true := by
  unfold isCell
  have := G.n
  exact inB_iff.2 (by omega)
end Gw
end Go.Proofs.YthcmpalbhaefbaaDoor
