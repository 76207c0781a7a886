/-
  What a number put to its place does to a list; the cells next to a cell, in their order. No Go in sight.
-/
import Derived.Test.YthcmpalbhaefbaaDoorTrH
namespace Go.Proofs.YthcmpalbhaefbaaDoor
open Go.RowKit Go.Shelf
set_option linter.unusedVariables false
set_option maxRecDepth 100000
namespace Ptq
/-- a number put to its place, said by the list's form -/
def ins (n : Int) : List Int → List Int
  | [] => [n]
  | z :: zs => if n ≤ z then (if n < z then n :: z :: zs else z :: zs) else z :: ins n zs
theorem ins_cons (n z : Int) (zs : List Int) : ins n (z :: zs) = if n ≤ z then (if n < z then n :: z :: zs else z :: zs) else z :: ins n zs := rfl
theorem fold_done (n : Int) (zs acc : List Int) : zs.foldl (ptS n) (acc, true) = (acc ++ zs, true) := by
  induction zs generalizing acc with
  | nil => simp
  | cons z zs ih =>
    rw [List.foldl_cons]
    have : ptS n (acc, true) z = (acc ++ [z], true) := by unfold ptS; rw [if_neg (by simp)]
    rw [this, ih, List.append_assoc]; rfl
theorem fold_ins (n : Int) (zs acc : List Int) : (if (zs.foldl (ptS n) (acc, false)).2 = true then (zs.foldl (ptS n) (acc, false)).1 else (zs.foldl (ptS n) (acc, false)).1 ++ [n]) = acc ++ ins n zs := by
  induction zs generalizing acc with
  | nil => rfl
  | cons z zs ih =>
    rw [List.foldl_cons, ins_cons]
    by_cases h : n ≤ z
    · have : ptS n (acc, false) z = (acc ++ (if n < z then [n] else []) ++ [z], true) := by unfold ptS; rw [if_pos ⟨rfl, h⟩]
      rw [this, fold_done, if_pos rfl, if_pos h]
      split <;> simp
    · have : ptS n (acc, false) z = (acc ++ [z], false) := by unfold ptS; rw [if_neg (fun e => h e.2)]
      rw [this, ih, if_neg h]; simp
theorem pt_ins (n : Int) (zs : List Int) : pt n zs = ins n zs := by
  have := fold_ins n zs []
  rw [List.nil_append] at this
  exact this
theorem mem_ins {n x : Int} {zs : List Int} : x ∈ ins n zs ↔ x = n ∨ x ∈ zs := by
  induction zs with
  | nil => simp [ins]
  | cons z zs ih =>
    rw [ins_cons]
    by_cases h : n ≤ z
    · rw [if_pos h]
      by_cases h2 : n < z
      · rw [if_pos h2]; simp
      · have : n = z := by omega
        rw [if_neg h2, this]; simp
    · rw [if_neg h, List.mem_cons, ih, List.mem_cons]
      constructor
      · rintro (h | h | h) <;> simp [h]
      · rintro (h | h | h) <;> simp [h]
theorem ins_up {n : Int} {zs : List Int} (h : zs.Pairwise (· < ·)) : (ins n zs).Pairwise (· < ·) := by
  induction zs with
  | nil => simp [ins]
  | cons z zs ih =>
    obtain ⟨h1, h2⟩ := List.pairwise_cons.1 h
    rw [ins_cons]
    by_cases hz : n ≤ z
    · rw [if_pos hz]
      by_cases h3 : n < z
      · rw [if_pos h3]
        refine List.pairwise_cons.2 ⟨fun a ha => ?_, h⟩
        rcases List.mem_cons.1 ha with rfl | ha
        · exact h3
        · have := h1 a ha; omega
      · rw [if_neg h3]; exact h
    · rw [if_neg hz]
      refine List.pairwise_cons.2 ⟨fun a ha => ?_, ih h2⟩
      rcases mem_ins.1 ha with rfl | ha
      · omega
      · exact h1 a ha
theorem ins_sum (f : Int → Int) {n : Int} {zs : List Int} (h : n ∉ zs) : ((ins n zs).map f).sum = (zs.map f).sum + f n := by
  induction zs with
  | nil => simp [ins]
  | cons z zs ih =>
    rw [List.mem_cons, not_or] at h
    rw [ins_cons]
    by_cases hz : n ≤ z
    · rw [if_pos hz, if_pos (by omega)]
      simp only [List.map_cons, List.sum_cons]; omega
    · rw [if_neg hz]
      simp only [List.map_cons, List.sum_cons, ih h.2]; omega
/-- two strictly rising lists with the same members are the same -/
theorem up_ext {xs ys : List Int} (h1 : xs.Pairwise (· < ·)) (h2 : ys.Pairwise (· < ·)) (h : ∀ x, x ∈ xs ↔ x ∈ ys) : xs = ys := by
  induction xs generalizing ys with
  | nil => cases ys with
    | nil => rfl
    | cons y ys => exact absurd ((h y).2 (List.mem_cons_self ..)) (by simp)
  | cons x xs ih =>
    cases ys with
    | nil => exact absurd ((h x).1 (List.mem_cons_self ..)) (by simp)
    | cons y ys =>
      obtain ⟨a1, a2⟩ := List.pairwise_cons.1 h1
      obtain ⟨b1, b2⟩ := List.pairwise_cons.1 h2
      have e : x = y := by
        rcases List.mem_cons.1 ((h x).1 (List.mem_cons_self ..)) with e | e
        · exact e
        · rcases List.mem_cons.1 ((h y).2 (List.mem_cons_self ..)) with e' | e'
          · exact e'.symm
          · have := a1 y e'; have := b1 x e; omega
      subst e
      congr 1
      refine ih a2 b2 (fun z => ?_)
      constructor
      · intro hz
        rcases List.mem_cons.1 ((h z).1 (List.mem_cons_of_mem _ hz)) with e | e
        · have := a1 z hz; omega
        · exact e
      · intro hz
        rcases List.mem_cons.1 ((h z).2 (List.mem_cons_of_mem _ hz)) with e | e
        · have := b1 z hz; omega
        · exact e
end Ptq
namespace Gw
theorem near_mem {r c k : Int} {x : Int} : ∀ a, x ∈ near r c k a ↔ ∃ i, i < a ∧ goB r c k i = true ∧ x = goC r c k i
  | 0 => by simp [near]
  | a + 1 => by
    have ih := near_mem (r := r) (c := c) (k := k) (x := x) a
    cases h : goB r c k a with
    | false =>
      rw [near, h, if_neg (by decide), ih]
      constructor
      · rintro ⟨i, h1, h2, h3⟩; exact ⟨i, by omega, h2, h3⟩
      · rintro ⟨i, h1, h2, h3⟩
        have : i ≠ a := fun e => by rw [e, h] at h2; cases h2
        exact ⟨i, by omega, h2, h3⟩
    | true =>
      rw [near, h, if_pos rfl, Ptq.pt_ins, Ptq.mem_ins, ih]
      constructor
      · rintro (rfl | ⟨i, h1, h2, h3⟩)
        · exact ⟨a, by omega, h, rfl⟩
        · exact ⟨i, by omega, h2, h3⟩
      · rintro ⟨i, h1, h2, h3⟩
        by_cases e : i = a
        · subst e; exact Or.inl h3
        · exact Or.inr ⟨i, by omega, h2, h3⟩
theorem near_up (r c k : Int) : ∀ a, (near r c k a).Pairwise (· < ·)
  | 0 => List.Pairwise.nil
  | a + 1 => by
    rw [near]
    split
    · rw [Ptq.pt_ins]; exact Ptq.ins_up (near_up r c k a)
    · exact near_up r c k a
theorem dir_inj : ∀ i : Fin 8, ∀ j : Fin 8, drs.getD i.val 0 = drs.getD j.val 0 → dcs.getD i.val 0 = dcs.getD j.val 0 → i = j := by decide
theorem goC_eq {r c k : Int} {a : Nat} (h : goB r c k a = true) : goC r c k a = rwA c k a * c + clA c k a ∧ 0 ≤ rwA c k a ∧ rwA c k a ≤ r - 1 ∧ 0 ≤ clA c k a ∧ clA c k a ≤ c - 1 := by
  have hd : goC r c k a = rwA c k a * c + clA c k a := by unfold goC; rw [if_pos h]
  unfold goB isAt at h
  rw [Bool.and_eq_true] at h
  obtain ⟨y1, y2⟩ := inB_iff.1 h.1
  obtain ⟨y3, y4⟩ := inB_iff.1 h.2
  exact ⟨hd, y1, y2, y3, y4⟩
theorem goC_inj {r c k : Int} {i j : Nat} (hi : i < 8) (hj : j < 8) (h1 : goB r c k i = true) (h2 : goB r c k j = true) (h : goC r c k i = goC r c k j) : i = j := by
  obtain ⟨e1, a1, a2, a3, a4⟩ := goC_eq h1
  obtain ⟨e2, b1, b2, b3, b4⟩ := goC_eq h2
  rw [e1, e2] at h
  have hr : rwA c k i = rwA c k j := by
    rcases Int.lt_trichotomy (rwA c k i) (rwA c k j) with hlt | he | hgt
    · have := Int.mul_le_mul_of_nonneg_right (show rwA c k i + 1 ≤ rwA c k j by omega) (show 0 ≤ c by omega)
      rw [Int.add_mul, Int.one_mul] at this; omega
    · exact he
    · have := Int.mul_le_mul_of_nonneg_right (show rwA c k j + 1 ≤ rwA c k i by omega) (show 0 ≤ c by omega)
      rw [Int.add_mul, Int.one_mul] at this; omega
  rw [hr] at h
  have hc : clA c k i = clA c k j := by omega
  have f1 : drs.getD i 0 = drs.getD j 0 := by unfold rwA at hr; omega
  have f2 : dcs.getD i 0 = dcs.getD j 0 := by unfold clA at hc; omega
  exact congrArg Fin.val (dir_inj ⟨i, hi⟩ ⟨j, hj⟩ f1 f2)
theorem near_sum (f : Int → Int) {r c k : Int} : ∀ a, a ≤ 8 → ((near r c k a).map f).sum = (((List.range a).filter (goB r c k)).map (fun i => f (goC r c k i))).sum
  | 0, _ => rfl
  | a + 1, ha => by
    have ih := near_sum f (r := r) (c := c) (k := k) a (by omega)
    rw [List.range_succ, List.filter_append, List.map_append, List.sum_append_int, ← ih]
    cases h : goB r c k a with
    | false => rw [near, h, if_neg (by decide)]; simp [h]
    | true =>
      have hn : goC r c k a ∉ near r c k a := fun hm => by
        obtain ⟨i, h1, h2, h3⟩ := (near_mem a).1 hm
        have := goC_inj (by omega) (by omega) h h2 h3
        omega
      rw [near, h, if_pos rfl, Ptq.pt_ins, Ptq.ins_sum f hn]; simp [h]
theorem stp_neg {r c s : Int} {zs : List Int} {k : Nat} : ∀ a, (stp r c s zs k a).1 < 0 ↔ ∀ i, i < a → dnB r c zs k i = false
  | 0 => ⟨fun _ i hi => by omega, fun _ => by show (-1 : Int) < 0; omega⟩
  | a + 1 => by
    have ih := stp_neg (r := r) (c := c) (s := s) (zs := zs) (k := k) a
    have hst : stp r c s zs k (a + 1) = if dnB r c zs k a = true ∧ ((stp r c s zs k a).1 < 0 ∨ (stp r c s zs k a).2 < fall s zs k (goC r c k a).toNat a) then ((a : Int), fall s zs k (goC r c k a).toNat a) else stp r c s zs k a := rfl
    rw [hst]
    cases hd : dnB r c zs k a with
    | false =>
      rw [if_neg (fun h => by cases h.1), ih]
      constructor
      · intro h i hi
        by_cases e : i = a
        · rw [e]; exact hd
        · exact h i (by omega)
      · intro h i hi; exact h i (by omega)
    | true =>
      constructor
      · intro h
        exfalso
        by_cases hc : (stp r c s zs k a).1 < 0 ∨ (stp r c s zs k a).2 < fall s zs k (goC r c k a).toNat a
        · rw [if_pos ⟨rfl, hc⟩] at h; simp only at h; omega
        · rw [if_neg (fun e => hc e.2)] at h; exact hc (Or.inl h)
      · intro h; have := h a (by omega); rw [hd] at this; cases this
/-- the steps from a cell lead to these cells -/
def dirs (r c k : Int) : List Nat := (List.range 8).filter (goB r c k)
theorem mem_dirs {r c k : Int} {i : Nat} : i ∈ dirs r c k ↔ i < 8 ∧ goB r c k i = true := by unfold dirs; rw [List.mem_filter, List.mem_range]
/-! ### descents -/
/-- the way of steepest descent, for a number of steps that is enough -/
def dsc (r c s : Int) (zs : List Int) : Nat → Nat → List Int
  | 0, k => [(k : Int)]
  | n + 1, k => if (stp r c s zs k 8).1 < 0 then [(k : Int)] else (k : Int) :: dsc r c s zs n (goC r c k (stp r c s zs k 8).1.toNat).toNat
theorem dsc_end {r c s : Int} {zs : List Int} {k : Nat} (h : (stp r c s zs k 8).1 < 0) (n : Nat) : dsc r c s zs n k = [(k : Int)] := by
  cases n with
  | zero => rfl
  | succ n => rw [dsc, if_pos h]
theorem dsc_go {r c s : Int} {zs : List Int} {k i : Nat} (h : (stp r c s zs k 8).1 = (i : Int)) (n : Nat) : dsc r c s zs (n + 1) k = (k : Int) :: dsc r c s zs n (goC r c k i).toNat := by
  rw [dsc, if_neg (by omega), h, Int.toNat_natCast]
theorem dsc_len (r c s : Int) (zs : List Int) : ∀ n k, (dsc r c s zs n k).length ≤ n + 1
  | 0, k => Nat.le_refl _
  | n + 1, k => by
    rw [dsc]
    split
    · simp
    · have := dsc_len r c s zs n (goC r c k (stp r c s zs k 8).1.toNat).toNat
      simp only [List.length_cons]; omega
/-- a cell's height as a number of steps -/
def hN (zs : List Int) (k : Nat) : Nat := (zs.getD k 0).toNat
theorem getD_bd {zs : List Int} (h : ∀ z ∈ zs, 0 ≤ z ∧ z ≤ 5000) (k : Nat) : 0 ≤ zs.getD k 0 ∧ zs.getD k 0 ≤ 5000 := by
  rw [List.getD_eq_getElem?_getD]
  cases e : zs[k]? with
  | none => exact ⟨Int.le_refl _, by show (0 : Int) ≤ 5000; omega⟩
  | some z => exact h z (List.mem_of_getElem? e)
theorem hN_le {zs : List Int} (h : ∀ z ∈ zs, 0 ≤ z ∧ z ≤ 5000) (k : Nat) : hN zs k ≤ 5000 := by have := getD_bd h k; unfold hN; omega
theorem hN_lt {r c : Int} {zs : List Int} (h : ∀ z ∈ zs, 0 ≤ z ∧ z ≤ 5000) {k i : Nat} (hd : dnB r c zs k i = true) : hN zs (goC r c k i).toNat < hN zs k := by
  have h1 := (dnB_drp.1 hd).2
  have h2 := getD_bd h k
  have h3 := getD_bd h (goC r c k i).toNat
  unfold drp at h1
  unfold hN
  omega
def dsL (r c s : Int) (zs : List Int) (k : Int) : List Int := Cd.ls (ok r c s zs) (isCell r c k) (dsc r c s zs 5000 k.toNat)
theorem dsL_len (r c s : Int) (zs : List Int) (k : Int) : (dsL r c s zs k).length ≤ 1048576 := Cd.ls_len (Nat.le_trans (dsc_len r c s zs 5000 k.toNat) (by decide))
theorem dsc_in {r c s : Int} {zs : List Int} (G : Good r c s zs) : ∀ n k, k < zs.length → ∀ x ∈ dsc r c s zs n k, 0 ≤ x ∧ x < zs.length
  | 0, k, hk, x, hx => by rw [dsc, List.mem_singleton] at hx; omega
  | n + 1, k, hk, x, hx => by
    rcases best_upto (r := r) (c := c) (zs := zs) (s := s) G.s1 G.s2 k 8 with ⟨_, h2⟩ | ⟨i, _, h2, h3, h4⟩
    · rw [dsc_end (by rw [h2]; show (-1 : Int) < 0; omega), List.mem_singleton] at hx; omega
    · rw [dsc_go (i := i) (by rw [h3])] at hx
      rcases List.mem_cons.1 hx with hx | hx
      · omega
      · exact dsc_in G n _ (goC_lt (dnB_drp.1 h4).1 G.c1 G.n).2 x hx
/-! ### peaks and pits -/
/-- does no step from a cell lead up? -/
def pkB (r c : Int) (zs : List Int) (k : Nat) : Bool := !(dirs r c k).any (fun a => decide (drp zs k (goC r c k a).toNat < 0))
/-- .. down? -/
def piB (r c : Int) (zs : List Int) (k : Nat) : Bool := !(dirs r c k).any (fun a => decide (0 < drp zs k (goC r c k a).toNat))
theorem pkB_near (r c : Int) (zs : List Int) (k : Nat) : pkB r c zs k = (near r c k 8).all (fun n => decide (zs.getD n.toNat 0 ≤ zs.getD k 0)) := by
  unfold pkB
  rw [Bool.eq_iff_iff, List.all_eq_true, Bool.not_eq_true', List.any_eq_false]
  constructor
  · intro h n hn
    obtain ⟨i, h1, h2, rfl⟩ := (near_mem 8).1 hn
    have := h i (mem_dirs.2 ⟨h1, h2⟩)
    unfold drp at this
    simp only [decide_eq_true_eq] at this ⊢
    omega
  · intro h a ha
    obtain ⟨h1, h2⟩ := mem_dirs.1 ha
    have := h _ ((near_mem 8).2 ⟨a, h1, h2, rfl⟩)
    unfold drp
    simp only [decide_eq_true_eq] at this ⊢
    omega
theorem piB_stp (r c s : Int) (zs : List Int) (k : Nat) : piB r c zs k = decide ((stp r c s zs k 8).1 < 0) := by
  unfold piB
  rw [Bool.eq_iff_iff, decide_eq_true_eq, stp_neg, Bool.not_eq_true', List.any_eq_false]
  constructor
  · intro h i hi
    rw [Bool.eq_false_iff]
    intro hd
    obtain ⟨h1, h2⟩ := dnB_drp.1 hd
    exact h i (mem_dirs.2 ⟨hi, h1⟩) (decide_eq_true h2)
  · intro h a ha hd
    obtain ⟨h1, h2⟩ := mem_dirs.1 ha
    have := h a h1
    rw [dnB_drp.2 ⟨h2, of_decide_eq_true hd⟩] at this; cases this
def vC (r c s : Int) (zs : List Int) : Int := if ok r c s zs = true then 0 else 1
/-- the code of a question about one cell, and how much higher the cells around it are -/
def cvS (r c : Int) (zs : List Int) (k : Nat) : Int := ((dirs r c k).map (fun a => -drp zs k (goC r c k a).toNat)).sum
theorem cvS_near (r c : Int) (zs : List Int) (k : Nat) : ((near r c k 8).map (fun n => zs.getD n.toNat 0 - zs.getD k 0)).sum = cvS r c zs k := by
  rw [near_sum (fun n => zs.getD n.toNat 0 - zs.getD k 0) 8 (Nat.le_refl _)]
  unfold cvS dirs
  congr 1
  apply List.map_congr_left
  intro a _
  unfold drp
  omega
def cvV (r c s : Int) (zs : List Int) (k : Int) : Int := if (ok r c s zs && isCell r c k) = true then cvS r c zs k.toNat else 0
end Gw
namespace Gw
theorem goC_wrap {r c s : Int} {zs : List Int} (G : Good r c s zs) {k : Int} {a : Nat} (h : goB r c k a = true) : goC r c k a = rwA c k a * c + clA c k a ∧ wrap64 (rwA c k a * c) = rwA c k a * c ∧ wrap64 (rwA c k a * c + clA c k a) = rwA c k a * c + clA c k a := by
  obtain ⟨e, y1, y2, y3, y4⟩ := goC_eq h
  have := G.r2; have := G.c1; have := G.c2
  obtain ⟨e1, e2, e3, e4⟩ := cell_bd y1 (by omega) y3 (by omega) G.c1 G.c2
  exact ⟨e, IntWalk.wrap64_in _ ⟨by omega, by omega⟩, IntWalk.wrap64_in _ ⟨by omega, by omega⟩⟩
end Gw
end Go.Proofs.YthcmpalbhaefbaaDoor
