/-
  The steepest step down from a cell: the mathematics of the iterator's loop. No Go in sight but the cells of a step.
-/
import Derived.Test.YthcmpalbhaefbaaDoorTrG
namespace Go.Proofs.YthcmpalbhaefbaaDoor
open Go.RowKit Go.Shelf Go.Deep
set_option linter.unusedVariables false
set_option maxRecDepth 100000
namespace Gw
/-- the slope of the best direction so far; 0 where there is none -/
def slO (r c s : Int) (zs : List Int) (k : Nat) : Option Nat → Int
  | none => 0
  | some a => fall s zs k (goC r c k a).toNat a
def upd (r c s : Int) (zs : List Int) (k : Nat) (o : Option Nat) (a : Nat) : Option Nat := if slO r c s zs k o < fall s zs k (goC r c k a).toNat a then some a else o
def bsO (r c s : Int) (zs : List Int) (k : Nat) (l : List Nat) : Option Nat := l.foldl (upd r c s zs k) none
theorem bsO_snoc (r c s : Int) (zs : List Int) (k : Nat) (l : List Nat) (a : Nat) : bsO r c s zs k (l ++ [a]) = upd r c s zs k (bsO r c s zs k l) a := by unfold bsO; rw [List.foldl_append]; rfl
theorem upd_yes {r c s : Int} {zs : List Int} {k : Nat} {o : Option Nat} {a : Nat} (h : slO r c s zs k o < fall s zs k (goC r c k a).toNat a) : upd r c s zs k o a = some a := by unfold upd; rw [if_pos h]
theorem upd_no {r c s : Int} {zs : List Int} {k : Nat} {o : Option Nat} {a : Nat} (h : ¬ slO r c s zs k o < fall s zs k (goC r c k a).toNat a) : upd r c s zs k o a = o := by unfold upd; rw [if_neg h]
theorem dr_up {a b : Int} (hb : 0 < b) (h : b ≤ a) : 0 < Ar.dr a b := by
  rw [Ar.dr_pos (by omega) hb]
  have h1 : 1 ≤ a / b := by rw [Int.le_ediv_iff_mul_le hb]; omega
  split <;> omega
theorem dr_zero {b : Int} (hb : 0 < b) : Ar.dr 0 b = 0 := by
  rw [Ar.dr_pos (Int.le_refl 0) hb, Int.zero_emod, Int.zero_ediv, if_pos (by omega)]
theorem dr_dn {a b : Int} (hb : 0 < b) (h : a ≤ 0) : Ar.dr a b ≤ 0 := by
  by_cases h0 : a = 0
  · rw [h0, dr_zero hb]; exact Int.le_refl 0
  · unfold Ar.dr
    rw [if_neg (by omega)]
    have e := Ar.drp_neg (a := -a) (b := b) (by omega)
    rw [Int.neg_neg] at e
    rw [e]
    have h2 : 0 ≤ Ar.dr (-a) b := by
      rw [Ar.dr_pos (by omega) hb]
      have h1 : 0 ≤ -a / b := Int.ediv_nonneg (by omega) (by omega)
      split <;> omega
    unfold Ar.dr at h2
    rw [if_neg (by omega)] at h2
    omega
theorem fall_up {s : Int} {zs : List Int} {f t a : Nat} (s1 : 1 ≤ s) (s2 : s ≤ 100) (h : 0 < drp zs f t) : 0 < fall s zs f t a := by
  unfold fall
  split
  · exact dr_up (by omega) (by omega)
  · exact dr_up (by omega) (by omega)
theorem fall_dn {s : Int} {zs : List Int} {f t a : Nat} (s1 : 1 ≤ s) (h : drp zs f t ≤ 0) : fall s zs f t a ≤ 0 := by
  unfold fall
  split
  · exact dr_dn (by omega) (by omega)
  · exact dr_dn (by omega) (by omega)
theorem dnB_drp {r c : Int} {zs : List Int} {k a : Nat} : dnB r c zs k a = true ↔ goB r c k a = true ∧ 0 < drp zs k (goC r c k a).toNat := by
  unfold dnB drp
  rw [Bool.and_eq_true, decide_eq_true_eq]
  exact ⟨fun ⟨h1, h2⟩ => ⟨h1, by omega⟩, fun ⟨h1, h2⟩ => ⟨h1, by omega⟩⟩
/-- the best of the first a directions, by the loop and by the model -/
theorem best_upto {r c s : Int} {zs : List Int} (s1 : 1 ≤ s) (s2 : s ≤ 100) (k : Nat) : ∀ a : Nat,
    (bsO r c s zs k ((List.range a).filter (goB r c k)) = none ∧ stp r c s zs k a = (-1, 0)) ∨
    (∃ i : Nat, bsO r c s zs k ((List.range a).filter (goB r c k)) = some i ∧ i < a ∧ stp r c s zs k a = ((i : Int), fall s zs k (goC r c k i).toNat i) ∧ dnB r c zs k i = true)
  | 0 => Or.inl ⟨rfl, rfl⟩
  | a + 1 => by
    have ih := best_upto (zs := zs) (r := r) (c := c) s1 s2 k a
    have hst : stp r c s zs k (a + 1) = if dnB r c zs k a = true ∧ ((stp r c s zs k a).1 < 0 ∨ (stp r c s zs k a).2 < fall s zs k (goC r c k a).toNat a) then ((a : Int), fall s zs k (goC r c k a).toNat a) else stp r c s zs k a := rfl
    rw [List.range_succ, List.filter_append]
    cases hg : goB r c k a with
    | false =>
      have hd : ¬ dnB r c zs k a = true := fun h => by rw [(dnB_drp.1 h).1] at hg; cases hg
      have hf : [a].filter (goB r c k) = [] := by simp [hg]
      rw [hf, List.append_nil, hst, if_neg (fun h => hd h.1)]
      rcases ih with h | ⟨i, h1, h2, h3, h4⟩
      · exact Or.inl h
      · exact Or.inr ⟨i, h1, by omega, h3, h4⟩
    | true =>
      have hf : [a].filter (goB r c k) = [a] := by simp [hg]
      rw [hf, bsO_snoc]
      by_cases hd : dnB r c zs k a = true
      · have hfp := fall_up (a := a) s1 s2 (dnB_drp.1 hd).2
        rcases ih with ⟨h1, h2⟩ | ⟨i, h1, h2, h3, h4⟩
        · refine Or.inr ⟨a, ?_, by omega, ?_, hd⟩
          · rw [h1]; exact upd_yes hfp
          · rw [hst, if_pos ⟨hd, Or.inl (by rw [h2]; show (-1 : Int) < 0; omega)⟩]
        · by_cases hlt : fall s zs k (goC r c k i).toNat i < fall s zs k (goC r c k a).toNat a
          · refine Or.inr ⟨a, ?_, by omega, ?_, hd⟩
            · rw [h1]; exact upd_yes hlt
            · rw [hst, if_pos ⟨hd, Or.inr (by rw [h3]; exact hlt)⟩]
          · refine Or.inr ⟨i, ?_, by omega, ?_, h4⟩
            · rw [h1]; exact upd_no hlt
            · rw [hst, if_neg]
              · exact h3
              · rintro ⟨-, h | h⟩
                · rw [h3] at h; simp only at h; omega
                · rw [h3] at h; exact hlt h
      · have hn : ¬ 0 < drp zs k (goC r c k a).toNat := fun h => hd (dnB_drp.2 ⟨hg, h⟩)
        have hfn := fall_dn (a := a) s1 (show drp zs k (goC r c k a).toNat ≤ 0 by omega)
        rw [hst, if_neg (fun h => hd h.1)]
        rcases ih with ⟨h1, h2⟩ | ⟨i, h1, h2, h3, h4⟩
        · refine Or.inl ⟨?_, h2⟩
          rw [h1]; exact upd_no (by show ¬ (0 : Int) < _; omega)
        · have := fall_up (a := i) s1 s2 (dnB_drp.1 h4).2
          refine Or.inr ⟨i, ?_, by omega, h3, h4⟩
          rw [h1]; exact upd_no (by show ¬ fall s zs k (goC r c k i).toNat i < _; omega)
end Gw
/-- the cells of a step; of none: zeros -/
def stC (r c s : Int) (zs : List Int) (k : Nat) : Option Nat → Array Value
  | none => #[.int .i64 0, .int .i64 0, .int .i64 0, .int .i64 0, .int .i64 0]
  | some a => #[.int .i64 a, .int .i64 (Gw.rwA c k a), .int .i64 (Gw.clA c k a), .int .i64 (Gw.drp zs k (Gw.goC r c k a).toNat), .int .i64 (Gw.fall s zs k (Gw.goC r c k a).toNat a)]
/-- where a step leads down -/
def dnO (r c : Int) (zs : List Int) (k : Nat) : Option Nat → Int
  | none => 0
  | some a => Gw.drp zs k (Gw.goC r c k a).toNat
theorem stC_five (r c s : Int) (zs : List Int) (k : Nat) (o : Option Nat) : ∃ d p q : Int, stC r c s zs k o = #[.int .i64 d, .int .i64 p, .int .i64 q, .int .i64 (dnO r c zs k o), .int .i64 (Gw.slO r c s zs k o)] := by
  cases o with
  | none => exact ⟨0, 0, 0, rfl⟩
  | some a => exact ⟨a, _, _, rfl⟩
theorem whole_own {β : Type} (B : Nat) (t : TypeId) (f : β → Array Value) : Go.Own (fun s W => Whole W B t (f s)) := fun s X Y row hs hg hrow =>
  hs.grow hg (fun j e e' => by obtain ⟨o, ho, hc⟩ := hrow j e; rw [← e'] at ho; rw [show X.heap[B]? = _ from hs] at ho; cases ho; cases hc)
theorem BX.put {n x : Nat} (w : World) (i : Nat) (v : Value) : BX n x w (w.setCell ⟨x, i, none⟩ v) :=
  ⟨rfl, rfl, rfl, by simp, fun j _ hj => Below.heap_setCell w ⟨x, i, none⟩ v j hj⟩
end Go.Proofs.YthcmpalbhaefbaaDoor
