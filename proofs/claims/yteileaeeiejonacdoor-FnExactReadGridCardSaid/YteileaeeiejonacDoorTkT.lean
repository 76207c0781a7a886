/-
  Plain mathematics of tests read out of their texts. No Go in sight but the readers of lists.
-/
import Derived.Test.YteileaeeiejonacDoorReadL
import Derived.Test.YteileaeeiejonacDoorTkN
namespace Go.Proofs.YteileaeeiejonacDoor
open Go.RowKit
set_option linter.unusedVariables false

theorem rd_odd {p : List UInt8} {c : UInt8} (hc : c ∈ p) (h45 : c ≠ 45) (hd : Nu.dgB c = false) : Nu.rd p = none := by
  refine rd_none (Or.inr (Or.inr (Or.inr ?_)))
  rw [List.all_eq_false]
  refine ⟨c, ?_, by rw [hd]; decide⟩
  cases p with
  | nil => cases hc
  | cons x r =>
    show c ∈ (if x.toNat = 45 then r else x :: r)
    split
    · rename_i hx
      rcases List.mem_cons.1 hc with rfl | h
      · exact absurd (UInt8.toNat_inj.1 (by rw [hx]; rfl)) h45
      · exact h
    · exact hc
theorem spl_mem {c d : UInt8} (hcd : d ≠ c) : ∀ {l : List UInt8}, d ∈ l → ∃ p ∈ spl c l, d ∈ p
  | [], h => by cases h
  | x :: r, h => by
    rw [spl]
    rcases List.mem_cons.1 h with rfl | h
    · rw [if_neg hcd]
      cases hs : spl c r with
      | nil => exact ⟨[d], by simp, by simp⟩
      | cons p ps => exact ⟨d :: p, by simp, by simp⟩
    · obtain ⟨p, hp, hd⟩ := spl_mem hcd h
      by_cases hx : x = c
      · rw [if_pos hx]; exact ⟨p, List.mem_cons_of_mem _ hp, hd⟩
      · rw [if_neg hx]
        cases hs : spl c r with
        | nil => rw [hs] at hp; cases hp
        | cons q ps =>
          rw [hs] at hp
          rcases List.mem_cons.1 hp with rfl | hp
          · exact ⟨x :: p, by simp, List.mem_cons_of_mem _ hd⟩
          · exact ⟨p, by simp [hp], hd⟩
/-- no list's text has a sign that is no digit, comma or minus -/
theorem rl_odd {l : List UInt8} {c : UInt8} (hc : c ∈ l) (h44 : c ≠ 44) (h45 : c ≠ 45) (hd : Nu.dgB c = false) : rl l = none := by
  unfold rl
  rw [if_neg (by intro e; subst e; simp at hc; exact h45 hc)]
  split
  · rfl
  · obtain ⟨p, hp, hcp⟩ := spl_mem h44 hc
    exact mp_none hp (rdV_none (rd_odd hcp h45 hd))
theorem rl_nil : rl [] = none := by
  unfold rl
  rw [if_neg (by simp)]
  have h : spl 44 [] = [[]] := rfl
  rw [h, if_neg (by simp)]
  exact mp_none (List.mem_singleton_self _) (rdV_none (rd_none (Or.inl rfl)))
/-- the two ways of parting a text at a sign: its first part and the rest, and all parts -/
theorem spl_two (c : UInt8) (l : List UInt8) : (c ∉ l ∧ spl c l = [l]) ∨ (∃ p r, l = p ++ c :: r ∧ c ∉ p ∧ c ∉ r ∧ spl c l = [p, r]) ∨ (∃ p r, l = p ++ c :: r ∧ c ∉ p ∧ c ∈ r ∧ 2 < (spl c l).length) := by
  rcases idx_cases c l with ⟨h, _⟩ | ⟨p, r, rfl, hp, _⟩
  · exact Or.inl ⟨h, spl_miss c l h⟩
  · rw [spl_hit c r p hp]
    rcases idx_cases c r with ⟨h, _⟩ | ⟨q, t, rfl, hq, _⟩
    · exact Or.inr (Or.inl ⟨p, r, rfl, hp, h, by rw [spl_miss c r h]⟩)
    · refine Or.inr (Or.inr ⟨p, _, rfl, hp, by simp, ?_⟩)
      rw [spl_hit c t q hq]
      have := spl_ne c t
      cases hs : spl c t with
      | nil => exact absurd hs this
      | cons a b => simp
namespace Tq
/-- the kind with a name -/
def kindOf (p : List UInt8) : Int := if p = (nmB 1).data.toList then 1 else if p = (nmB 2).data.toList then 2 else if p = (nmB 3).data.toList then 3 else 0
/-- no test -/
def tz : Tst := ⟨0, 0, 0, 0, 0⟩
def t4 (k : Int) (zs : List Int) : Option Tst := match zs with
  | [a, b, c, d] => if okT ⟨k, a, b, c, d⟩ = true then some ⟨k, a, b, c, d⟩ else none
  | _ => none
/-- the test with a text -/
def rt (l : List UInt8) : Option Tst := match spl 32 l with
  | [p, r] => (rl r).bind (t4 (kindOf p))
  | _ => none
theorem rt_one {l : List UInt8} (h : spl 32 l = [l]) : rt l = none := by unfold rt; rw [h]
theorem rt_many {l : List UInt8} (h : 2 < (spl 32 l).length) : rt l = none := by
  unfold rt
  match hs : spl 32 l, h with
  | [], _ => rfl
  | [_], _ => rfl
  | [_, _], h => simp at h
  | _ :: _ :: _ :: _, _ => rfl
theorem rt_two {l p r : List UInt8} (h : spl 32 l = [p, r]) : rt l = (rl r).bind (t4 (kindOf p)) := by unfold rt; rw [h]
theorem t4_len {k : Int} {zs : List Int} (h2 : zs.length ≠ 4) : t4 k zs = none := by
  match zs, h2 with
  | [], _ => rfl
  | [_], _ => rfl
  | [_, _], _ => rfl
  | [_, _, _], _ => rfl
  | [_, _, _, _], h2 => simp at h2
  | _ :: _ :: _ :: _ :: _ :: _, _ => rfl
theorem t4_bad {k a b c d : Int} (h : okT ⟨k, a, b, c, d⟩ = false) : t4 k [a, b, c, d] = none := by unfold t4; simp [h]
theorem t4_ok {k a b c d : Int} (h : okT ⟨k, a, b, c, d⟩ = true) : t4 k [a, b, c, d] = some ⟨k, a, b, c, d⟩ := by unfold t4; simp [h]
theorem four {zs : List Int} (h : zs.length = 4) : ∃ a b c d, zs = [a, b, c, d] := by
  match zs, h with
  | [a, b, c, d], _ => exact ⟨a, b, c, d, rfl⟩
end Tq
end Go.Proofs.YteileaeeiejonacDoor
