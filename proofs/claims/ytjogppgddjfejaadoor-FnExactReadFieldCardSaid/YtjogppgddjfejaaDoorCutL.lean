/-
  Texts divided at a sign, lists of numbers with a strange sign, strings.Cut at one sign. No condition of its own.
-/
import Derived.Test.YtjogppgddjfejaaDoorReadL
import Derived.Test.YtjogppgddjfejaaDoorGen
namespace Go.Proofs.YtjogppgddjfejaaDoor
open Go.RowKit Go.ChangeShapes Go.WideShapes Go.Deep
set_option linter.unusedVariables false

theorem rd_odd {p : List UInt8} {c : UInt8} (hc : c ∈ p) (h45 : c ≠ 45) (hd : Nu.dgB c = false) : Nu.rd p = none := by
  refine rd_none (Or.inr (Or.inr (Or.inr ?_)))
  rw [List.all_eq_false]
  refine ⟨c, ?_, by rw [hd]; decide⟩
  cases p with
  | nil => cases hc
  | cons x r =>
    show c ∈ (if x.toNat = 45 then r else x :: r)
    split
    · rename_i hx
      rcases List.mem_cons.1 hc with rfl | h
      · exact absurd (UInt8.toNat_inj.1 (by rw [hx]; rfl)) h45
      · exact h
    · exact hc
theorem spl_mem {c d : UInt8} (hcd : d ≠ c) : ∀ {l : List UInt8}, d ∈ l → ∃ p ∈ spl c l, d ∈ p
  | [], h => by cases h
  | x :: r, h => by
    rw [spl]
    rcases List.mem_cons.1 h with rfl | h
    · rw [if_neg hcd]
      cases hs : spl c r with
      | nil => exact ⟨[d], by simp, by simp⟩
      | cons p ps => exact ⟨d :: p, by simp, by simp⟩
    · obtain ⟨p, hp, hd⟩ := spl_mem hcd h
      by_cases hx : x = c
      · rw [if_pos hx]; exact ⟨p, List.mem_cons_of_mem _ hp, hd⟩
      · rw [if_neg hx]
        cases hs : spl c r with
        | nil => rw [hs] at hp; cases hp
        | cons q ps =>
          rw [hs] at hp
          rcases List.mem_cons.1 hp with rfl | hp
          · exact ⟨x :: p, by simp, List.mem_cons_of_mem _ hd⟩
          · exact ⟨p, by simp [hp], hd⟩
/-- no list's text has a sign that is no digit, comma or minus -/
theorem rl_odd {l : List UInt8} {c : UInt8} (hc : c ∈ l) (h44 : c ≠ 44) (h45 : c ≠ 45) (hd : Nu.dgB c = false) : rl l = none := by
  unfold rl
  rw [if_neg (by intro e; subst e; simp at hc; exact h45 hc)]
  split
  · rfl
  · obtain ⟨p, hp, hcp⟩ := spl_mem h44 hc
    exact mp_none hp (rdV_none (rd_odd hcp h45 hd))
theorem rl_nil : rl [] = none := by
  unfold rl
  rw [if_neg (by simp)]
  have h : spl 44 [] = [[]] := rfl
  rw [h, if_neg (by simp)]
  exact mp_none (List.mem_singleton_self _) (rdV_none (rd_none (Or.inl rfl)))
/-- the two ways of parting a text at a sign: its first part and the rest, and all parts -/
theorem spl_two (c : UInt8) (l : List UInt8) : (c ∉ l ∧ spl c l = [l]) ∨ (∃ p r, l = p ++ c :: r ∧ c ∉ p ∧ c ∉ r ∧ spl c l = [p, r]) ∨ (∃ p r, l = p ++ c :: r ∧ c ∉ p ∧ c ∈ r ∧ 2 < (spl c l).length) := by
  rcases idx_cases c l with ⟨h, _⟩ | ⟨p, r, rfl, hp, _⟩
  · exact Or.inl ⟨h, spl_miss c l h⟩
  · rw [spl_hit c r p hp]
    rcases idx_cases c r with ⟨h, _⟩ | ⟨q, t, rfl, hq, _⟩
    · exact Or.inr (Or.inl ⟨p, r, rfl, hp, h, by rw [spl_miss c r h]⟩)
    · refine Or.inr (Or.inr ⟨p, _, rfl, hp, by simp, ?_⟩)
      rw [spl_hit c t q hq]
      have := spl_ne c t
      cases hs : spl c t with
      | nil => exact absurd hs this
      | cons a b => simp
theorem cut_miss {c : UInt8} {l : List UInt8} (h : c ∉ l) : Lib.cut l [c] = (l, [], false) := by
  rcases idx_cases c l with ⟨_, hi⟩ | ⟨p, r, rfl, _, _⟩
  · unfold Lib.cut; rw [hi, if_neg (by omega)]
  · simp at h
theorem cut_hit {c : UInt8} {p r : List UInt8} (h : c ∉ p) : Lib.cut (p ++ c :: r) [c] = (p, r, true) := by
  rcases idx_cases c (p ++ c :: r) with ⟨hn, _⟩ | ⟨q, t, he, hq, hi⟩
  · simp at hn
  · have hpq : p = q ∧ r = t := by
      have h1 := spl_hit c r p h
      have h2 := spl_hit c t q hq
      rw [he, h2] at h1
      have h3 := (List.cons.inj h1).1
      subst h3
      have h4 := List.append_cancel_left he
      exact ⟨rfl, (List.cons.inj h4).2⟩
    obtain ⟨rfl, rfl⟩ := hpq
    unfold Lib.cut
    rw [hi, if_pos (by omega)]
    simp
theorem cut_len (c : UInt8) (l : List UInt8) : (Lib.cut l [c]).1.length ≤ l.length ∧ (Lib.cut l [c]).2.1.length ≤ l.length := by
  rcases idx_cases c l with ⟨h, _⟩ | ⟨p, r, rfl, hp, _⟩
  · rw [cut_miss h]; simp
  · rw [cut_hit hp]; simp; omega
theorem cut_any (s : ByteArray) (c : UInt8) (w : World) (hs : s.size ≤ 1048576) (hm : MaxL w) :
    Calls Tryd.prog 10 #[.string s, .string ⟨#[c]⟩] w fun e w' => e = .returned (.tuple #[.string ⟨(Lib.cut s.data.toList [c]).1.toArray⟩, .string ⟨(Lib.cut s.data.toList [c]).2.1.toArray⟩, .bool (Lib.cut s.data.toList [c]).2.2]) ∧ Below w.heap.size w w' := by
  obtain ⟨m, hm⟩ := hm
  refine (Any.strings_Cut { Tryd.laysM145 with } s ⟨#[c]⟩ m w (by omega) hm).mono ?_
  rintro e w' ⟨rfl, n, rfl⟩
  exact ⟨rfl, below_drewW _ _⟩
end Go.Proofs.YtjogppgddjfejaaDoor
