/-
  Plain mathematics of texts that are fields of digits between separators: cut at the separator and looked at part by part, or looked at by places. No Go in sight.
-/
import Derived.Test.YtommcckihanedaaGreatDoorNumber
import Derived.Test.YtommcckihanedaaGreatDoorDig
import Derived.Lib.SplitLaws
namespace Go.Proofs.YtommcckihanedaaGreatDoor.Fd
open Go.Lib Go.Proofs.YtommcckihanedaaGreatDoor

/-- the number that exactly so many digits write -/
def rd1 (w : Nat) (p : List UInt8) : Option Nat := if p.length = w ∧ p.all Nu.dgB = true then some (Nu.val p) else none
theorem rd1_none {w : Nat} {p : List UInt8} (h : ¬ (p.length = w ∧ p.all Nu.dgB = true)) : rd1 w p = none := by unfold rd1; rw [if_neg h]
theorem rd1_some {w : Nat} {p : List UInt8} (h : p.length = w) (h2 : p.all Nu.dgB = true) : rd1 w p = some (Nu.val p) := by unfold rd1; rw [if_pos ⟨h, h2⟩]
/-- part by part -/
def rdAll : List Nat → List (List UInt8) → Option (List Nat)
  | [], [] => some []
  | w :: ws, p :: ps => match rd1 w p, rdAll ws ps with
    | some v, some vs => some (v :: vs)
    | _, _ => none
  | _, _ => none
/-- by places -/
def flds (c : UInt8) : List Nat → List UInt8 → Option (List Nat)
  | [], _ => none
  | [w], l => match rd1 w l with | some v => some [v] | none => none
  | w :: ws, l => if w < l.length ∧ l[w]? = some c then
      match rd1 w (l.take w), flds c ws (l.drop (w + 1)) with
      | some v, some vs => some (v :: vs)
      | _, _ => none
    else none
theorem at_cut (p : List UInt8) (c : UInt8) (r : List UInt8) : (p ++ c :: r)[p.length]? = some c ∧ (p ++ c :: r).take p.length = p ∧ (p ++ c :: r).drop (p.length + 1) = r := by
  refine ⟨by simp, by simp, ?_⟩
  rw [List.drop_append, List.drop_of_length_le (by omega)]
  simp
theorem idx_two (c : UInt8) : ∀ l : List UInt8, (c ∉ l ∧ Lib.index l [c] = -1) ∨ ∃ p r, l = p ++ c :: r ∧ c ∉ p ∧ Lib.index l [c] = (p.length : Int)
  | [] => Or.inl ⟨by simp, by simp [Lib.index]⟩
  | x :: l => by
    by_cases hx : c = x
    · subst hx
      exact Or.inr ⟨[], l, rfl, by simp, by simp [Lib.index]⟩
    · have hpx : ([c] : List UInt8).isPrefixOf (x :: l) = false := by simp [List.isPrefixOf, hx]
      rcases idx_two c l with ⟨h1, h2⟩ | ⟨p, r, h1, h2, h3⟩
      · exact Or.inl ⟨by simp [h1, hx], by rw [Lib.index, hpx, h2]; rfl⟩
      · refine Or.inr ⟨x :: p, r, by rw [h1]; rfl, by simp [h2, hx], ?_⟩
        rw [Lib.index, hpx, h3, List.length_cons]
        have : ¬ (((p.length : Int)) == -1) = true := by rw [beq_iff_eq]; omega
        rw [if_neg (by decide), if_neg this]; omega
theorem splitK_miss {c : UInt8} {l : List UInt8} (k : Nat) (h : Lib.index l [c] = -1) : Lib.splitK [c] 0 k l = [l] := by
  cases k with
  | zero => rfl
  | succ k => rw [Lib.splitK, h]; rfl
theorem splitK_hit {c : UInt8} {p r : List UInt8} (k : Nat) (h : Lib.index (p ++ c :: r) [c] = (p.length : Int)) : Lib.splitK [c] 0 (k + 1) (p ++ c :: r) = p :: Lib.splitK [c] 0 k r := by
  have hm : ¬ ((Lib.index (p ++ c :: r) [c]) == -1) = true := by rw [beq_iff_eq, h]; omega
  rw [Lib.splitK, if_neg hm, h]
  congr 1
  · simp
  · congr 1
    simp
/-- a bound on the parts that is not reached makes no difference -/
theorem splitK_more {c : UInt8} : ∀ (l : List UInt8) (j k : Nat), l.length ≤ j → l.length ≤ k → Lib.splitK [c] 0 j l = Lib.splitK [c] 0 k l := by
  intro l
  induction hn : l.length using Nat.strongRecOn generalizing l with
  | ind n ih =>
    intro j k hj hk
    rcases idx_two c l with ⟨_, h⟩ | ⟨p, r, rfl, _, h⟩
    · rw [splitK_miss j h, splitK_miss k h]
    · simp only [List.length_append, List.length_cons] at hn
      obtain ⟨j, rfl⟩ := Nat.exists_eq_add_of_le' (show 1 ≤ j by omega)
      obtain ⟨k, rfl⟩ := Nat.exists_eq_add_of_le' (show 1 ≤ k by omega)
      rw [splitK_hit j h, splitK_hit k h, ih r.length (by omega) r rfl j k (by omega) (by omega)]
theorem splitK_min {c : UInt8} (l : List UInt8) (n : Nat) (hn : 1 ≤ n) : Lib.splitK [c] 0 (min n (l.length + 1) - 1) l = Lib.splitK [c] 0 (n - 1) l := by
  by_cases h : n ≤ l.length + 1
  · rw [Nat.min_eq_left h]
  · rw [Nat.min_eq_right (by omega)]
    exact splitK_more l _ _ (by omega) (by omega)
theorem splitK_pos (c : UInt8) (k : Nat) (l : List UInt8) : 1 ≤ (Lib.splitK [c] 0 k l).length ∧ (Lib.splitK [c] 0 k l).length ≤ k + 1 := by
  induction k generalizing l with
  | zero => exact ⟨Nat.le_refl 1, Nat.le_refl 1⟩
  | succ k ih =>
    rcases idx_two c l with ⟨_, h⟩ | ⟨p, r, rfl, _, h⟩
    · rw [splitK_miss _ h]; exact ⟨Nat.le_refl 1, by simp⟩
    · rw [splitK_hit k h, List.length_cons]; have := ih r; omega
theorem dig_ne {c : UInt8} (hc : Nu.dgB c = false) {l : List UInt8} (h : l.all Nu.dgB = true) : c ∉ l := by
  intro hm
  have := List.all_eq_true.1 h _ hm
  rw [hc] at this; cases this
/-- the two ways to read agree -/
theorem flds_eq {c : UInt8} (hc : Nu.dgB c = false) : ∀ (ws : List Nat) (l : List UInt8), ws ≠ [] → flds c ws l = rdAll ws (Lib.splitK [c] 0 (ws.length - 1) l) := by
  intro ws
  induction ws with
  | nil => intro l h; exact absurd rfl h
  | cons w ws ih =>
    intro l _
    cases ws with
    | nil =>
      show flds c [w] l = rdAll [w] [l]
      unfold flds rdAll
      cases rd1 w l <;> rfl
    | cons v vs =>
      have hk : (w :: v :: vs).length - 1 = ((v :: vs).length - 1) + 1 := by simp
      rw [hk]
      have ih' := fun l => ih l (by simp)
      generalize hvs : v :: vs = us at *
      have hne : us ≠ [] := by rw [← hvs]; simp
      have hfl : flds c (w :: us) l = if w < l.length ∧ l[w]? = some c then (match rd1 w (l.take w), flds c us (l.drop (w + 1)) with | some v, some vs => some (v :: vs) | _, _ => none) else none := by
        rw [← hvs]; rfl
      rw [hfl]
      rcases idx_two c l with ⟨hn, h⟩ | ⟨p, r, rfl, hn, h⟩
      · rw [splitK_miss _ h]
        have h1 : ¬ (w < l.length ∧ l[w]? = some c) := by
          rintro ⟨_, h⟩
          exact hn (List.mem_of_getElem? h)
        rw [if_neg h1]
        rw [← hvs]; unfold rdAll
        cases rd1 w l <;> rfl
      · rw [splitK_hit _ h]
        obtain ⟨e1, e2, e3⟩ := at_cut p c r
        show _ = (match rd1 w p, rdAll us (Lib.splitK [c] 0 (us.length - 1) r) with | some v, some vs => some (v :: vs) | _, _ => none)
        by_cases hw : p.length = w
        · subst hw
          rw [if_pos ⟨by simp, e1⟩, e2, e3, ih' r]
        · have hp : rd1 w p = none := rd1_none (fun h => hw h.1)
          rw [hp]
          by_cases hlt : w < p.length
          · have : ¬ (w < (p ++ c :: r).length ∧ (p ++ c :: r)[w]? = some c) := by
              rintro ⟨_, h⟩
              rw [List.getElem?_append_left hlt] at h
              exact hn (List.mem_of_getElem? h)
            rw [if_neg this]
          · by_cases hcond : w < (p ++ c :: r).length ∧ (p ++ c :: r)[w]? = some c
            · rw [if_pos hcond]
              have : rd1 w ((p ++ c :: r).take w) = none := by
                refine rd1_none (fun h => ?_)
                refine dig_ne hc h.2 ?_
                rw [List.take_append]
                refine List.mem_append_right _ ?_
                rw [show w - p.length = (w - p.length - 1) + 1 by omega, List.take_succ_cons]
                exact List.mem_cons_self
              rw [this]
            · rw [if_neg hcond]
theorem rdAll_len {ws : List Nat} {ps : List (List UInt8)} {vs : List Nat} (h : rdAll ws ps = some vs) : ps.length = ws.length ∧ vs.length = ws.length := by
  induction ws generalizing ps vs with
  | nil => cases ps with
    | nil => simp only [rdAll, Option.some.injEq] at h; subst h; exact ⟨rfl, rfl⟩
    | cons p ps => cases h
  | cons w ws ih => cases ps with
    | nil => cases h
    | cons p ps =>
      simp only [rdAll] at h
      split at h
      · rename_i v us h1 h2
        simp only [Option.some.injEq] at h
        subst h
        obtain ⟨a, b⟩ := ih h2
        simp [a, b]
      · cases h
theorem rdAll_short {ws : List Nat} {ps : List (List UInt8)} (h : ps.length ≠ ws.length) : rdAll ws ps = none := by
  cases hr : rdAll ws ps with
  | none => rfl
  | some vs => exact absurd (rdAll_len hr).1 h
/-- what is written by a width is read back -/
theorem rd1_pad (w b : Nat) (h : b < 10 ^ w) : rd1 w (Dg.pad w b) = some b := by
  rw [rd1_some (Dg.pad_length w b) (Dg.pad_digits w b), Dg.pad_val w b h]
end Go.Proofs.YtommcckihanedaaGreatDoor.Fd
