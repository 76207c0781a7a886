/-
  Plain mathematics of numbers with a point: the point taken out, the rest is the number; the parts and their places. No Go in sight.
-/
import Derived.Test.YtommcckihanedaaGreatDoorDig
import Derived.Test.YtommcckihanedaaGreatDoorFld
import Derived.Lib.Replace
import Derived.Lib.ParseIntB
namespace Go.Proofs.YtommcckihanedaaGreatDoor.Fx
open Go.Lib Go.Proofs.YtommcckihanedaaGreatDoor

theorem first_uniq {c : UInt8} : ∀ {a a' b b' : List UInt8}, a ++ c :: b = a' ++ c :: b' → c ∉ a → c ∉ a' → a = a' ∧ b = b'
  | [], [], b, b', h, _, _ => ⟨rfl, by simpa using h⟩
  | [], x :: a', b, b', h, _, h2 => by
    simp only [List.nil_append, List.cons_append, List.cons.injEq] at h
    exact absurd (by rw [h.1]; simp) h2
  | x :: a, [], b, b', h, h1, _ => by
    simp only [List.nil_append, List.cons_append, List.cons.injEq] at h
    exact absurd (by rw [h.1]; simp) h1
  | x :: a, y :: a', b, b', h, h1, h2 => by
    simp only [List.cons_append, List.cons.injEq] at h
    obtain ⟨e1, e2⟩ := first_uniq h.2 (fun hm => h1 (List.mem_cons_of_mem _ hm)) (fun hm => h2 (List.mem_cons_of_mem _ hm))
    exact ⟨by rw [h.1, e1], e2⟩
theorem idx_first {c : UInt8} {a b : List UInt8} (h : c ∉ a) : Lib.index (a ++ c :: b) [c] = (a.length : Int) := by
  rcases Fd.idx_two c (a ++ c :: b) with ⟨hn, _⟩ | ⟨p, r, he, hp, hi⟩
  · exact absurd (by simp) hn
  · obtain ⟨e1, _⟩ := first_uniq he h hp
    rw [hi, e1]
theorem count_one {c : UInt8} {a b : List UInt8} (h : c ∉ a) : 1 ≤ Lib.count (a ++ c :: b) [c] := by
  unfold Lib.count
  rw [Lib.countFrom, if_neg (by rw [idx_first h, beq_iff_eq]; omega)]
  omega
theorem rep_point {a b : List UInt8} (h : (46 : UInt8) ∉ a) : Lib.replace (a ++ 46 :: b) [46] [] 1 = a ++ b := by
  unfold Lib.replace
  rw [if_neg (by decide)]
  have hc := count_one (b := b) h
  have hn : Lib.replaceNum (a ++ 46 :: b) [46] 1 = 0 + 1 := by
    unfold Lib.replaceNum; rw [if_neg (by omega)]; rfl
  rw [hn, Lib.replaceK_hit _ _ 0 _ a.length (idx_first h)]
  rw [List.take_left']
  · have : (a ++ 46 :: b).drop (a.length + [(46 : UInt8)].length) = b := by
      rw [show a.length + [(46 : UInt8)].length = a.length + 1 from rfl]
      exact (Fd.at_cut a 46 b).2.2
    rw [this]; simp [Lib.replaceK]
  · rfl
theorem rep_nil : Lib.replace [] [46] [] 1 = [] := by decide
theorem dd_digits (u : Nat) : (decDigits u).all Nu.dgB = true := (Nu.val_dec u).2.1
theorem parse_pos {l : List UInt8} {m : Nat} (h : l.all Nu.dgB = true) (hne : l ≠ []) (hv : Nu.val l = m) (hm : m < 1000000000000000000) : parseIntB 64 l = .ok (m : Int) := by
  have hp : parseUintB 64 l = .ok m := by
    unfold parseUintB; rw [if_neg hne]
    have := Nu.parse_ok l h 0 (by unfold Nu.val at hv; omega)
    rw [this]; unfold Nu.val at hv; rw [hv]
  match l, hne with
  | c :: r, _ =>
    have hcd : 48 ≤ c.toNat ∧ c.toNat ≤ 57 := by simpa [Nu.dgB_iff] using (List.all_eq_true.1 h c (by simp))
    unfold parseIntB
    have h43 : ¬ c.toNat = 43 := by omega
    have h45 : ¬ c.toNat = 45 := by omega
    simp only [h43, h45, or_self, if_false, hp, not_false_eq_true, true_and, false_and]
    rw [if_neg (by omega)]
theorem parse_neg {l : List UInt8} {m : Nat} (h : l.all Nu.dgB = true) (hne : l ≠ []) (hv : Nu.val l = m) (hm : m < 1000000000000000000) : parseIntB 64 (45 :: l) = .ok (-(m : Int)) := by
  have hp : parseUintB 64 l = .ok m := by
    unfold parseUintB; rw [if_neg hne]
    have := Nu.parse_ok l h 0 (by unfold Nu.val at hv; omega)
    rw [this]; unfold Nu.val at hv; rw [hv]
  unfold parseIntB
  simp only [show ((45 : UInt8).toNat) = 45 from rfl, or_true, if_true, hp, not_true_eq_false, false_and, if_false, true_and]
  rw [if_neg (by omega)]
theorem parts_val (m p : Nat) : Nu.val (decDigits (m / 10 ^ p) ++ Dg.pad p (m % 10 ^ p)) = m := by
  rw [Dg.val_app, (Nu.val_dec _).1, Dg.pad_length, Dg.pad_val p _ (Nat.mod_lt _ (Dg.pow_pos p)), Nat.mul_comm]
  exact Nat.div_add_mod m (10 ^ p)
/-- without its point the text is the number -/
theorem fx_parse {n : Int} {p : Nat} (h1 : -1000000000 ≤ n) (h2 : n ≤ 1000000000) : parseIntB 64 (Lib.replace (Dg.fx n p) [46] [] 1) = .ok n := by
  have hdd := dd_digits (n.natAbs / 10 ^ p)
  have hall : (decDigits (n.natAbs / 10 ^ p) ++ Dg.pad p (n.natAbs % 10 ^ p)).all Nu.dgB = true := by rw [List.all_append, hdd, Dg.pad_digits]; rfl
  have hne : decDigits (n.natAbs / 10 ^ p) ++ Dg.pad p (n.natAbs % 10 ^ p) ≠ [] := by
    intro h
    have := Dg.dec_len_pos (n.natAbs / 10 ^ p)
    rw [(List.append_eq_nil_iff.1 h).1] at this
    exact absurd this (by decide)
  have hv := parts_val n.natAbs p
  unfold Dg.fx
  by_cases hn : n < 0
  · rw [if_pos hn, rep_point (by
      intro hm
      rcases List.mem_append.1 hm with h | h
      · simp at h
      · exact Dg.no46 hdd h), List.append_assoc, List.singleton_append, parse_neg hall hne hv (by omega)]
    congr 1; omega
  · rw [if_neg hn, rep_point (by
      intro hm
      rcases List.mem_append.1 hm with h | h
      · simp at h
      · exact Dg.no46 hdd h), List.append_assoc, List.nil_append, parse_pos hall hne hv (by omega)]
    congr 1; omega
/-- what ReadFixed is to answer -/
def RFx (l : List UInt8) (p : Int) : Option Int → Prop
  | some n => (-1000000000 ≤ n ∧ n ≤ 1000000000) ∧ (1 ≤ p ∧ p ≤ 6) ∧ Dg.fx n p.toNat = l
  | none => ∀ n : Int, (-1000000000 ≤ n ∧ n ≤ 1000000000) → (1 ≤ p ∧ p ≤ 6) → Dg.fx n p.toNat ≠ l
theorem RFx.uniq {l : List UInt8} {p : Int} {o o' : Option Int} (h : RFx l p o) (h' : RFx l p o') : o = o' := by
  rcases o with _ | n <;> rcases o' with _ | n'
  · rfl
  · exact absurd h'.2.2 (h n' h'.1 h'.2.1)
  · exact absurd h.2.2 (h' n h.1 h.2.1)
  · have a := fx_parse (p := p.toNat) h.1.1 h.1.2
    have b := fx_parse (p := p.toNat) h'.1.1 h'.1.2
    rw [h.2.2] at a
    rw [h'.2.2] at b
    rw [a] at b
    simp only [NumEnd.ok.injEq] at b
    rw [b]
/-- how long the text is, and what lies where -/
theorem fx_shape {n : Int} {p : Nat} {l : List UInt8} (h1 : -1000000000 ≤ n) (h2 : n ≤ 1000000000) (p1 : 1 ≤ p) (p2 : p ≤ 6) (h : Dg.fx n p = l) :
    l.length ≤ 18 ∧ p + 2 ≤ l.length ∧ l[l.length - p - 1]? = some 46 ∧ l.drop (l.length - p) = Dg.pad p (n.natAbs % 10 ^ p) ∧
    ((n < 0 ∧ l[0]? = some 45 ∧ 1 < l.length - p - 1 ∧ (l.drop 1).take (l.length - p - 1 - 1) = decDigits (n.natAbs / 10 ^ p)) ∨
     (¬ n < 0 ∧ l[0]? ≠ some 45 ∧ 0 < l.length - p - 1 ∧ (l.drop 0).take (l.length - p - 1 - 0) = decDigits (n.natAbs / 10 ^ p))) := by
  have hpl := Dg.pad_length p (n.natAbs % 10 ^ p)
  have hd1 := Dg.dec_len_pos (n.natAbs / 10 ^ p)
  have hdm := Nat.div_le_self n.natAbs (10 ^ p)
  have hd2 := Dg.dec_len_le 10 (n.natAbs / 10 ^ p) (by omega) (by omega)
  have hdd := dd_digits (n.natAbs / 10 ^ p)
  unfold Dg.fx at h
  generalize decDigits (n.natAbs / 10 ^ p) = dd at *
  generalize Dg.pad p (n.natAbs % 10 ^ p) = rr at *
  by_cases hn : n < 0
  · rw [if_pos hn] at h
    subst h
    have hl : ([45] ++ dd ++ 46 :: rr).length = dd.length + p + 2 := by simp [hpl]; omega
    have e := Fd.at_cut ([45] ++ dd) 46 rr
    have el : ([45] ++ dd : List UInt8).length = dd.length + 1 := by simp
    rw [el] at e
    refine ⟨by omega, by omega, ?_, ?_, Or.inl ⟨hn, by simp, by omega, ?_⟩⟩
    · rw [hl, show dd.length + p + 2 - p - 1 = dd.length + 1 by omega]; exact e.1
    · rw [hl, show dd.length + p + 2 - p = dd.length + 1 + 1 by omega]; exact e.2.2
    · rw [hl, show dd.length + p + 2 - p - 1 - 1 = dd.length by omega]; simp
  · rw [if_neg hn] at h
    subst h
    have hl : ([] ++ dd ++ 46 :: rr).length = dd.length + p + 1 := by simp [hpl]; omega
    have e := Fd.at_cut ([] ++ dd) 46 rr
    have el : ([] ++ dd : List UInt8).length = dd.length := by simp
    rw [el] at e
    refine ⟨by omega, by omega, ?_, ?_, Or.inr ⟨hn, ?_, by omega, ?_⟩⟩
    · rw [hl, show dd.length + p + 1 - p - 1 = dd.length by omega]; exact e.1
    · rw [hl, show dd.length + p + 1 - p = dd.length + 1 by omega]; exact e.2.2
    · match dd, hd1 with
      | c :: r, _ =>
        intro hc
        simp at hc
        subst hc
        exact absurd (List.all_eq_true.1 hdd 45 (by simp)) (by decide)
    · rw [hl, show dd.length + p + 1 - p - 1 - 0 = dd.length by omega]; simp
end Go.Proofs.YtommcckihanedaaGreatDoor.Fx
