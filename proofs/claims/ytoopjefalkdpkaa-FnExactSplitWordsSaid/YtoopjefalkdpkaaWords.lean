import Derived.Test.YtoopjefalkdpkaaSplit
import Derived.Lib.FieldsP
import Derived.Lib.SpaceUEq
namespace Go.Proofs.Ytoopjefalkdpkaa
open Go.RowKit
set_option linter.unusedVariables false

/-- the parts of a line between blanks that are not empty -/
def words (l : List UInt8) : List (List UInt8) := (spl 32 l).filter fun p => !p.isEmpty
theorem words_nil : words [] = [] := rfl
theorem words_blank (l : List UInt8) : words (32 :: l) = words l := by
  unfold words; rw [spl, if_pos rfl]; rfl
theorem words_hit (p r : List UInt8) (h : (32 : UInt8) ∉ p) (hp : p ≠ []) : words (p ++ 32 :: r) = p :: words r := by
  unfold words
  rw [spl_hit 32 r p h, List.filter_cons]
  cases p with
  | nil => exact absurd rfl hp
  | cons x p => rfl
theorem words_one (p : List UInt8) (h : (32 : UInt8) ∉ p) (hp : p ≠ []) : words p = [p] := by
  unfold words
  rw [spl_miss 32 p h]
  cases p with
  | nil => exact absurd rfl hp
  | cons x p => rfl
/-- the rune at a place is the blank just where the byte is; no byte of another rune is the blank -/
theorem rune_blank (s : ByteArray) (pos : Nat) (h : pos < s.size) :
    ((Utf8.decode s pos).1 = 32 ∧ (Utf8.decode s pos).2 = 1 ∧ s.data.toList[pos]? = some 32) ∨
    ((Utf8.decode s pos).1 ≠ 32 ∧ 1 ≤ (Utf8.decode s pos).2 ∧ pos + (Utf8.decode s pos).2 ≤ s.size ∧ ∀ j, j < (Utf8.decode s pos).2 → s.data.toList[pos + j]? ≠ some 32) := by
  have hl : s.data.toList.length = s.size := by simp
  have e := Lib.decode_N s pos
  rw [hl] at e
  have hg : ∀ k c, s.data.toList[k]? = some c → s.data.toList.getD k 0 = c := fun k c hk => by rw [List.getD_eq_getElem?_getD, hk]; rfl
  have hc := Lib.decodeN_conts (s.size - pos) (s.data.toList.getD pos 0).toNat (s.data.toList.getD (pos + 1) 0).toNat (s.data.toList.getD (pos + 2) 0).toNat (s.data.toList.getD (pos + 3) 0).toNat
  have hk := Lib.decodeN_cases (s.size - pos) (s.data.toList.getD pos 0).toNat (s.data.toList.getD (pos + 1) 0).toNat (s.data.toList.getD (pos + 2) 0).toNat (s.data.toList.getD (pos + 3) 0).toNat
  have hw := Lib.width_pos s pos
  rw [← e] at hc hk
  obtain ⟨c2, c3, c4, c5⟩ := hc
  obtain ⟨b, hb⟩ : ∃ b, s.data.toList[pos]? = some b := ⟨_, List.getElem?_eq_getElem (by omega)⟩
  have hb' := hg _ _ hb
  rw [hb'] at hk
  have hcont : ∀ j, 1 ≤ j → (s.data.toList.getD (pos + j) 0).toNat / 64 = 2 → s.data.toList[pos + j]? ≠ some 32 := by
    intro j _ hd hj
    rw [hg _ _ hj] at hd
    simp at hd
  have hwid : pos + (Utf8.decode s pos).2 ≤ s.size := by
    by_cases h2 : 2 ≤ (Utf8.decode s pos).2
    · by_cases h3 : 3 ≤ (Utf8.decode s pos).2
      · by_cases h4 : 4 ≤ (Utf8.decode s pos).2
        · have := (c4 h4).2; omega
        · have := (c3 h3).2; omega
      · have := (c2 h2).2; omega
    · omega
  have hrest : ∀ j, 1 ≤ j → j < (Utf8.decode s pos).2 → s.data.toList[pos + j]? ≠ some 32 := by
    intro j h1 h2
    have : j = 1 ∨ j = 2 ∨ j = 3 := by omega
    rcases this with rfl | rfl | rfl
    · exact hcont 1 (by omega) (c2 (by omega)).1
    · exact hcont 2 (by omega) (c3 (by omega)).1
    · exact hcont 3 (by omega) (c4 (by omega)).1
  by_cases h32 : b = 32
  · subst h32
    refine Or.inl ?_
    have : Utf8.decode s pos = (32, 1) := by
      rw [e, hb']
      simp [Lib.decodeN]
    rw [this]
    exact ⟨rfl, rfl, hb⟩
  · refine Or.inr ⟨?_, hw, hwid, ?_⟩
    · intro he
      have hbn : b.toNat ≠ 32 := fun h => h32 (UInt8.toNat_inj.1 h)
      rcases hk with ⟨k1, k2⟩ | ⟨k1, _, _, k4, k5⟩ | ⟨k1, _, _, _, k4, k5⟩ | ⟨k1, _⟩ | k1
      · rw [k2] at he; exact hbn he
      · rw [k5] at he; simp only at he; omega
      · rw [k5] at he; simp only at he; omega
      · omega
      · rw [k1] at he; simp at he
    · intro j hj
      rcases Nat.eq_zero_or_pos j with rfl | h1
      · rw [Nat.add_zero, hb]; intro hx; exact h32 (Option.some.inj hx)
      · exact hrest j h1 hj
theorem piece_no {l : List UInt8} {a n : Nat} (h : ∀ j, a ≤ j → j < a + n → l[j]? ≠ some 32) : (32 : UInt8) ∉ (l.drop a).take n := by
  intro hm
  obtain ⟨i, hi, he⟩ := List.mem_iff_getElem.1 hm
  have hi' : i < n := by have := hi; rw [List.length_take] at this; omega
  refine h (a + i) (by omega) (by omega) ?_
  have := List.getElem?_eq_getElem hi
  rw [he, List.getElem?_take_of_lt hi', List.getElem?_drop] at this
  exact this
/-- where a field began (or here, if none is open), no blank lies before pos -/
def Cl (l : List UInt8) (st : Option Nat) (pos : Nat) : Prop := ∀ a, st = some a → a < pos ∧ ∀ j, a ≤ j → j < pos → l[j]? ≠ some 32
theorem spans_words (s : ByteArray) : ∀ (f pos : Nat) (st : Option Nat) (acc : List (Nat × Nat)), s.size ≤ pos + f → pos ≤ s.size → Cl s.data.toList st pos →
    (Lib.closeSpans s (Lib.spansFromP (fun x => decide (x = 32)) s f pos st acc)).map (fun x => (s.extract x.1 x.2).data.toList) =
      acc.map (fun x => (s.extract x.1 x.2).data.toList) ++ words (s.data.toList.drop (st.getD pos)) := by
  have hl : s.data.toList.length = s.size := by simp
  have hstop : ∀ (pos : Nat) (st : Option Nat) (acc : List (Nat × Nat)), pos = s.size → Cl s.data.toList st pos →
      (Lib.closeSpans s (acc, st)).map (fun x => (s.extract x.1 x.2).data.toList) = acc.map (fun x => (s.extract x.1 x.2).data.toList) ++ words (s.data.toList.drop (st.getD pos)) := by
    intro pos st acc hp hc
    cases st with
    | none =>
      simp only [Lib.closeSpans, Option.getD_none]
      rw [List.drop_of_length_le (by omega), words_nil, List.append_nil]
    | some a =>
      obtain ⟨h1, h2⟩ := hc a rfl
      simp only [Lib.closeSpans, Option.getD_some, List.map_append, List.map_cons, List.map_nil]
      congr 1
      rw [Lib.extract_data]
      have hfull : (s.data.toList.drop a).take (s.size - a) = s.data.toList.drop a := List.take_of_length_le (by rw [List.length_drop]; omega)
      rw [hfull]
      refine (words_one _ ?_ ?_).symm
      · have := piece_no (l := s.data.toList) (a := a) (n := s.size - a) (fun j j1 j2 => h2 j j1 (by omega))
        rwa [hfull] at this
      · intro h0
        have := congrArg List.length h0
        rw [List.length_drop] at this
        simp only [List.length_nil] at this
        omega
  intro f
  induction f with
  | zero =>
    intro pos st acc h1 h2 hc
    exact hstop pos st acc (by omega) hc
  | succ f ih =>
    intro pos st acc h1 h2 hc
    by_cases hlt : pos < s.size
    · rcases rune_blank s pos hlt with ⟨r1, r2, r3⟩ | ⟨r1, r2, r3, r4⟩
      · have hd : s.data.toList.drop pos = 32 :: s.data.toList.drop (pos + 1) := by
          rw [List.drop_eq_getElem_cons (by omega)]
          congr 1
          have := List.getElem?_eq_getElem (l := s.data.toList) (i := pos) (by omega)
          rw [r3] at this
          exact (Option.some.inj this).symm
        have hcn : Cl s.data.toList none (pos + 1) := fun a h => by cases h
        have hgo : Lib.spansFromP (fun x => decide (x = 32)) s (f + 1) pos st acc = Lib.spansFromP (fun x => decide (x = 32)) s f (pos + 1) none (match st with | some a => acc ++ [(a, pos)] | none => acc) := by
          cases st <;> (conv => lhs; unfold Lib.spansFromP) <;> rw [if_pos hlt, r2, if_pos (by simp [r1])]
        rw [hgo, ih (pos + 1) none _ (by omega) (by omega) hcn]
        cases st with
        | none => simp only [Option.getD_none]; rw [hd, words_blank]
        | some a =>
          obtain ⟨c1, c2⟩ := hc a rfl
          simp only [Option.getD_none, Option.getD_some, List.map_append, List.map_cons, List.map_nil, List.append_assoc]
          congr 1
          rw [Lib.extract_data]
          have hdd : s.data.toList.drop a = (s.data.toList.drop a).take (pos - a) ++ 32 :: s.data.toList.drop (pos + 1) := by
            conv => lhs; rw [← List.take_append_drop (pos - a) (s.data.toList.drop a)]
            rw [List.drop_drop, show a + (pos - a) = pos by omega, hd]
          conv => rhs; rw [hdd]
          rw [words_hit _ _ (piece_no fun j j1 j2 => c2 j j1 (by omega)) ?_]
          · rfl
          · intro h0
            have := congrArg List.length h0
            rw [List.length_take, List.length_drop] at this
            simp only [List.length_nil] at this
            omega
      · have hgo : Lib.spansFromP (fun x => decide (x = 32)) s (f + 1) pos st acc = Lib.spansFromP (fun x => decide (x = 32)) s f (pos + (Utf8.decode s pos).2) (some (st.getD pos)) acc := by
          cases st <;> (conv => lhs; unfold Lib.spansFromP) <;> rw [if_pos hlt, if_neg (by simp [r1])] <;> rfl
        have hcn : Cl s.data.toList (some (st.getD pos)) (pos + (Utf8.decode s pos).2) := by
          intro a ha
          simp only [Option.some.injEq] at ha
          subst ha
          cases st with
          | none =>
            refine ⟨by simp only [Option.getD_none]; omega, fun j j1 j2 => ?_⟩
            simp only [Option.getD_none] at j1
            have := r4 (j - pos) (by omega)
            rwa [show pos + (j - pos) = j by omega] at this
          | some a =>
            obtain ⟨c1, c2⟩ := hc a rfl
            refine ⟨by simp only [Option.getD_some]; omega, fun j j1 j2 => ?_⟩
            simp only [Option.getD_some] at j1
            by_cases hjp : j < pos
            · exact c2 j j1 hjp
            · have := r4 (j - pos) (by omega)
              rwa [show pos + (j - pos) = j by omega] at this
        rw [hgo, ih _ _ _ (by omega) r3 hcn]
        rfl
    · rw [Lib.spansFromP_end _ _ _ _ _ _ hlt]
      exact hstop pos st acc (by omega) hc
theorem fields_words (s : ByteArray) : (Lib.goFieldsP (fun x => decide (x = 32)) s).map (fun b => b.data.toList) = words s.data.toList := by
  unfold Lib.goFieldsP Lib.spansOfP
  rw [List.map_map]
  have := spans_words s s.size 0 none [] (by omega) (Nat.zero_le _) (fun a h => by cases h)
  rw [List.map_nil, List.nil_append, Option.getD_none, List.drop_zero] at this
  exact this
end Go.Proofs.Ytoopjefalkdpkaa
