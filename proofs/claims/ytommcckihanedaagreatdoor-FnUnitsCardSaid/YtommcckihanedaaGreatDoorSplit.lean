import Derived.Test.YtommcckihanedaaGreatDoorBytes
import Derived.Lib.Strings
namespace Go.Proofs.YtommcckihanedaaGreatDoor
open Go.RowKit
set_option linter.unusedVariables false

/-- the parts of a text between the bytes c -/
def spl (c : UInt8) : List UInt8 → List (List UInt8)
  | [] => [[]]
  | x :: r => if x = c then [] :: spl c r else match spl c r with | [] => [[x]] | p :: ps => (x :: p) :: ps
theorem spl_miss (c : UInt8) : ∀ p : List UInt8, c ∉ p → spl c p = [p]
  | [], _ => rfl
  | x :: p, h => by
    have hx : ¬ x = c := fun e => h (by rw [e]; simp)
    rw [spl, if_neg hx, spl_miss c p (fun hm => h (List.mem_cons_of_mem _ hm))]
theorem spl_hit (c : UInt8) (r : List UInt8) : ∀ p : List UInt8, c ∉ p → spl c (p ++ c :: r) = p :: spl c r
  | [], _ => by rw [List.nil_append, spl, if_pos rfl]
  | x :: p, h => by
    have hx : ¬ x = c := fun e => h (by rw [e]; simp)
    rw [List.cons_append, spl, if_neg hx, spl_hit c r p (fun hm => h (List.mem_cons_of_mem _ hm))]
theorem spl_ne (c : UInt8) : ∀ l : List UInt8, spl c l ≠ []
  | [] => by simp [spl]
  | x :: r => by
    rw [spl]; split
    · simp
    · split <;> simp
/-- texts as cells -/
def tvl (ls : List (List UInt8)) : List Value := ls.map fun b => Value.string ⟨b.toArray⟩
theorem tvl_snoc (ls : List (List UInt8)) (b : List UInt8) : tvl (ls ++ [b]) = tvl ls ++ [Value.string ⟨b.toArray⟩] := by unfold tvl; simp
theorem tvl_length (ls : List (List UInt8)) : (tvl ls).length = ls.length := by unfold tvl; simp
theorem info_strs : (Tryz.prog.info? 9).map (fun i => (i.zero, i.size, i.bytes)) = some (some (.string ⟨#[]⟩), 1, 16) := by kernel_rfl
theorem one_strs (s : ByteArray) : ∀ u ∈ [Value.string s], u.oneCell' = true := by intro u hu; simp at hu; subst hu; rfl
/-- slice value v is a row of the call's own (from block B on) that holds these texts -/
def Strs (B : Nat) (w : World) (v : Value) (ls : List (List UInt8)) : Prop := w.ownsRow B 9 1 v ls.length (tvl ls)
theorem ext_eq (s : ByteArray) (a b : Nat) : s.extract a b = ⟨((s.data.toList.drop a).take (b - a)).toArray⟩ := by
  have := Lib.extract_data s a b
  rw [← this]
theorem part_hit {s : ByteArray} {c : UInt8} {f i : Nat} (hfi : f ≤ i) (hi : i < s.size) (hc : s[i] = c) (hno : c ∉ (s.data.toList.drop f).take (i - f)) :
    spl c (s.data.toList.drop f) = (s.data.toList.drop f).take (i - f) :: spl c (s.data.toList.drop (i + 1)) := by
  have h1 : s.data.toList.drop f = (s.data.toList.drop f).take (i - f) ++ c :: s.data.toList.drop (i + 1) := by
    conv => lhs; rw [← List.take_append_drop (i - f) (s.data.toList.drop f)]
    congr 1
    rw [List.drop_drop, show f + (i - f) = i by omega, List.drop_eq_getElem_cons (by simpa using hi)]
    congr 1
  conv => lhs; rw [h1]
  exact spl_hit c _ _ hno
theorem part_no {s : ByteArray} {c : UInt8} {f i : Nat} (hfi : f ≤ i) (hi : i < s.size) (hc : s[i] ≠ c) (hno : c ∉ (s.data.toList.drop f).take (i - f)) : c ∉ (s.data.toList.drop f).take (i + 1 - f) := by
  have hl : i - f < (s.data.toList.drop f).length := by
    have : s.data.toList.length = s.size := by simp
    rw [List.length_drop]; omega
  rw [show i + 1 - f = i - f + 1 by omega, List.take_succ_eq_append_getElem hl]
  intro hm
  rcases List.mem_append.1 hm with h | h
  · exact hno h
  · simp only [List.mem_singleton, List.getElem_drop] at h
    apply hc
    rw [h]
    show s.data.toList[i]'_ = _
    congr 1; omega

end Go.Proofs.YtommcckihanedaaGreatDoor
