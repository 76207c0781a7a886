/-
  A path read back out of its text, by the model (chapter 14). No condition of its own.
-/
import Derived.Test.YtmieckchppfogaaGreatDoorAgU
import Derived.Maps.AppendAt
import Derived.Deep.AppendLies
namespace Go.Proofs.YtmieckchppfogaaGreatDoor
open Go.RowKit Go.ChangeShapes Go.WideShapes Go.Deep Go.Shelf
set_option linter.unusedVariables false
set_option maxRecDepth 100000

namespace An
theorem rq_one {p : List UInt8} (h : (58 : UInt8) ∉ p) : rq p = none := by
  have e : cb p = [] := by unfold cb; rw [cut_miss h]
  have n : Nu.rd (cb p) = none := by rw [e]; decide
  unfold rq
  split
  · next a b ha hb => rw [n] at hb; cases hb
  · rfl
theorem rq_many {a r : List UInt8} (h : (58 : UInt8) ∉ a) (hr : (58 : UInt8) ∈ r) : rq (a ++ 58 :: r) = none := by
  have e : cb (a ++ 58 :: r) = r := by unfold cb; rw [cut_hit h]
  have n : Nu.rd (cb (a ++ 58 :: r)) = none := by rw [e]; exact rd_odd hr (by decide) (by decide)
  unfold rq
  split
  · next x y hx hy => rw [n] at hy; cases hy
  · rfl
theorem rq_two {a r : List UInt8} (h : (58 : UInt8) ∉ a) : rq (a ++ 58 :: r) = match Nu.rd a, Nu.rd r with | some d, some y => some ⟨d, y⟩ | _, _ => none := by
  have e1 : ca (a ++ 58 :: r) = a := by unfold ca; rw [cut_hit h]
  have e2 : cb (a ++ 58 :: r) = r := by unfold cb; rw [cut_hit h]
  unfold rq; rw [e1, e2]
  cases Nu.rd a <;> cases Nu.rd r <;> rfl
/-- a part that holds something leaves room for fewer parts -/
theorem spl_room (c : UInt8) : ∀ l : List UInt8, (∃ p ∈ spl c l, p ≠ []) → (spl c l).length ≤ l.length
  | [], ⟨p, h, hn⟩ => by simp [spl] at h; exact absurd h hn
  | x :: r, ⟨p, h, hn⟩ => by
    have hl := spl_len c r
    rw [spl] at h ⊢
    split
    · rename_i hx
      rw [if_pos hx] at h
      rcases List.mem_cons.1 h with h | h
      · exact absurd h hn
      · have := spl_room c r ⟨p, h, hn⟩
        simp; omega
    · split
      · simp
      · rename_i q ps hq; rw [hq] at hl; simp at hl ⊢; omega
theorem parts_room {l : List UInt8} {zs : List Pth} (h : mpq (spl 32 l) = some zs) : zs.length ≤ l.length := by
  rw [mpq_len h]
  refine spl_room 32 l ?_
  have hpos := List.length_pos_iff.2 (spl_ne 32 l)
  refine ⟨(spl 32 l)[0], List.getElem_mem hpos, fun e => ?_⟩
  have := mpq_none (List.getElem_mem hpos) (by rw [e]; exact rq_nil)
  rw [h] at this; cases this
end An
def PCq (P : List (List UInt8)) (g : Nat) (W : World) : Prop := g < W.heap.size ∧ ∀ j b, P[j]? = some b → W.cell? ⟨g, j, none⟩ = some (.string ⟨b.toArray⟩)
theorem PCq.below {P : List (List UInt8)} {g : Nat} {W W1 : World} (h : PCq P g W) (hb : Below W.heap.size W W1) : PCq P g W1 :=
  ⟨Nat.lt_of_lt_of_le h.1 hb.size, fun j b hj => (hb.cell (p := ⟨g, j, none⟩) h.1).trans (h.2 j b hj)⟩
theorem PCq.grow {P : List (List UInt8)} {g : Nat} {W W1 : World} {r : Option Nat} (h : PCq P g W) (hb : W.grownBy W1 r) (hr : r ≠ some g) : PCq P g W1 :=
  ⟨Nat.lt_of_lt_of_le h.1 hb.size, fun j b hj => (hb.cell_far ⟨g, j, none⟩ h.1 (Ne.symm hr)).trans (h.2 j b hj)⟩
theorem ownq_litB (g j n c : Nat) (h : (Value.slice (some ⟨g, 0, none⟩) n c).ownBlock = some j) : j = g := by simp [Value.ownBlock] at h; omega
end Go.Proofs.YtmieckchppfogaaGreatDoor
