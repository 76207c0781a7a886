import Derived.Test.YtommcckihanedaaGreatDoorNum
import Derived.Laws.AppendOwn
import Derived.Laws.OwnMore
import Derived.Laws.MakeOwn
import Derived.OwnWalk
import Derived.Lib.SmallJoins
import Derived.Deep.QuietTactic
import Derived.BigQuiet
import Derived.WalkSmall
import Derived.ProofKit
import Derived.OpenShut
namespace Go.Proofs.YtommcckihanedaaGreatDoor
open Go.RowKit
set_option linter.unusedVariables false

/-- slice value v reads in world w as these numbers -/
def Sl (w : World) (v : Value) (zs : List Int) : Prop :=
  (zs = [] ∧ ∃ a cap, v = .slice a 0 cap) ∨ ∃ b off cap, v = .slice (some ⟨b, off, none⟩) zs.length cap ∧ b < w.heap.size ∧ ∀ j x, zs[j]? = some x → w.cell? ⟨b, off + j, none⟩ = some (.int .i64 x)
theorem Sl.below {w w1 : World} {v : Value} {zs : List Int} (h : Sl w v zs) (hb : Below w.heap.size w w1) : Sl w1 v zs := by
  rcases h with h | ⟨b, off, cap, rfl, hlt, hc⟩
  · exact Or.inl h
  · exact Or.inr ⟨b, off, cap, rfl, Nat.lt_of_lt_of_le hlt hb.size, fun j x hx => (hb.cell (p := ⟨b, off + j, none⟩) hlt).trans (hc j x hx)⟩
theorem Sl.drewN {w : World} {v : Value} {zs : List Int} (h : Sl w v zs) (n : Nat) : Sl (w.drewN n) v zs := by
  rcases h with h | ⟨b, off, cap, rfl, hlt, hc⟩
  · exact Or.inl h
  · exact Or.inr ⟨b, off, cap, rfl, by simpa using hlt, fun j x hx => by simpa using hc j x hx⟩

theorem Sl.nil_of {w : World} {v : Value} {zs : List Int} (h : Sl w v zs) (hz : zs.length = 0) : ∃ a cap, v = .slice a 0 cap := by
  rcases h with ⟨_, a, cap, rfl⟩ | ⟨b, off, cap, rfl, _⟩
  · exact ⟨_, _, rfl⟩
  · rw [hz]; exact ⟨_, _, rfl⟩
theorem Sl.form {w : World} {v : Value} {zs : List Int} (h : Sl w v zs) : ∃ a cap, v = .slice a zs.length cap := by
  rcases h with ⟨rfl, a, cap, rfl⟩ | ⟨b, off, cap, rfl, _⟩ <;> exact ⟨_, _, rfl⟩
theorem eq_of_take {zs ys : List Int} (hl : zs.length = ys.length) (h : zs.take zs.length = ys.take zs.length) : (zs == ys) = true := by
  rw [List.take_length, hl, List.take_length] at h; rw [h]; exact beq_self_eq_true _
theorem ne_of_at {zs ys : List Int} {k : Nat} (h1 : k < zs.length) (h2 : k < ys.length) (h : zs[k] ≠ ys[k]) : (zs == ys) = false := by
  rw [beq_eq_false_iff_ne]; intro e; subst e; exact h rfl
theorem take_eq {zs ys : List Int} {k : Nat} (h1 : k < zs.length) (h2 : k < ys.length) (hp : zs.take k = ys.take k) (h : zs[k] = ys[k]) : zs.take (k + 1) = ys.take (k + 1) := by
  rw [List.take_succ_eq_append_getElem h1, List.take_succ_eq_append_getElem h2, hp, h]


/-- a slice of numbers that came in reads as its elements -/
theorem Sl.of_row {w : World} {a : Option Addr} {len cap : Nat} {zs : List Int}
    (h : (a = none ∧ len = 0 ∧ cap = 0 ∧ zs = []) ∨ ∃ x, a = some x ∧ len ≤ cap ∧ cap ≤ maxLen ∧ zs.length = cap ∧ (∀ i, i < zs.length → w.cell? (x.add i) = some (.int .i64 (zs.getD i 0))) ∧ ∀ n ∈ zs, (Lit.int .i64 n).wf = true) :
    Sl w (.slice a len cap) (zs.take len) ∧ (zs.take len).length = len := by
  rcases h with ⟨rfl, rfl, rfl, rfl⟩ | ⟨x, rfl, hl, hm, hz, hc, hw⟩
  · exact ⟨Or.inl ⟨rfl, _, _, rfl⟩, rfl⟩
  · have hln : (zs.take len).length = len := by rw [List.length_take]; omega
    refine ⟨?_, hln⟩
    rcases Nat.eq_zero_or_pos len with h0 | h0
    · subst h0; exact Or.inl ⟨rfl, _, _, rfl⟩
    · obtain ⟨b, off, rfl, hc'⟩ := ints_at hc (by omega)
      have c0 := hc' 0 (by omega)
      refine Or.inr ⟨b, off, cap, by rw [hln], ?_, fun j y hy => ?_⟩
      · exact World.block_lt_of_cell? w _ c0
      · have hj : j < (zs.take len).length := (List.getElem?_eq_some_iff.1 hy).1
        have e := List.getElem?_take_of_lt (l := zs) (i := j) (j := len) (by omega)
        rw [e] at hy
        rw [hc' j (by omega), List.getD_eq_getElem?_getD, hy]
        rfl
theorem bt {w w1 w2 : World} (h1 : Below w.heap.size w w1) (h2 : Below w1.heap.size w1 w2) : Below w.heap.size w w2 := h1.trans (h2.mono h1.size)
/-- numbers as cells -/
def iv (zs : List Int) : List Value := zs.map (Value.int .i64)
theorem iv_length (zs : List Int) : (iv zs).length = zs.length := by unfold iv; simp
theorem iv_at {zs : List Int} {j : Nat} {x : Int} (h : zs[j]? = some x) : (iv zs)[j]? = some (.int .i64 x) := by unfold iv; rw [List.getElem?_map, h]; rfl
/-- slice value v is a row of the call's own (from block B on) that holds these numbers -/
def Own (B : Nat) (w : World) (v : Value) (zs : List Int) : Prop := w.ownsRow B 2 1 v zs.length (iv zs)
theorem info_i64 : (Tryz.prog.info? 2).map (fun i => (i.zero, i.size, i.bytes)) = some (some (.int .i64 0), 1, 8) := by kernel_rfl
theorem Own.sl {B : Nat} {w : World} {v : Value} {zs : List Int} (h : Own B w v zs) : Sl w v zs := by
  rcases Go.Joins.ownsRow_forms h with ⟨rfl, hn⟩ | ⟨g, cap, rfl⟩
  · exact Or.inl ⟨List.eq_nil_of_length_eq_zero hn, _, _, rfl⟩
  · refine Or.inr ⟨g, 0, cap, rfl, (World.ownsRow.lt h g rfl).2, fun j x hx => ?_⟩
    have hj : j < zs.length := (List.getElem?_eq_some_iff.1 hx).1
    rw [Nat.zero_add, World.ownsRow.cellAt h j (by omega)]
    exact iv_at hx
theorem set_take {xs : List Value} {k : Nat} {u : Value} {ys : List Value} (hk : k < xs.length) (h : xs.take k = ys) : (xs.set k u).take (k + 1) = ys ++ [u] := by
  rw [List.take_succ_eq_append_getElem (by simpa using hk), List.take_set_of_le (Nat.le_refl _), h, List.getElem_set_self]
theorem iv_snoc {zs : List Int} {k : Nat} (h : k < zs.length) : iv (zs.take (k + 1)) = iv (zs.take k) ++ [.int .i64 zs[k]] := by
  rw [List.take_succ_eq_append_getElem h]; unfold iv; rw [List.map_append]; rfl


/-- the numbers from k on, so many -/
def upTo (k : Int) (n : Nat) : List Int := (List.range n).map fun j : Nat => k + (j : Int)
theorem upTo_length (k : Int) (n : Nat) : (upTo k n).length = n := by unfold upTo; simp
theorem upTo_at {k : Int} {n j : Nat} (h : j < n) : (upTo k n)[j]? = some (k + (j : Int)) := by unfold upTo; simp [h]
theorem upTo_take (k : Int) {n j : Nat} (h : j ≤ n) : (upTo k n).take j = upTo k j := by
  unfold upTo; rw [← List.map_take, List.take_range, Nat.min_eq_left h]
theorem upTo_snoc (k : Int) (j : Nat) : upTo k (j + 1) = upTo k j ++ [k + (j : Int)] := by unfold upTo; rw [List.range_succ, List.map_append]; rfl

end Go.Proofs.YtommcckihanedaaGreatDoor
