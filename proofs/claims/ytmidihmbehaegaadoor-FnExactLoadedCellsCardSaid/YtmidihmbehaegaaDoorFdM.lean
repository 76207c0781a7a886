/-
  Cells that hold too much, as the keys of a map. No Go in sight but the map as it is read.
-/
import Derived.Test.YtmidihmbehaegaaDoorFd
import Derived.Maps.Own
import Derived.Maps.OwnOps
import Derived.Maps.OwnSet
import Derived.Maps.Views
namespace Go.Proofs.YtmidihmbehaegaaDoor.Fw
open Go.WideShapes Go.Maps
set_option linter.unusedVariables false

/-- a cell as a key -/
def kC (k : Nat) : Lit := .int .i64 (k : Int)
theorem kC_ne {a b : Nat} (h : a ≠ b) : kC a ≠ kC b := fun e => h (by unfold kC at e; injection e with _ e; omega)
theorem kC_key (k : Nat) : WideAt.IsKeyLit (kC k) := True.intro
theorem mem_insert {H : Type} {x p : Lit × DataW H} : ∀ l : List (Lit × DataW H), p ∈ DataW.insert x l → p = x ∨ p ∈ l
  | [], h => by simp [DataW.insert] at h; exact Or.inl h
  | y :: r, h => by
    rw [DataW.insert] at h
    split at h
    · simpa using h
    · rcases List.mem_cons.1 h with rfl | h
      · simp
      · rcases mem_insert r h with h | h
        · exact Or.inl h
        · exact Or.inr (List.mem_cons_of_mem _ h)
/-- the keys are just the cells that hold too much -/
structure OF (m : DataW Unit) (ys : List Int) : Prop where
  map : IsMap m
  keys : ∀ k : Nat, Maps.has m (kC k) = (decide (k < ys.length) && !okM (ys.getD k 0))
  ints : ∀ es, m = .map es → ∀ p ∈ es, ∃ k : Nat, k < ys.length ∧ p.1 = kC k
theorem OF.none {ys : List Int} (h : okMs ys = true) : OF (.map []) ys := by
  refine ⟨⟨[], rfl⟩, fun k => ?_, fun es e => ?_⟩
  · have := okMs_getD h k
    rw [(okM_iff _).2 this]; simp [Maps.has]
  · injection e with e; subst e; intro p hp; cases hp
theorem OF.put {m : DataW Unit} {ys : List Int} (h : OF m ys) {k : Nat} {x : Int} (hk : k < ys.length) (hn : okM ((ad ys k x).getD k 0) = false) (d : DataW Unit) : OF (m.put (kC k) d) (ad ys k x) := by
  refine ⟨h.map.put _ _, fun j => ?_, fun es e => ?_⟩
  · rw [ad_length]
    by_cases e : k = j
    · subst e; rw [has_put_same h.map (kC_key k), hn]; simp [hk]
    · rw [has_put_other (kC_ne (fun c => e c.symm)), h.keys j, ad_ne x e]
  · obtain ⟨es0, rfl⟩ := h.map
    have h0 := h.ints es0 rfl
    rw [ad_length]
    simp only [DataW.put, DataW.map.injEq] at e
    subst e
    intro p hp
    rcases mem_insert _ hp with rfl | hp
    · exact ⟨k, hk, rfl⟩
    · exact h0 p (List.mem_filter.1 hp).1
theorem OF.del {m : DataW Unit} {ys : List Int} (h : OF m ys) {k : Nat} {x : Int} (hk : k < ys.length) (hn : okM ((ad ys k x).getD k 0) = true) : OF (m.del (kC k)) (ad ys k x) := by
  refine ⟨h.map.del _, fun j => ?_, fun es e => ?_⟩
  · rw [ad_length]
    by_cases e : k = j
    · subst e; rw [has_del_same, hn]; simp
    · rw [has_del_other (kC_ne (fun c => e c.symm)), h.keys j, ad_ne x e]
  · obtain ⟨es0, rfl⟩ := h.map
    have h0 := h.ints es0 rfl
    rw [ad_length]
    simp only [DataW.del, DataW.map.injEq] at e
    subst e
    intro p hp
    exact h0 p (List.mem_filter.1 hp).1
/-- no cell holds too much just if there are no keys -/
theorem OF.size {m : DataW Unit} {ys : List Int} (h : OF m ys) : Maps.size m = 0 ↔ okMs ys = true := by
  obtain ⟨es, rfl⟩ := h.map
  rw [size_eq]
  constructor
  · intro hl
    have he := List.eq_nil_of_length_eq_zero hl
    subst he
    rw [okMs_iff]
    intro z hz
    obtain ⟨j, hj, rfl⟩ := List.getElem_of_mem hz
    have := h.keys j
    rw [List.getD_eq_getElem?_getD, List.getElem?_eq_getElem hj] at this
    have e0 : Maps.has (.map [] : DataW Unit) (kC j) = false := rfl
    rw [e0] at this
    simp [hj] at this
    exact (okM_iff _).1 this
  · intro ho
    rcases Nat.eq_zero_or_pos es.length with h0 | h0
    · exact h0
    · exfalso
      obtain ⟨k, hk, e⟩ := h.ints es rfl es[0] (List.getElem_mem h0)
      have h4 := h.keys k
      rw [(okM_iff _).2 (okMs_getD ho k), has_eq] at h4
      have h5 : (es.any fun p => p.1.sameKey (kC k)) = true := List.any_eq_true.2 ⟨es[0], List.getElem_mem h0, by rw [e]; simp [kC, Lit.sameKey]⟩
      rw [h5] at h4
      simp at h4
end Go.Proofs.YtmidihmbehaegaaDoor.Fw
