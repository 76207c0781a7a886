/-
  slices.Sort at int64, on a row of the call's own. No condition of its own.
-/
import Derived.Test.YthcmpalbhaefbaaDoorInts
import Derived.Test.YthcmpalbhaefbaaDoorGen
import Derived.Test.YthcmpalbhaefbaaDoorShelf
import Derived.Sort.OwnSortedInts
namespace Go.Proofs.YthcmpalbhaefbaaDoor
open Go.RowKit Go.Shelf Go.Sort
set_option linter.unusedVariables false
set_option maxRecDepth 100000

/-- the numbers in their order -/
def srt (zs : List Int) : List Int := zs.mergeSort fun x y => decide (x ≤ y)
theorem srt_len (zs : List Int) : (srt zs).length = zs.length := List.length_mergeSort _
theorem srt_perm (zs : List Int) : (srt zs).Perm zs := List.mergeSort_perm _ _
theorem srt_up (zs : List Int) : (srt zs).Pairwise (· ≤ ·) := by
  have h := List.pairwise_mergeSort (le := fun x y : Int => decide (x ≤ y)) (fun a b c h1 h2 => by simp at *; omega) (fun a b => by simp; omega) zs
  exact h.imp (fun h => by simpa using h)
theorem sortI_any (B : Nat) (w : World) (v : Value) (zs : List Int) (h : Own B w v zs) (hl : zs.length ≤ 1048576) :
    Calls Tryd.prog 51 #[v] w fun e w' => e = .returned (.tuple #[]) ∧ Own B w' v (srt zs) ∧ (B ≤ w.heap.size → Below B w w') := by
  unfold Own at h ⊢
  rcases h.2 with ⟨h0, h1⟩ | ⟨g, cap, cur, hv, hg, hb, h1, h2, h3, h4⟩
  · have hz : zs = [] := List.eq_nil_of_length_eq_zero h1
    subst hz
    rw [h0]
    refine (Tryd.slices_Sort_int_none none 0 w).mono ?_
    rintro e w' ⟨rfl, rfl⟩
    rw [← h0]
    have hs : srt [] = [] := List.eq_nil_of_length_eq_zero (srt_len [])
    rw [hs]
    exact ⟨rfl, h, fun _ => Below.refl _ _⟩
  · subst hv
    rw [Nat.mul_one] at h4
    unfold iv at h4
    have hlt : g < w.heap.size := (Array.getElem?_eq_some_iff.1 hb).1
    refine (Tryd.slices_Sort_int g 0 cap zs w (holds_of_blockI hb h4) hlt (by omega)).mono ?_
    rintro e w' ⟨rfl, n, os, rfl⟩
    have ho := ownsRow_sortedI (n := n) (os := os) (ts := srt zs) (srt_len zs) hg hb h1 h2 h3
    refine ⟨rfl, ?_, fun hB => (Below.refl B w).grown (grownBy_sortedI (n := n) (os := os) (srt zs).toArray) hB (fun j hj => by simp only [Option.some.injEq] at hj; omega)⟩
    rw [srt_len]
    exact ho
end Go.Proofs.YthcmpalbhaefbaaDoor
