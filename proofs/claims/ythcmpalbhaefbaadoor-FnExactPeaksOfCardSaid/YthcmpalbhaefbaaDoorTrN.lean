/-
  The steepest slopes of all cells, by the model and by the program. The conditions: the table of ways as it is laid (the program).
-/
import Derived.Test.YthcmpalbhaefbaaDoorTrM
import Derived.Test.YthcmpalbhaefbaaDoorGn
namespace Go.Proofs.YthcmpalbhaefbaaDoor
open Go.RowKit Go.Shelf Go.Deep Go.Maps Go.WideShapes
set_option linter.unusedVariables false
set_option maxRecDepth 100000
namespace Gw
/-- the slopes of the first n cells -/
def slF (r c s : Int) (zs : List Int) (n : Nat) : List Int := (List.range n).map (fun k => (stp r c s zs k 8).2)
theorem slF_succ (r c s : Int) (zs : List Int) (n : Nat) : slF r c s zs (n + 1) = slF r c s zs n ++ [(stp r c s zs n 8).2] := by unfold slF; rw [List.range_succ, List.map_append]; rfl
theorem slF_len (r c s : Int) (zs : List Int) (n : Nat) : (slF r c s zs n).length = n := by unfold slF; simp
def slL (r c s : Int) (zs : List Int) : List Int := if ok r c s zs = true then slF r c s zs zs.length else []
def slC (r c s : Int) (zs : List Int) : Int := if ok r c s zs = true then 0 else 1
theorem sl_t {r c s : Int} {zs : List Int} (h : ok r c s zs = true) : slL r c s zs = slF r c s zs zs.length ∧ slC r c s zs = 0 := by unfold slL slC; rw [if_pos h, if_pos h]; exact ⟨rfl, rfl⟩
theorem sl_f {r c s : Int} {zs : List Int} (h : ok r c s zs = false) : slL r c s zs = [] ∧ slC r c s zs = 1 := by unfold slL slC; rw [h]; exact ⟨rfl, rfl⟩
theorem slL_len {r c s : Int} {zs : List Int} (h : zs.length ≤ 1048576) : (slL r c s zs).length ≤ 1048576 := by
  unfold slL; split
  · rw [slF_len]; exact h
  · simp
/-- a row of slopes whose first k are known -/
def slP (r c s : Int) (zs : List Int) (k : Nat) : List Int := slF r c s zs k ++ List.replicate (zs.length - k) 0
theorem slP_zero (r c s : Int) (zs : List Int) : slP r c s zs 0 = List.replicate zs.length 0 := rfl
theorem slP_all (r c s : Int) (zs : List Int) : slP r c s zs zs.length = slF r c s zs zs.length := by unfold slP; simp
theorem slP_len {r c s : Int} {zs : List Int} {k : Nat} (h : k ≤ zs.length) : (slP r c s zs k).length = zs.length := by unfold slP; rw [List.length_append, slF_len, List.length_replicate]; omega
theorem slP_set {r c s : Int} {zs : List Int} {k : Nat} (h : k < zs.length) : (slP r c s zs k).set k (stp r c s zs k 8).2 = slP r c s zs (k + 1) := by
  unfold slP
  have hl := slF_len r c s zs k
  rw [List.set_append_right _ _ (by omega), hl, Nat.sub_self, show zs.length - k = (zs.length - (k + 1)) + 1 by omega, List.replicate_succ, List.set_cons_zero, slF_succ, List.append_assoc]; rfl
theorem slP_at {r c s : Int} {zs : List Int} {k : Nat} (h : k < zs.length) : (slP r c s zs k)[k]? = some 0 := by
  unfold slP
  have hl := slF_len r c s zs k
  rw [List.getElem?_append_right (by omega), hl, Nat.sub_self, show zs.length - k = (zs.length - (k + 1)) + 1 by omega, List.replicate_succ]; rfl
theorem best_slope {r c s : Int} {zs : List Int} (s1 : 1 ≤ s) (s2 : s ≤ 100) (k : Nat) : slO r c s zs k (bsO r c s zs k ((List.range 8).filter (goB r c k))) = (stp r c s zs k 8).2 := by
  rcases best_upto (r := r) (c := c) (zs := zs) s1 s2 k 8 with ⟨h1, h2⟩ | ⟨i, h1, h2, h3, h4⟩
  · rw [h1, h2]; rfl
  · rw [h1, h3]; rfl
end Gw
theorem setT_own {B g n cap : Nat} {w : World} {zs : List Int} (h : Own B w (.slice (some ⟨g, 0, none⟩) n cap) zs) (k : Nat) (x : Int) : Own B (w.setCell ⟨g, k, none⟩ (.int .i64 x)) (.slice (some ⟨g, 0, none⟩) n cap) (zs.set k x) := by
  have hn := own_len h
  subst hn
  have := (World.ownsRow.stored h k (.int .i64 x)).1
  unfold Own
  rw [List.length_set]
  have e : iv (zs.set k x) = (iv zs).set k (.int .i64 x) := by unfold iv; rw [List.map_set]
  rw [e]; exact this
theorem ownT_free {B g n cap : Nat} {w : World} {zs : List Int} (h : Own B w (.slice (some ⟨g, 0, none⟩) n cap) zs) (k : Nat) : w.frozen? ⟨g, k, none⟩ = false := by
  have hn := own_len h
  subst hn
  have h' : w.ownsRow B 2 1 (.slice (some ⟨g, 0, none⟩) zs.length cap) zs.length (iv zs) := h
  exact h'.frozenAt k
end Go.Proofs.YthcmpalbhaefbaaDoor
