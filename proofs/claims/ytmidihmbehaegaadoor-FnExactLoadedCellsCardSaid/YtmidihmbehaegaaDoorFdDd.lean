/-
  Plain mathematics of the cells that gain much (chapter 6): LoadedCells. No Go in sight.
-/
import Derived.Test.YtmidihmbehaegaaDoorFdDa
namespace Go.Proofs.YtmidihmbehaegaaDoor.Fw
open Go.Proofs.YtmidihmbehaegaaDoor.Ar
set_option linter.unusedVariables false

/-- LoadedCells -/
def lcC (r c : Int) (zs ds : List Int) (s least : Int) : Int := if ok r c zs = true ∧ okM least = false then 2 else drC r c zs ds s
def lcZ (r c : Int) (zs ds : List Int) (s least : Int) : List Int := if lcC r c zs ds s least = 0 then ld (gn zs (drZ r c zs ds s)) least zs.length else []
theorem lcC_2 {r c s least : Int} {zs ds : List Int} (h : ok r c zs = true) (h2 : okM least = false) : lcC r c zs ds s least = 2 := by unfold lcC; rw [if_pos ⟨h, h2⟩]
theorem lcC_t {r c s least : Int} {zs ds : List Int} (h2 : okM least = true) : lcC r c zs ds s least = drC r c zs ds s := by unfold lcC; rw [if_neg (by rintro ⟨_, h⟩; rw [h2] at h; cases h)]
theorem lcC_1 {r c s least : Int} {zs ds : List Int} (h : ok r c zs = false) : lcC r c zs ds s least = 1 := by unfold lcC; rw [if_neg (by rintro ⟨h2, _⟩; rw [h] at h2; cases h2)]; exact (dr_1 h).2.2.2
theorem lcZ_no {r c s least : Int} {zs ds : List Int} (h : lcC r c zs ds s least ≠ 0) : lcZ r c zs ds s least = [] := by unfold lcZ; rw [if_neg h]
theorem lcZ_0 {r c s least : Int} {zs ds : List Int} (h : lcC r c zs ds s least = 0) : lcZ r c zs ds s least = ld (gn zs (drZ r c zs ds s)) least zs.length := by unfold lcZ; rw [if_pos h]
theorem lcZ_len {r c s least : Int} {zs ds : List Int} (hl : zs.length ≤ 1048576) : (lcZ r c zs ds s least).length ≤ 1048576 := by
  unfold lcZ
  split
  · have := ld_length (gn zs (drZ r c zs ds s)) least zs.length; omega
  · simp
theorem gn_getD {zs ys : List Int} (h : ys.length = zs.length) {k : Nat} (hk : k < zs.length) (hk2 : k < ys.length) : (gn zs ys).getD k 0 = ys[k] - zs[k] := by rw [List.getD_eq_getElem?_getD, gn_get h hk hk2]; rfl
end Go.Proofs.YtmidihmbehaegaaDoor.Fw
