/-
  Plain mathematics of what cells gain (chapter 6): DriftGain. No Go in sight.
-/
import Derived.Test.YtmidihmbehaegaaDoorFd
namespace Go.Proofs.YtmidihmbehaegaaDoor.Fw
open Go.Proofs.YtmidihmbehaegaaDoor.Ar
set_option linter.unusedVariables false

def dgZ (r c : Int) (zs ds : List Int) (s : Int) : List Int := if drC r c zs ds s = 0 then gn zs (drZ r c zs ds s) else []
theorem dr_fine {r c s : Int} {zs ds : List Int} (h : drC r c zs ds s = 0) : ok r c zs = true ∧ okMs (drZ r c zs ds s) = true ∧ (drZ r c zs ds s).length = zs.length ∧ (okDs ds && okS s) = true := by
  cases h1 : ok r c zs with
  | false => rw [(dr_1 h1).2.2.2] at h; cases h
  | true =>
    cases h2 : (okDs ds && okS s) with
    | false => rw [(dr_2 h1 h2).2.2.2] at h; cases h
    | true =>
      cases h3 : run r c s zs ds with
      | none => rw [(dr_6 h1 h2 h3).2.2.2] at h; cases h
      | some ys =>
        obtain ⟨a, b, l⟩ := run_ok h1 h3
        rw [(dr_0 h1 h2 h3).2.2.1]
        exact ⟨rfl, ((ok_iff _ _ _).1 a).2, l, rfl⟩
theorem dgZ_0 {r c s : Int} {zs ds : List Int} (h : drC r c zs ds s = 0) : dgZ r c zs ds s = gn zs (drZ r c zs ds s) := by unfold dgZ; rw [if_pos h]
theorem dgZ_no {r c s : Int} {zs ds : List Int} (h : drC r c zs ds s ≠ 0) : dgZ r c zs ds s = [] := by unfold dgZ; rw [if_neg h]
theorem dgZ_len {r c s : Int} {zs ds : List Int} (hl : zs.length ≤ 1048576) : (dgZ r c zs ds s).length ≤ 1048576 := by
  unfold dgZ
  split
  · rename_i h
    rw [gn_length (dr_fine h).2.2.1]; exact hl
  · simp
/-- the first gains, and the masses behind them -/
def dgk (zs ys : List Int) (k : Nat) : List Int := (gn zs ys).take k ++ ys.drop k
theorem dgk_0 (zs ys : List Int) : dgk zs ys 0 = ys := by unfold dgk; simp
theorem dgk_all {zs ys : List Int} (h : ys.length = zs.length) : dgk zs ys zs.length = gn zs ys := by
  unfold dgk
  rw [List.take_of_length_le (by rw [gn_length h]; exact Nat.le_refl _), List.drop_eq_nil_of_le (by omega), List.append_nil]
theorem gn_get {zs ys : List Int} (h : ys.length = zs.length) {k : Nat} (hk : k < zs.length) (hk2 : k < ys.length) : (gn zs ys)[k]? = some (ys[k] - zs[k]) := by
  rw [gn_at h k hk, List.getD_eq_getElem?_getD, List.getD_eq_getElem?_getD, List.getElem?_eq_getElem hk, List.getElem?_eq_getElem hk2]; rfl
theorem dgk_at {zs ys : List Int} (h : ys.length = zs.length) {k : Nat} (hk : k < ys.length) : (dgk zs ys k)[k]? = some ys[k] := by
  unfold dgk
  rw [List.getElem?_append_right (by rw [List.length_take, gn_length h]; omega), List.length_take, gn_length h, Nat.min_eq_left (by omega), Nat.sub_self]
  rw [List.getElem?_drop, Nat.add_zero, List.getElem?_eq_getElem hk]
theorem gn_take {zs ys : List Int} (h : ys.length = zs.length) {k : Nat} (hk : k < zs.length) (hk2 : k < ys.length) : (gn zs ys).take (k + 1) = (gn zs ys).take k ++ [ys[k] - zs[k]] := by
  have hl : k < (gn zs ys).length := by rw [gn_length h]; exact hk
  have e := gn_get h hk hk2
  rw [List.getElem?_eq_getElem hl] at e
  rw [List.take_succ_eq_append_getElem hl, Option.some.inj e]
theorem dgk_set {zs ys : List Int} (h : ys.length = zs.length) {k : Nat} (hk : k < zs.length) (hk2 : k < ys.length) : (dgk zs ys k).set k (ys[k] - zs[k]) = dgk zs ys (k + 1) := by
  have hl : ((gn zs ys).take k).length = k := by rw [List.length_take, gn_length h]; omega
  unfold dgk
  rw [List.set_append_right _ _ (by omega), hl, Nat.sub_self, List.drop_eq_getElem_cons hk2, List.set_cons_zero, gn_take h hk hk2, List.append_assoc]; rfl
theorem dgk_length {zs ys : List Int} (h : ys.length = zs.length) (k : Nat) : (dgk zs ys k).length = zs.length := by
  unfold dgk; rw [List.length_append, List.length_take, List.length_drop, gn_length h]; omega
theorem get_bd {zs : List Int} (h : okMs zs = true) {k : Nat} (hk : k < zs.length) : 0 ≤ zs[k] ∧ zs[k] ≤ 1000000 := (okMs_iff zs).1 h _ (List.getElem_mem hk)
end Go.Proofs.YtmidihmbehaegaaDoor.Fw
