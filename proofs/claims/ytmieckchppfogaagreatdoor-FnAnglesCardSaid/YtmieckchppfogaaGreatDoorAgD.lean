/-
  The stop, speeds, the beta point, the tangent of a runout, by the model (chapter 14). No condition of its own. (Written by wip/gen/genagd.py.)
-/
import Derived.Test.YtmieckchppfogaaGreatDoorAgC
import Derived.Test.YtmieckchppfogaaGreatDoorRoot
namespace Go.Proofs.YtmieckchppfogaaGreatDoor
open Go.RowKit Go.Shelf
set_option linter.unusedVariables false
set_option maxRecDepth 100000

namespace An
theorem sR_s {xs : List Pth} {t : Int} (h : st xs t < (la xs).toNat) : sR xs t = (st xs t : Int) + 1 ∧ sV xs t = (st xs t : Int) + 1 ∧ (∀ c, sC xs t c = 0) ∧ (∀ d, sB xs t d = decide ((st xs t : Int) + 1 ≤ d)) := by
  unfold sR sV sC sB; rw [if_pos h, if_pos h]
  exact ⟨rfl, rfl, fun c => if_pos h, fun d => by rw [decide_eq_true h, Bool.true_and]⟩
theorem sR_n {xs : List Pth} {t : Int} (h : ¬ st xs t < (la xs).toNat) : sR xs t = -1 ∧ sV xs t = 0 ∧ (∀ c, sC xs t c = c) ∧ (∀ d, sB xs t d = false) := by
  unfold sR sV sC sB; rw [if_neg h, if_neg h]
  exact ⟨rfl, rfl, fun c => if_neg h, fun d => by rw [decide_eq_false h, Bool.false_and]⟩
/-- how fast a mass is under its line -/
def spd (s : Int) : Int := rt (Ar.dr (1962 * s) 10)
theorem spd_bd {s : Int} (h0 : 0 ≤ s) (h1 : s ≤ 9000000) : 0 ≤ Ar.dr (1962 * s) 10 ∧ Ar.dr (1962 * s) 10 ≤ 17658000001 := by
  have := Ar.drp_bd (a := 1962 * s) (b := 10) (by omega) (by omega)
  have hd : Ar.dr (1962 * s) 10 = Ar.drp (1962 * s) 10 := by unfold Ar.dr; rw [if_neg (by omega)]
  omega
def vS (xs : List Pth) (t d : Int) : Int := if sB xs t d = true then 0 else spd (hi xs t d)
end An
end Go.Proofs.YtmieckchppfogaaGreatDoor
