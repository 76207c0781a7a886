/-
  What the law of units needs: texts of clocks and of numbers with places are read back, stronger wind has no lesser number. No condition of its own.
-/
import Derived.Test.YtommcckihanedaaGreatDoorUnM
import Derived.Test.YtommcckihanedaaGreatDoorDrw
import Derived.Test.YtommcckihanedaaGreatDoorB10
import Derived.Test.YtommcckihanedaaGreatDoorRdC
import Derived.Test.YtommcckihanedaaGreatDoorTexts
import Derived.Test.YtommcckihanedaaGreatDoorFixI
import Derived.Test.YtommcckihanedaaGreatDoorRfI
import Derived.Test.YtommcckihanedaaGreatDoorWind
import Derived.Test.YtommcckihanedaaGreatDoorShare
namespace Go.Proofs.YtommcckihanedaaGreatDoor
open Go.RowKit
set_option linter.unusedVariables false

theorem un_fl2 {c : UInt8} {q t : List UInt8} (hq : q.length = 2) : Fd.flds c [2, 2] (q ++ c :: t) = (match Fd.rd1 2 q, (match Fd.rd1 2 t with | some v => some [v] | none => none) with | some v, some vs => some (v :: vs) | _, _ => none) := by
  obtain ⟨e1, e2, e3⟩ := Fd.at_cut q c t
  rw [hq] at e1 e2 e3
  rw [fl2, if_pos ⟨by simp; omega, e1⟩, e2, e3]
  cases Fd.rd1 2 q <;> cases Fd.rd1 2 t <;> rfl
theorem clk_back {m : Int} (h1 : 0 ≤ m) (h2 : m ≤ 1439) : clkV (clk m) = some m ∧ (clk m).length = 5 := by
  have e : clk m = Dg.pad 2 (m / 60).toNat ++ 58 :: Dg.pad 2 (m % 60).toNat := by
    rw [clk_in h1 h2, Dg.zpad_pad 2 _ (by omega) (by omega), Dg.zpad_pad 2 _ (by omega) (by omega)]
  refine ⟨?_, by rw [e]; simp [Dg.pad_length]⟩
  rw [e, clk_some (h := (m / 60).toNat) (m := (m % 60).toNat) (by rw [un_fl2 (Dg.pad_length _ _), Fd.rd1_pad 2 _ (by omega), Fd.rd1_pad 2 _ (by omega)]), hm_y (by omega) (by omega)]
  congr 1; omega
theorem clk_nil : clkV [] = none := clk_none (fl2_len (by decide))
theorem fx_some {n p : Int} {o : Option Int} {l : List UInt8} (h : (-1000000000 ≤ n ∧ n ≤ 1000000000) ∧ 1 ≤ p ∧ p ≤ 6) (hl : l = Dg.fx n p.toNat) (ho : Fx.RFx l p o) : o = some n := by
  subst hl
  exact Fx.RFx.uniq ho ⟨h.1, h.2, rfl⟩
theorem fx_ne (n : Int) (p : Nat) : Dg.fx n p ≠ [] := by unfold Dg.fx; simp
theorem fx_none {p : Int} {o : Option Int} (ho : Fx.RFx [] p o) : o = none := by
  cases o with
  | none => rfl
  | some n => exact absurd ho.2.2 (fx_ne _ _)
theorem bft_up (s : Int) : bft s ≤ bft (s + 1) ∧ bft (s + 1) ≤ bft s + 1 ∧ 0 ≤ bft s ∧ bft s ≤ 12 := by
  have a := Un.filt_le speeds s
  have b := Un.filt_succ speeds s (by decide)
  have c := Un.filt_bd speeds s
  have e : speeds.length = 12 := rfl
  unfold bft; omega
theorem shrV_bd (s : Int) : 0 ≤ shrV s ∧ shrV s ≤ 1000 := by rw [← shr_line]; exact Un.shr_bd s
theorem shrV_up (s : Int) : shrV s ≤ shrV (s + 1) := by rw [← shr_line, ← shr_line]; exact Un.shr_mono s
end Go.Proofs.YtommcckihanedaaGreatDoor
