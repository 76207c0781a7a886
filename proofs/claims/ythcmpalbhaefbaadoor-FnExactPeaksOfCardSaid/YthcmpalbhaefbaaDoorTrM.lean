/-
  The steepest slope and where it leads, by the program. The conditions: the table of ways as it is laid.
-/
import Derived.Test.YthcmpalbhaefbaaDoorTrL
import Derived.Test.YthcmpalbhaefbaaDoorGdA
namespace Go.Proofs.YthcmpalbhaefbaaDoor
open Go.RowKit Go.Shelf Go.Deep
set_option linter.unusedVariables false
set_option maxRecDepth 100000
theorem sp_eq (r c s : Int) (zs : List Int) (k : Int) : (Gw.sdE r c s zs k ≠ 0 ∧ Gw.spR r c s zs k = (0, 0, Gw.sdE r c s zs k)) ∨ (Gw.sdE r c s zs k = 0 ∧ ∃ a : Nat, Gw.sdO r c s zs k = some a ∧
    Gw.spR r c s zs k = (Gw.slO r c s zs k.toNat (some a), Gw.rwA c k.toNat a * c + Gw.clA c k.toNat a, 0) ∧ wrap64 (Gw.rwA c k.toNat a * c) = Gw.rwA c k.toNat a * c ∧ wrap64 (Gw.rwA c k.toNat a * c + Gw.clA c k.toNat a) = Gw.rwA c k.toNat a * c + Gw.clA c k.toNat a) := by
  cases hq : Gw.ok r c s zs with
  | false => rw [Gw.sp_bad hq, (Gw.sd_bad hq).2]; exact Or.inl ⟨by decide, rfl⟩
  | true =>
    cases hi : Gw.isCell r c k with
    | false => rw [Gw.sp_out hq hi, (Gw.sd_out hq hi).2]; exact Or.inl ⟨by decide, rfl⟩
    | true =>
      have G := (Gw.ok_iff _ _ _ _).1 hq
      have hkn : ((k.toNat : Nat) : Int) = k := Int.toNat_of_nonneg (Gw.isCell_bd hi G.r1 G.r2 G.c1 G.c2).1
      rw [(Gw.sd_in hq hi).1, (Gw.sd_in hq hi).2]
      rcases Gw.best_upto (r := r) (c := c) (zs := zs) G.s1 G.s2 k.toNat 8 with ⟨h1, h2⟩ | ⟨i, h1, h2, h3, h4⟩
      · rw [Gw.sp_none hq hi (by rw [h2]; show (-1 : Int) < 0; omega), h2]; exact Or.inl ⟨by decide, rfl⟩
      · have hn : ¬ (Gw.stp r c s zs k.toNat 8).1 < 0 := by rw [h3]; simp only; omega
        have hg := (Gw.dnB_drp.1 h4).1
        have hd : Gw.goC r c k.toNat i = Gw.rwA c k.toNat i * c + Gw.clA c k.toNat i := by unfold Gw.goC; rw [if_pos hg]
        have hb := hg
        unfold Gw.goB Gw.isAt at hb
        rw [Bool.and_eq_true] at hb
        obtain ⟨y1, y2⟩ := Gw.inB_iff.1 hb.1
        obtain ⟨y3, y4⟩ := Gw.inB_iff.1 hb.2
        have := G.r2; have := G.c1; have := G.c2
        obtain ⟨e1, e2, e3, e4⟩ := Gw.cell_bd y1 (by omega) y3 (by omega) G.c1 G.c2
        refine Or.inr ⟨if_neg hn, i, h1, ?_, IntWalk.wrap64_in _ ⟨by omega, by omega⟩, IntWalk.wrap64_in _ ⟨by omega, by omega⟩⟩
        rw [Gw.sp_yes hq hi hn, h3, ← hd]
        simp only [Int.toNat_natCast, Gw.slO]
        rw [hkn]
end Go.Proofs.YthcmpalbhaefbaaDoor
