/-
  The steepest slope, where it leads and its direction, by the program; the steepest slope by the model. The conditions: the table of ways as it is laid (the program).
-/
import Derived.Test.YthcmpalbhaefbaaDoorTrK
namespace Go.Proofs.YthcmpalbhaefbaaDoor
open Go.RowKit Go.Shelf Go.Deep
set_option linter.unusedVariables false
set_option maxRecDepth 100000
def dO : Option Nat → Int
  | none => 0
  | some a => a
def rO (c : Int) (k : Nat) : Option Nat → Int
  | none => 0
  | some a => Gw.rwA c k a
def cO (c : Int) (k : Nat) : Option Nat → Int
  | none => 0
  | some a => Gw.clA c k a
theorem stC_eq (r c s : Int) (zs : List Int) (k : Nat) (o : Option Nat) : stC r c s zs k o = #[.int .i64 (dO o), .int .i64 (rO c k o), .int .i64 (cO c k o), .int .i64 (dnO r c zs k o), .int .i64 (Gw.slO r c s zs k o)] := by
  cases o <;> rfl
theorem as_eq (r c s : Int) (zs : List Int) (k : Int) : Gw.asR r c s zs k = (dO (Gw.sdO r c s zs k), Gw.sdE r c s zs k) := by
  cases hq : Gw.ok r c s zs with
  | false => rw [Gw.as_bad hq, (Gw.sd_bad hq).1, (Gw.sd_bad hq).2]; rfl
  | true =>
    cases hi : Gw.isCell r c k with
    | false => rw [Gw.as_out hq hi, (Gw.sd_out hq hi).1, (Gw.sd_out hq hi).2]; rfl
    | true =>
      have G := (Gw.ok_iff _ _ _ _).1 hq
      rw [(Gw.sd_in hq hi).1, (Gw.sd_in hq hi).2]
      rcases Gw.best_upto (r := r) (c := c) (zs := zs) G.s1 G.s2 k.toNat 8 with ⟨h1, h2⟩ | ⟨i, h1, h2, h3, h4⟩
      · rw [Gw.as_none hq hi (by rw [h2]; show (-1 : Int) < 0; omega), h1, h2]; rfl
      · have hn : ¬ (Gw.stp r c s zs k.toNat 8).1 < 0 := by rw [h3]; simp only; omega
        rw [Gw.as_yes hq hi hn, if_neg hn, h1, h3]; rfl
namespace Gw
/-- what SteepestOf answers -/
def spR (r c s : Int) (zs : List Int) (k : Int) : Int × Int × Int := if ok r c s zs = true then (if isCell r c k = true then (if (stp r c s zs k.toNat 8).1 < 0 then (0, 0, 3) else ((stp r c s zs k.toNat 8).2, goC r c k (stp r c s zs k.toNat 8).1.toNat, 0)) else (0, 0, 2)) else (0, 0, 1)
theorem sp_bad {r c s : Int} {zs : List Int} {k : Int} (h : ok r c s zs = false) : spR r c s zs k = (0, 0, 1) := by unfold spR; rw [h]; rfl
theorem sp_out {r c s : Int} {zs : List Int} {k : Int} (h : ok r c s zs = true) (hi : isCell r c k = false) : spR r c s zs k = (0, 0, 2) := by unfold spR; rw [h, hi]; rfl
theorem sp_none {r c s : Int} {zs : List Int} {k : Int} (h : ok r c s zs = true) (hi : isCell r c k = true) (hm : (stp r c s zs k.toNat 8).1 < 0) : spR r c s zs k = (0, 0, 3) := by unfold spR; rw [h, hi, if_pos rfl, if_pos rfl, if_pos hm]
theorem sp_yes {r c s : Int} {zs : List Int} {k : Int} (h : ok r c s zs = true) (hi : isCell r c k = true) (hm : ¬ (stp r c s zs k.toNat 8).1 < 0) : spR r c s zs k = ((stp r c s zs k.toNat 8).2, goC r c k (stp r c s zs k.toNat 8).1.toNat, 0) := by unfold spR; rw [h, hi, if_pos rfl, if_pos rfl, if_neg hm]
end Gw
end Go.Proofs.YthcmpalbhaefbaaDoor
