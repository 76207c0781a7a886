/-
  The steepest step down from a cell, answered or refused. The conditions: the table of ways as it is laid.
-/
import Derived.Test.YthcmpalbhaefbaaDoorTrJ
import Derived.Test.YthcmpalbhaefbaaDoorGq
namespace Go.Proofs.YthcmpalbhaefbaaDoor
open Go.RowKit Go.Shelf Go.Deep
set_option linter.unusedVariables false
set_option maxRecDepth 100000
namespace Gw
/-- the direction of the steepest step down from a cell, if there is one -/
def sdO (r c s : Int) (zs : List Int) (k : Int) : Option Nat := if ok r c s zs = true then (if isCell r c k = true then bsO r c s zs k.toNat ((List.range 8).filter (goB r c (k.toNat : Int))) else none) else none
/-- the code of the answer -/
def sdE (r c s : Int) (zs : List Int) (k : Int) : Int := if ok r c s zs = true then (if isCell r c k = true then (if (stp r c s zs k.toNat 8).1 < 0 then 3 else 0) else 2) else 1
theorem sd_bad {r c s : Int} {zs : List Int} {k : Int} (h : ok r c s zs = false) : sdO r c s zs k = none ∧ sdE r c s zs k = 1 := by unfold sdO sdE; rw [h]; exact ⟨rfl, rfl⟩
theorem sd_out {r c s : Int} {zs : List Int} {k : Int} (h : ok r c s zs = true) (h2 : isCell r c k = false) : sdO r c s zs k = none ∧ sdE r c s zs k = 2 := by unfold sdO sdE; rw [h, h2]; exact ⟨rfl, rfl⟩
theorem sd_in {r c s : Int} {zs : List Int} {k : Int} (h : ok r c s zs = true) (h2 : isCell r c k = true) : sdO r c s zs k = bsO r c s zs k.toNat ((List.range 8).filter (goB r c (k.toNat : Int))) ∧ sdE r c s zs k = (if (stp r c s zs k.toNat 8).1 < 0 then 3 else 0) := by unfold sdO sdE; rw [h, h2]; exact ⟨rfl, rfl⟩
end Gw
theorem one_slT (W : World) (d : Int) : Sl (W.alloc (.cells #[.int .i64 d] 2)) (.slice (some ⟨W.heap.size, 0, none⟩) 1 1) [d] := by
  refine Or.inr ⟨W.heap.size, 0, 1, rfl, by simp, fun j z hj => ?_⟩
  cases j with
  | zero => simp only [List.getElem?_cons_zero, Option.some.injEq] at hj; subst hj; simp
  | succ j => simp at hj
theorem own_cap {B g n cap : Nat} {w : World} {zs : List Int} (h : Own B w (.slice (some ⟨g, 0, none⟩) n cap) zs) : n ≤ cap := by
  rcases h.2 with ⟨hv, _⟩ | ⟨g', cap', cur, hv, _, _, hc, _⟩
  · cases hv
  · simp only [Value.slice.injEq] at hv; omega
theorem own_cells {B g n cap : Nat} {w : World} {zs : List Int} (h : Own B w (.slice (some ⟨g, 0, none⟩) n cap) zs) (j : Nat) (x : Int) (hx : zs[j]? = some x) : w.cell? ⟨g, 0 + j, none⟩ = some (.int .i64 x) := by
  have := World.ownsRow.cells h (g := g) rfl j (.int .i64 x) (by unfold iv; rw [List.getElem?_map, hx]; rfl)
  have e : ((⟨g, 0, none⟩ : Addr).add j) = ⟨g, 0 + j, none⟩ := by unfold Addr.add; split <;> simp_all
  rwa [e] at this
theorem own_lt {B g n cap : Nat} {w : World} {zs : List Int} (h : Own B w (.slice (some ⟨g, 0, none⟩) n cap) zs) : g < w.heap.size := (World.ownsRow.lt h g rfl).2
theorem steepest_any (w : World) (R C k g0 cap g cap' : Nat) (s : Int) (zs : List Int) (G : Gw.Good R C s zs) (hk : k < zs.length) (hr : RowsAt w g g0 0 C R)
    (hs : ∀ j x, zs[j]? = some x → w.cell? ⟨g0, 0 + j, none⟩ = some (.int .i64 x)) (hb1 : g0 < w.heap.size) (hA : AspAt w) :
    Calls Tryd.prog 53 #[.agg #[.int .i64 R, .int .i64 C, .int .i64 s, .slice (some ⟨g0, 0, none⟩) zs.length cap, .slice (some ⟨g, 0, none⟩) R cap'], .int .i64 (k : Int)] w fun e w' =>
      (∃ o : Option Nat, o = Gw.bsO R C s zs k ((List.range 8).filter (Gw.goB R C k)) ∧ e = .returned (.tuple #[.agg (stC R C s zs k o), .bool (!decide ((Gw.stp R C s zs k 8).1 < 0))])) ∧ Below w.heap.size w w' := by
  refine (callsIn_wide.1 (steepest_in 8 (Nat.le_refl _) w R C k g0 0 zs.length cap g cap' s zs G hk hr hs hb1 hA)).mono ?_
  rintro e w' ⟨⟨o, ho, rfl⟩, hb⟩
  refine ⟨⟨o, ho, ?_⟩, hb⟩
  have hd : decide (0 < dnO R C zs k o) = !decide ((Gw.stp R C s zs k 8).1 < 0) := by
    rcases Gw.best_upto (r := R) (c := C) (zs := zs) G.s1 G.s2 k 8 with ⟨h1, h2⟩ | ⟨i, h1, h2, h3, h4⟩
    · rw [h1] at ho
      rw [ho, h2]; rfl
    · rw [h1] at ho
      rw [ho, h3]
      have := (Gw.dnB_drp.1 h4).2
      show decide (0 < Gw.drp zs k (Gw.goC R C k i).toNat) = !decide ((i : Int) < 0)
      rw [decide_eq_true this, decide_eq_false (by omega)]; rfl
  rw [hd]
end Go.Proofs.YthcmpalbhaefbaaDoor
