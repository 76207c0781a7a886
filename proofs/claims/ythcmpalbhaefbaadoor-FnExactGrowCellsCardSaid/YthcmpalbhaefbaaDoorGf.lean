/-
  The slope from a cell to one next to it, and the direction between two cells, by the model (chapter 9). No condition of its own.
-/
import Derived.Test.YthcmpalbhaefbaaDoorGn
import Derived.Deep.QuietTactic
import Derived.BigQuiet
namespace Go.Proofs.YthcmpalbhaefbaaDoor
open Go.RowKit Go.Shelf Go.Deep
set_option linter.unusedVariables false
set_option maxRecDepth 100000

namespace Gw
def drp (zs : List Int) (f t : Nat) : Int := zs.getD f 0 - zs.getD t 0
/-- the slope in a direction, in thousandths -/
def fall (s : Int) (zs : List Int) (f t a : Nat) : Int := if a % 2 = 1 then Ar.dr (drp zs f t * 1000000) (s * 1414) else Ar.dr (drp zs f t * 1000) s
theorem drp_bd {zs : List Int} (h : okHs zs = true) {f t : Nat} (hf : f < zs.length) (ht : t < zs.length) : drp zs f t = zs[f] - zs[t] ∧ -5000 ≤ drp zs f t ∧ drp zs f t ≤ 5000 := by
  have h1 := (okHs_iff zs).1 h _ (List.getElem_mem hf)
  have h2 := (okHs_iff zs).1 h _ (List.getElem_mem ht)
  have e : drp zs f t = zs[f] - zs[t] := by unfold drp; rw [List.getD_eq_getElem?_getD, List.getD_eq_getElem?_getD, List.getElem?_eq_getElem hf, List.getElem?_eq_getElem ht]; rfl
  omega
end Gw
set_option maxHeartbeats 3200000 in
theorem l09Fall_any (w : World) (b : Nat) (r c s : Int) (v : Value) (zs : List Int) (f t a : Nat) (hc : GC w b r c s v) (hv : Sl w v zs) (hh : Gw.okHs zs = true) (hf : f < zs.length) (ht : t < zs.length) (s1 : 1 ≤ s) (s2 : s ≤ 100) (ha : a < 8) :
    Calls Tryd.prog 106 #[.pointer (some ⟨b, 0, none⟩), .int .i64 (f : Int), .int .i64 (t : Int), .int .i64 (a : Int)] w fun e w' => e = .returned (.int .i64 (Gw.fall s zs f t a)) ∧ Below w.heap.size w w' := by
  obtain ⟨hd, h1, h2⟩ := Gw.drp_bd hh hf ht
  obtain ⟨x0, x1, x2, x3⟩ := hc.four
  have hlt := hc.lt
  obtain ⟨b2, off, cap, rfl, hbl, hcc⟩ := hv.atI hf
  have c1 := hcc f hf
  have c2 := hcc t ht
  have fz : (f : Int) < (zs.length : Int) := by omega
  have tz : (t : Int) < (zs.length : Int) := by omega
  have hwd : IntKind.i64.wrap (zs[f] - zs[t]) = Gw.drp zs f t := by rw [← hd]; exact IntWalk.i64_in _ ⟨by omega, by omega⟩
  unfold Gw.fall
  clear hcc hv hc hh hd
  generalize Gw.drp zs f t = d at *
  generalize zs[f] = zf at *
  generalize zs[t] = zt at *
  clear hf ht
  have hm1 : wrap64 (d * 1000000) = d * 1000000 := IntWalk.wrap64_in _ ⟨by omega, by omega⟩
  have hm2 : wrap64 (d * 1000) = d * 1000 := IntWalk.wrap64_in _ ⟨by omega, by omega⟩
  have hm3 : wrap64 (s * 1414) = s * 1414 := IntWalk.wrap64_in _ ⟨by omega, by omega⟩
  have htm : (a : Int).tmod 2 = ((a % 2 : Nat) : Int) := by rw [Int.tmod_eq_emod_of_nonneg (by omega)]; omega
  rcases Nat.mod_two_eq_zero_or_one a with hp | hp
  · have hpb : ((a : Int).tmod 2 == 1) = false := by rw [htm, hp]; rfl
    have hpc : ((a : Int) % 2 == 1) = false := by rw [show (a : Int) % 2 = 0 by omega]; rfl
    rw [if_neg (by omega)]
    clear htm hp
    go_enter Tryd.func106, Tryd.ntmps106
    go_wp2_with fail
    go_quiet (fail)
    go_wp2_with (go_at_call 138; refine (l01Div_any _ _ _ (by omega) (by omega) (by omega) (by omega) (by omega)).mono ?_; rintro e w' ⟨rfl, rfl⟩)
    go_ret
    exact ⟨rfl, below_drewW _ _⟩
  · have hpb : ((a : Int).tmod 2 == 1) = true := by rw [htm, hp]; rfl
    have hpc : ((a : Int) % 2 == 1) = true := by rw [show (a : Int) % 2 = 1 by omega]; rfl
    rw [if_pos hp]
    clear htm hp
    go_enter Tryd.func106, Tryd.ntmps106
    go_wp2_with fail
    go_quiet (fail)
    go_wp2_with (go_at_call 138; refine (l01Div_any _ _ _ (by omega) (by omega) (by omega) (by omega) (by omega)).mono ?_; rintro e w' ⟨rfl, rfl⟩)
    go_ret
    exact ⟨rfl, below_drewW _ _⟩
namespace Gw
/-- the first of the directions from a on, f of them, that leads to a cell -/
def way (r c k z : Int) : Nat → Nat → Int
  | _, 0 => -1
  | a, f + 1 => if goC r c k a = z then (a : Int) else way r c k z (a + 1) f
end Gw
end Go.Proofs.YthcmpalbhaefbaaDoor
