/-
  The slope from a cell to one next to it, and the direction between two cells, by the model (chapter 9). No condition of its own.
-/
import Derived.Test.YtobcflcmlejajabDoorGn
import Derived.Deep.QuietTactic
import Derived.BigQuiet
namespace Go.Proofs.YtobcflcmlejajabDoor
open Go.RowKit Go.Shelf Go.Deep
set_option linter.unusedVariables false
set_option maxRecDepth 100000

namespace Gw
def drp (zs : List Int) (f t : Nat) : Int := zs.getD f 0 - zs.getD t 0
/-- the slope in a direction, in thousandths -/
def fall (s : Int) (zs : List Int) (f t a : Nat) : Int := if a % 2 = 1 then Ar.dr (drp zs f t * 1000000) (s * 1414) else Ar.dr (drp zs f t * 1000) s
theorem drp_bd {zs : List Int} (h : okHs zs = true) {f t : Nat} (hf : f < zs.length) (ht : t < zs.length) : drp zs f t = zs[f] - zs[t] ∧ -5000 ≤ drp zs f t ∧ drp zs f t ≤ 5000 := by
  have h1 := (okHs_iff zs).1 h _ (List.getElem_mem hf)
  have h2 := (okHs_iff zs).1 h _ (List.getElem_mem ht)
  have e : drp zs f t = zs[f] - zs[t] := by unfold drp; rw [List.getD_eq_getElem?_getD, List.getD_eq_getElem?_getD, List.getElem?_eq_getElem hf, List.getElem?_eq_getElem ht]; rfl
  omega
end Gw
set_option maxHeartbeats 3200000 in
theorem l09Fall_any (w : World) (b : Nat) (r c s : Int) (v : Value) (zs : List Int) (f t a : Nat) (hc : GC w b r c s v) (hv : Sl w v zs) (hh : Gw.okHs zs = true) (hf : f < zs.length) (ht : t < zs.length) (s1 : 1 ≤ s) (s2 : s ≤ 100) (ha : a < 8) :
    Calls Tryd.prog 64 #[.pointer (some ⟨b, 0, none⟩), .int .i64 (f : Int), .int .i64 (t : Int), .int .i64 (a : Int)] w fun e w' => e = .returned (.int .i64 (Gw.fall s zs f t a)) ∧ Below w.heap.size w w' := by
  obtain ⟨hd, h1, h2⟩ := Gw.drp_bd hh hf ht
  obtain ⟨x0, x1, x2, x3⟩ := hc.four
  have hlt := hc.lt
  obtain ⟨b2, off, cap, rfl, hbl, hcc⟩ := hv.atI hf
  have c1 := hcc f hf
  have c2 := hcc t ht
  have fz : (f : Int) < (zs.length : Int) := by omega
  have tz : (t : Int) < (zs.length : Int) := by omega
  have hwd : IntKind.i64.wrap (zs[f] - zs[t]) = Gw.drp zs f t := by rw [← hd]; exact IntWalk.i64_in _ ⟨by omega, by omega⟩
  unfold Gw.fall
  clear hcc hv hc hh hd
  generalize Gw.drp zs f t = d at *
  generalize zs[f] = zf at *
  generalize zs[t] = zt at *
  clear hf ht
  have hm1 : wrap64 (d * 1000000) = d * 1000000 := IntWalk.wrap64_in _ ⟨by omega, by omega⟩
  have hm2 : wrap64 (d * 1000) = d * 1000 := IntWalk.wrap64_in _ ⟨by omega, by omega⟩
  have hm3 : wrap64 (s * 1414) = s * 1414 := IntWalk.wrap64_in _ ⟨by omega, by omega⟩
  have htm : (a : Int).tmod 2 = ((a % 2 : Nat) : Int) := by rw [Int.tmod_eq_emod_of_nonneg (by omega)]; omega
  rcases Nat.mod_two_eq_zero_or_one a with hp | hp
  · have hpb : ((a : Int).tmod 2 == 1) = false := by rw [htm, hp]; rfl
    have hpc : ((a : Int) % 2 == 1) = false := by rw [show (a : Int) % 2 = 0 by omega]; rfl
    rw [if_neg (by omega)]
    clear htm hp
    go_enter Tryd.func64, Tryd.ntmps64
    go_wp2_with fail
    go_quiet (fail)
    go_wp2_with (go_at_call 87; refine (l01Div_any _ _ _ (by omega) (by omega) (by omega) (by omega) (by omega)).mono ?_; rintro e w' ⟨rfl, rfl⟩)
    go_ret
    exact ⟨rfl, below_drewW _ _⟩
  · have hpb : ((a : Int).tmod 2 == 1) = true := by rw [htm, hp]; rfl
    have hpc : ((a : Int) % 2 == 1) = true := by rw [show (a : Int) % 2 = 1 by omega]; rfl
    rw [if_pos hp]
    clear htm hp
    go_enter Tryd.func64, Tryd.ntmps64
    go_wp2_with fail
    go_quiet (fail)
    go_wp2_with (go_at_call 87; refine (l01Div_any _ _ _ (by omega) (by omega) (by omega) (by omega) (by omega)).mono ?_; rintro e w' ⟨rfl, rfl⟩)
    go_ret
    exact ⟨rfl, below_drewW _ _⟩
namespace Gw
/-- the first of the directions from a on, f of them, that leads to a cell -/
def way (r c k z : Int) : Nat → Nat → Int
  | _, 0 => -1
  | a, f + 1 => if goC r c k a = z then (a : Int) else way r c k z (a + 1) f
end Gw
set_option maxHeartbeats 3200000 in
theorem l09Way_any (w : World) (b : Nat) (r c s k z : Int) (v : Value) (hc : GC w b r c s v) (r1 : 1 ≤ r) (r2 : r ≤ 8) (c1 : 1 ≤ c) (c2 : c ≤ 8) (k1 : 0 ≤ k) (k2 : k ≤ 63) :
    Calls Tryd.prog 63 #[.pointer (some ⟨b, 0, none⟩), .int .i64 k, .int .i64 z] w fun e w' => e = .returned (.int .i64 (Gw.way r c k z 0 8)) ∧ Below w.heap.size w w' := by
  have CG := Lib.hid (fun (a : Nat) (ha : a < 8) W (h : Below w.heap.size w W) => l09Go_any W b r c s k a v (hc.all h) r1 r2 c1 c2 k1 k2 ha)
  clear hc r1 r2 c1 c2 k1 k2
  go_enter Tryd.func63, Tryd.ntmps63
  go_wp2
  go_loopw [7] (fun i wr => ∃ a : Nat, a ≤ 8 ∧ i = .int .i64 (a : Int) ∧ Hid (Gw.way r c k z 0 8 = Gw.way r c k z a (8 - a)) ∧ Hid (Below w.heap.size w wr)) (fun i _ => 8 - (intOf i).toNat)
  case atStart => exact ⟨0, by omega, rfl, Lib.hid rfl, Lib.hid (Below.refl _ _)⟩
  case round =>
    obtain ⟨a, ha, rfl, hw, hb⟩ := hrel
    by_cases hlt : a < 8
    · have hltz : (a : Int) < 8 := by omega
      have C := Lib.hid (CG.out a hlt wr hb.out)
      have he : Hid (Gw.way r c k z a (8 - a) = if Gw.goC r c k a = z then (a : Int) else Gw.way r c k z (a + 1) (8 - (a + 1))) := Lib.hid (by rw [show 8 - a = (8 - (a + 1)) + 1 by omega, Gw.way])
      by_cases hz : Gw.goC r c k a = z
      · have hr : Hid (Gw.way r c k z 0 8 = (a : Int)) := Lib.hid (by rw [hw.out, he.out, if_pos hz])
        have hzb : (Gw.goC r c k a == z) = true := beq_iff_eq.2 hz
        clear hz
        generalize Gw.goC r c k a = y at *
        go_wp2_with fail
        refine C.out.mono ?_
        rintro e w2 ⟨rfl, b2⟩
        have B2 := Lib.hid (bt hb.out b2)
        clear b2
        go_wp2_with fail
        go_ret
        exact ⟨ret_int hr.out.symm, B2.out⟩
      · have hr : Hid (Gw.way r c k z 0 8 = Gw.way r c k z (a + 1) (8 - (a + 1))) := Lib.hid (by rw [hw.out, he.out, if_neg hz])
        have hzb : (Gw.goC r c k a == z) = false := beq_eq_false_iff_ne.2 hz
        clear hz
        generalize Gw.goC r c k a = y at *
        go_wp2_with fail
        refine C.out.mono ?_
        rintro e w2 ⟨rfl, b2⟩
        have B2 := Lib.hid (bt hb.out b2)
        clear b2
        go_wp2_with fail
        exact ⟨⟨a + 1, by omega, by go_num, hr, B2⟩, by simp only [intOf]; omega⟩
    · have hltz : ¬ (a : Int) < 8 := by omega
      have ha8 : a = 8 := by omega
      subst ha8
      go_wp2
      go_ret
      exact ⟨ret_int (by rw [hw.out]; rfl), hb.out⟩
end Go.Proofs.YtobcflcmlejajabDoor
