/-
  Where a mass is fastest: by the program (chapter 14). No condition of its own.
-/
import Derived.Test.YtmieckchppfogaaGreatDoorAgL
import Derived.Deep.QuietTactic
import Derived.BigQuiet
import Derived.OwnWalk
namespace Go.Proofs.YtmieckchppfogaaGreatDoor
open Go.RowKit Go.Shelf
set_option linter.unusedVariables false
set_option maxRecDepth 100000

namespace An
theorem pm_s (xs : List Pth) (t : Int) (k : Nat) : pm xs t (k + 1) = if ed xs k ≤ st xs t then max (pm xs t k) (hi xs t (ed xs k)) else pm xs t k := rfl
theorem fw_be {xs : List Pth} (o : Ok xs) {t m : Int} (hm : m = mo xs t (st xs t)) (h : 0 < m) : (if fi (fun i => decide (m ≤ hi xs t ((i : Int) + 1))) (la xs).toNat < (la xs).toNat then (fi (fun i => decide (m ≤ hi xs t ((i : Int) + 1))) (la xs).toNat : Int) + 1 else 0) = (be xs t (st xs t) : Int) := by
  obtain ⟨e, d, h1, h2, h3⟩ := be_fi o hm h
  have hlt : fi (fun i => decide (m ≤ hi xs t ((i : Int) + 1))) (la xs).toNat < (la xs).toNat := by
    rcases Nat.lt_or_ge (fi (fun i => decide (m ≤ hi xs t ((i : Int) + 1))) (la xs).toNat) (la xs).toNat with a | a
    · exact a
    · have := of_decide_eq_false (fi_no (p := fun i : Nat => decide (m ≤ hi xs t ((i : Int) + 1))) (n := (la xs).toNat) (i := (d - 1).toNat) (by omega))
      rw [show (((d - 1).toNat : Nat) : Int) + 1 = d by omega] at this
      exact absurd h3 this
  rw [if_pos hlt]; omega
/-- where it is highest, the line is as high as that -/
theorem hi_be {xs : List Pth} (o : Ok xs) (t : Int) : hi xs t (be xs t (st xs t) : Int) = mo xs t (st xs t) := by
  rcases be_spec xs t (st xs t) with ⟨h1, h2⟩ | ⟨b1, b2, b3, b4, b5⟩
  · rw [h1, h2]; exact hi_0 o t
  · exact b4
end An
set_option maxHeartbeats 400000 in
theorem highLit_any (y m : Int) (b : Nat) (w : World) (h : w.cell? ⟨b, 0, none⟩ = some (.int .i64 m)) : Calls Tryz.prog 46 (#[.int .i64 y] ++ #[.pointer (some ⟨b, 0, none⟩)]) w fun e w' => e = .returned (.bool (decide (m ≤ y))) ∧ Below w.heap.size w w' := by
  go_enter Tryz.func46, Tryz.ntmps46
  go_wp2_with fail
  go_ret
  exact ⟨rfl, Below.refl _ _⟩
set_option maxHeartbeats 3200000 in
theorem highest_any (w : World) (tE tG : TypeId) (xE xG : Value) (a : Option Addr) (n cap : Nat) (xs : List Pth) (t : Int) (hS : Slide w tE tG xE xG a n cap xs t) :
    Calls Tryz.prog 23 #[.agg #[.iface tE xE, .iface tG xG, .slice a n cap]] w fun e w' => e = .returned (.int .i64 (An.be xs t (An.st xs t) : Int)) ∧ Below w.heap.size w w' := by
  have o := hS.ok
  have n2 := o.n2
  have n24 := o.n24
  obtain ⟨W1, hW1⟩ : ∃ W, W = w.alloc (.cells #[.iface tE xE, .iface tG xG, .slice a n cap] 52) := ⟨_, rfl⟩
  have HB : Hid (Below w.heap.size w W1) := Lib.hid (by rw [hW1]; exact (Below.refl _ _).alloc (Nat.le_refl _) _)
  have K1 : Whole W1 w.heap.size 52 #[.iface tE xE, .iface tG xG, .slice a n cap] := by rw [hW1]; exact Whole.new _ _ _
  have HK := Lib.hid K1
  have CS := Lib.hid (stop_any W1 tE tG xE xG a n cap xs t (hS.below HB.out))
  have HS := Lib.hid (fun W (hb : Below w.heap.size w W) => hS.below hb)
  have ESL := Lib.hid (An.es_len xs (xs.length - 1))
  have EAT := Lib.hid (fun k (h : k < (An.es xs (xs.length - 1)).length) => An.es_at h)
  have EB := Lib.hid (fun k (hk : k < xs.length) => An.ed_bd o hk)
  have HPM := Lib.hid (An.pm_eq o hS.t0)
  have HPN := Lib.hid (fun k => An.pm_nn xs t k)
  have HST := Lib.hid (An.st_le xs t)
  have HO := Lib.hid o
  have HT := Lib.hid hS.t0
  have HHB := Lib.hid (fun (d : Int) (h1 : 0 ≤ d) (h2 : d ≤ An.la xs) => An.hi_le o (t := t) hS.t0 h1 h2)
  have k0 := K1.at_ 0
  have k1 := K1.at_ 1
  have k2 := K1.at_ 2
  have hW1s : W1.heap.size = w.heap.size + 1 := by rw [hW1]; simp
  obtain ⟨bq, offq, capq, hn, hblq, hcq⟩ := hS.sl.atI (k := 0) (by rw [An.es_len]; omega)
  simp only [Value.slice.injEq] at hn
  obtain ⟨rfl, rfl, rfl⟩ := hn
  have HC : Hid (∀ bb : Bool, bb = decide (An.st xs t < (An.la xs).toNat) → ∀ k, k < xs.length → (bb = true → (An.ed xs k ≤ An.st xs t ↔ An.ed xs k < An.sV xs t)) ∧ (bb = false → An.ed xs k ≤ An.st xs t)) := Lib.hid (fun bb hbb k hk => by
    have e := An.ed_bd o hk
    have l := o.last
    have h := An.st_le xs t
    by_cases hs : An.st xs t < (An.la xs).toNat
    · obtain ⟨-, r2, -, -⟩ := An.sR_s hs
      rw [r2]
      exact ⟨fun _ => by omega, fun hf => (by rw [hbb, decide_eq_true hs] at hf; cases hf)⟩
    · exact ⟨fun hf => (by rw [hbb, decide_eq_false hs] at hf; cases hf), fun _ => by omega⟩)
  obtain ⟨bb, hbb⟩ : ∃ bb, bb = decide (An.st xs t < (An.la xs).toNat) := ⟨_, rfl⟩
  have HC := Lib.hid (HC.out bb hbb)
  rw [← hbb] at CS
  clear K1 hS o hblq hcq hbb
  generalize An.sV xs t = sv at *
  subst hW1
  go_enter Tryz.func23, Tryz.ntmps23
  go_wp2_with fail
  refine CS.out.mono ?_
  rintro e w1 ⟨rfl, b1⟩
  have B1 := Lib.hid (bt HB.out b1)
  have KS := Lib.hid (HK.out.all b1)
  have hsz : w.heap.size < w1.heap.size := by have := b1.size; omega
  obtain ⟨j0, j1, j2⟩ : w1.cell? ⟨w.heap.size, 0, none⟩ = some (.iface tE xE) ∧ w1.cell? ⟨w.heap.size, 1, none⟩ = some (.iface tG xG) ∧ w1.cell? ⟨w.heap.size, 2, none⟩ = some (.slice (some ⟨bq, offq, none⟩) (An.es xs (xs.length - 1)).length cap) := ⟨KS.out.at_ 0, KS.out.at_ 1, KS.out.at_ 2⟩
  clear b1 HK CS k0 k1 k2 hW1s
  have M0 := Lib.hid (Whole.new w1 2 #[.int .i64 0])
  have S0 := Lib.hid (KS.out.alloc (.cells #[.int .i64 0] 2))
  have B0 := Lib.hid (B1.out.alloc B1.out.size (.cells #[.int .i64 0] 2))
  go_wp2_with fail
  go_loopw [18] (fun i wr => ∃ k : Nat, k ≤ xs.length ∧ i = .int .i64 (k : Int) ∧ Hid (Whole wr w1.heap.size 2 #[.int .i64 (An.pm xs t k)]) ∧ Hid (Whole wr w.heap.size 52 #[.iface tE xE, .iface tG xG, .slice (some ⟨bq, offq, none⟩) (An.es xs (xs.length - 1)).length cap]) ∧ Hid (Below w.heap.size w wr)) (fun i _ => xs.length - (intOf i).toNat)
  case atStart => exact ⟨0, Nat.zero_le _, rfl, M0, S0, B0⟩
  case round =>
    obtain ⟨k, hk, rfl, hM, hSl, hb⟩ := hrel
    clear M0 S0 B0 j0 j1 j2
    have c0 := hSl.out.at_ 0
    have c1 := hSl.out.at_ 1
    have c2 := hSl.out.at_ 2
    have cm := hM.out.at_ 0
    have fm := hM.out.free 0
    by_cases hlt : k < xs.length
    · have hltz : (k : Int) < ((An.es xs (xs.length - 1)).length : Int) := by have := ESL.out; omega
      obtain ⟨bq2, offq2, capq2, hn, hblq, hcq⟩ := (HS.out wr hb.out).sl.atI (k := k) (by have := ESL.out; omega)
      simp only [Value.slice.injEq, Option.some.injEq, Addr.mk.injEq] at hn
      obtain ⟨⟨rfl, rfl, -⟩, -, rfl⟩ := hn
      have ck := hcq k (by have := ESL.out; omega)
      rw [EAT.out k (by have := ESL.out; omega)] at ck
      have e := EB.out k hlt
      have CA := Lib.hid (fun W (hW : Below wr.heap.size wr W) => (HS.out wr hb.out).ask W hW (An.ed xs k) (by omega) e.2.1)
      have EPM : Hid (An.pm xs t (k + 1) = if An.ed xs k ≤ An.st xs t then max (An.pm xs t k) (An.hi xs t (An.ed xs k)) else An.pm xs t k) := Lib.hid (An.pm_s xs t k)
      have HCk := Lib.hid (HC.out k hlt)
      have KW := Lib.hid (fun W (hW : Below wr.heap.size wr W) => (⟨(hSl.out.all hW).at_ 0, (hSl.out.all hW).at_ 1, (hSl.out.all hW).at_ 2, (hM.out.all hW).at_ 0, (hM.out.all hW).free 0⟩ : W.cell? ⟨w.heap.size, 0, none⟩ = some (.iface tE xE) ∧ W.cell? ⟨w.heap.size, 1, none⟩ = some (.iface tG xG) ∧ W.cell? ⟨w.heap.size, 2, none⟩ = some (.slice (some ⟨bq, offq, none⟩) (An.es xs (xs.length - 1)).length cap) ∧ W.cell? ⟨w1.heap.size, 0, none⟩ = some (.int .i64 (An.pm xs t k)) ∧ W.frozen? ⟨w1.heap.size, 0, none⟩ = false))
      have PUT := Lib.hid (fun W (hW : Below wr.heap.size wr W) (z : Int) => (⟨(hM.out.all hW).put 0 (.int .i64 z), (hSl.out.all hW).far (only_setCell (only_of_below (Below.refl W.heap.size W) (some w1.heap.size)) (p := ⟨w1.heap.size, 0, none⟩) rfl (.int .i64 z)) (by omega), below_only (bt hb.out hW) (only_setCell (only_of_below (Below.refl W.heap.size W) (some w1.heap.size)) (p := ⟨w1.heap.size, 0, none⟩) rfl (.int .i64 z)) (by omega) (bt hb.out hW).size⟩ : Whole (W.setCell ⟨w1.heap.size, 0, none⟩ (.int .i64 z)) w1.heap.size 2 _ ∧ Whole (W.setCell ⟨w1.heap.size, 0, none⟩ (.int .i64 z)) w.heap.size _ _ ∧ Below w.heap.size w (W.setCell ⟨w1.heap.size, 0, none⟩ (.int .i64 z))))
      have HPNk := HPN.out k
      have HPN1 := Lib.hid (HPN.out (k + 1))
      generalize An.hi xs t (An.ed xs k) = y at *
      generalize An.pm xs t k = pp at *
      cases bb with
      | true =>
        by_cases hlt2 : An.ed xs k < sv
        · have EPM2 : Hid (An.pm xs t (k + 1) = max pp y) := Lib.hid (by rw [EPM.out, if_pos ((HCk.out.1 rfl).2 hlt2)])
          clear EPM HCk HC e
          generalize An.ed xs k = ek at *
          go_wp2_with fail
          go_region_with (go_at_call 45; refine (CA.out _ (below_drewW _ 1)).mono ?_; rintro e wA ⟨rfl, bA⟩; have bA0 := bt (below_drewW _ 1) bA; obtain ⟨a0, a1, a2, a3, a4⟩ := KW.out wA bA0)
          all_goals (
            obtain ⟨P1, P2, P3⟩ := PUT.out wA bA0 (max pp y)
            have Q1 : Hid (Whole (wA.setCell ⟨w1.heap.size, 0, none⟩ (.int .i64 (max pp y))) w1.heap.size 2 #[.int .i64 (An.pm xs t (k + 1))]) := Lib.hid (by rw [EPM2.out]; simpa using P1)
            have Q2 := Lib.hid P2
            have Q3 := Lib.hid P3
            clear P1 P2 P3 bA0 bA a0 a1 a2 a3 a4 PUT KW CA EPM2
            generalize wA.setCell ⟨w1.heap.size, 0, none⟩ (.int .i64 (max pp y)) = W9 at *
            go_wp2_with fail
            exact ⟨⟨k + 1, by omega, by go_num, Q1, Q2, Q3⟩, by simp only [intOf]; omega⟩)
        · have EPM2 : Hid (An.pm xs t (k + 1) = pp) := Lib.hid (by rw [EPM.out, if_neg (fun h => hlt2 ((HCk.out.1 rfl).1 h))])
          clear EPM HCk HC e
          generalize An.ed xs k = ek at *
          go_wp2_with fail
          exact ⟨⟨k + 1, by omega, by go_num, Lib.hid (by rw [EPM2.out]; exact hM.out), hSl, hb⟩, by simp only [intOf]; omega⟩
      | false =>
        have EPM2 : Hid (An.pm xs t (k + 1) = max pp y) := Lib.hid (by rw [EPM.out, if_pos (HCk.out.2 rfl)])
        clear EPM HCk HC e
        generalize An.ed xs k = ek at *
        go_wp2_with fail
        go_region_with (go_at_call 45; refine (CA.out _ (below_drewW _ 1)).mono ?_; rintro e wA ⟨rfl, bA⟩; have bA0 := bt (below_drewW _ 1) bA; obtain ⟨a0, a1, a2, a3, a4⟩ := KW.out wA bA0)
        all_goals (
          obtain ⟨P1, P2, P3⟩ := PUT.out wA bA0 (max pp y)
          have Q1 : Hid (Whole (wA.setCell ⟨w1.heap.size, 0, none⟩ (.int .i64 (max pp y))) w1.heap.size 2 #[.int .i64 (An.pm xs t (k + 1))]) := Lib.hid (by rw [EPM2.out]; simpa using P1)
          have Q2 := Lib.hid P2
          have Q3 := Lib.hid P3
          clear P1 P2 P3 bA0 bA a0 a1 a2 a3 a4 PUT KW CA EPM2
          generalize wA.setCell ⟨w1.heap.size, 0, none⟩ (.int .i64 (max pp y)) = W9 at *
          go_wp2_with fail
          exact ⟨⟨k + 1, by omega, by go_num, Q1, Q2, Q3⟩, by simp only [intOf]; omega⟩)
    · have hltz : ¬ (k : Int) < ((An.es xs (xs.length - 1)).length : Int) := by have := ESL.out; omega
      have hkn : k = xs.length := by omega
      have HPMk : Hid (An.pm xs t k = An.mo xs t (An.st xs t)) := Lib.hid (by rw [hkn]; exact HPM.out)
      rw [HPMk.out] at cm
      have HMM : Hid (Whole wr w1.heap.size 2 #[.int .i64 (An.mo xs t (An.st xs t))]) := Lib.hid (by rw [← HPMk.out]; exact hM.out)
      have hnn := An.mo_nn xs t (An.st xs t)
      clear hM HPMk hkn HPM HPN
      by_cases h0 : An.mo xs t (An.st xs t) = 0
      · have EBE : Hid ((An.be xs t (An.st xs t) : Int) = 0) := Lib.hid (by
          have h1 := An.mo_st h0
          have h2 := An.be_le xs t (An.st xs t)
          omega)
        have h0b : (An.mo xs t (An.st xs t) == 0) = true := beq_iff_eq.2 h0
        clear h0
        generalize An.mo xs t (An.st xs t) = M at *
        go_wp2_with fail
        go_ret
        exact ⟨ret_int EBE.out.symm, hb.out⟩
      · have h0b : (An.mo xs t (An.st xs t) == 0) = false := beq_eq_false_iff_ne.2 h0
        have hm : 0 < An.mo xs t (An.st xs t) := by omega
        have CF := Lib.hid (firstWhere_any wr tE tG xE xG (some ⟨bq, offq, none⟩) _ cap xs t (HS.out wr hb.out) 46 #[.pointer (some ⟨w1.heap.size, 0, none⟩)] (enters_of Tryz.func46 (by kernel_rfl) rfl) (fun y => decide (An.mo xs t (An.st xs t) ≤ y)) (An.leg_hi HO.out HT.out) (fun W hW d _ _ => highLit_any _ _ w1.heap.size W ((HMM.out.all hW).at_ 0)))
        have EF : An.fwV xs (fun d => decide (An.mo xs t (An.st xs t) ≤ An.hi xs t d)) = (An.be xs t (An.st xs t) : Int) := An.fw_be HO.out rfl hm
        rw [EF] at CF
        clear EF h0 hm
        obtain ⟨be, hbe⟩ : ∃ be : Int, (An.be xs t (An.st xs t) : Int) = be := ⟨_, rfl⟩
        rw [hbe] at CF
        have HBE := Lib.hid hbe
        clear hbe
        generalize An.fwB xs (fun d => decide (An.mo xs t (An.st xs t) ≤ An.hi xs t d)) = fb at *
        generalize An.mo xs t (An.st xs t) = M at *
        go_wp2_with fail
        refine CF.out.mono ?_
        rintro e w3 ⟨rfl, b3⟩
        have B3 := Lib.hid (bt hb.out b3)
        clear b3
        go_wp2_with fail
        go_ret
        exact ⟨ret_int HBE.out.symm, B3.out⟩
end Go.Proofs.YtmieckchppfogaaGreatDoor
