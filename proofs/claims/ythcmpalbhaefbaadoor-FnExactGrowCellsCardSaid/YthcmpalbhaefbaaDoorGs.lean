/-
  The steepest slope down from a cell, by the model (chapter 9). No condition of its own.
-/
import Derived.Test.YthcmpalbhaefbaaDoorGf
namespace Go.Proofs.YthcmpalbhaefbaaDoor
open Go.RowKit Go.Shelf Go.Deep
set_option linter.unusedVariables false
set_option maxRecDepth 100000

namespace Gw
/-- does a direction lead down? -/
def dnB (r c : Int) (zs : List Int) (k a : Nat) : Bool := goB r c k a && decide (zs.getD (goC r c k a).toNat 0 < zs.getD k 0)
/-- the steepest of the first directions, and its slope; -1 if none leads down -/
def stp (r c s : Int) (zs : List Int) (k : Nat) : Nat → Int × Int
  | 0 => (-1, 0)
  | a + 1 => if dnB r c zs k a = true ∧ ((stp r c s zs k a).1 < 0 ∨ (stp r c s zs k a).2 < fall s zs k (goC r c k a).toNat a) then ((a : Int), fall s zs k (goC r c k a).toNat a) else stp r c s zs k a
theorem goC_lt {r c k : Int} {a : Nat} {n : Nat} (h : goB r c k a = true) (h1 : 1 ≤ c) (hn : (n : Int) = r * c) : 0 ≤ goC r c k a ∧ (goC r c k a).toNat < n := by
  have hd : goC r c k a = rwA c k a * c + clA c k a := by unfold goC; rw [if_pos h]
  unfold goB isAt at h
  rw [Bool.and_eq_true] at h
  obtain ⟨y1, y2⟩ := inB_iff.1 h.1
  obtain ⟨y3, y4⟩ := inB_iff.1 h.2
  have e1 := Int.mul_nonneg y1 (show 0 ≤ c by omega)
  have e2 := Int.mul_le_mul_of_nonneg_right y2 (show 0 ≤ c by omega)
  rw [Int.sub_mul, Int.one_mul] at e2
  omega
end Gw
set_option maxHeartbeats 12800000 in
theorem l09Steepest_any (w : World) (b : Nat) (r c s : Int) (v : Value) (zs : List Int) (k : Nat) (hc : GC w b r c s v) (hv : Sl w v zs) (G : Gw.Good r c s zs) (hk : k < zs.length) :
    Calls Tryd.prog 57 #[.pointer (some ⟨b, 0, none⟩), .int .i64 (k : Int)] w fun e w' => e = .returned (.tuple #[.int .i64 (Gw.stp r c s zs k 8).1, .int .i64 (Gw.stp r c s zs k 8).2]) ∧ Below w.heap.size w w' := by
  have hlen := G.len
  have GG := Lib.hid G
  have HC := Lib.hid hc
  have HVV := Lib.hid hv
  have hks : (k : Int) ≤ 63 := by omega
  have CG := Lib.hid (fun (a : Nat) (ha : a < 8) W (h : Below w.heap.size w W) => l09Go_any W b r c s k a v (HC.out.all h) GG.out.r1 GG.out.r2 GG.out.c1 GG.out.c2 (by omega) hks ha)
  clear hc hv G
  go_enter Tryd.func57, Tryd.ntmps57
  go_wp2
  go_loopw [6, 7, 8, 9, 10] (fun s6 s7 i _ _ wr => ∃ a : Nat, a ≤ 8 ∧ i = .int .i64 (a : Int) ∧ s6 = .int .i64 (Gw.stp r c s zs k a).1 ∧ s7 = .int .i64 (Gw.stp r c s zs k a).2 ∧ Hid (Below w.heap.size w wr)) (fun _ _ i _ _ _ => 8 - (intOf i).toNat)
  case atStart => exact ⟨0, by omega, rfl, rfl, rfl, Lib.hid (Below.refl _ _)⟩
  case round =>
    obtain ⟨a, ha, rfl, rfl, rfl, hb⟩ := hrel
    by_cases hlt : a < 8
    · have hltz : (a : Int) < 8 := by omega
      have C := Lib.hid (CG.out a hlt wr hb.out)
      cases hg : Gw.goB r c k a with
      | false =>
        have hn : Hid (Gw.stp r c s zs k (a + 1) = Gw.stp r c s zs k a) := Lib.hid (by rw [Gw.stp, if_neg (by unfold Gw.dnB; rw [hg]; simp)])
        rw [Gw.goC_neg hg] at C
        clear hg
        generalize hst : Gw.stp r c s zs k a = p at *
        replace hst := Lib.hid hst
        go_wp2_with fail
        refine C.out.mono ?_
        rintro e w2 ⟨rfl, b2⟩
        have B2 := Lib.hid (bt hb.out b2)
        obtain ⟨x0, x1, x2, x3⟩ := (HC.out.all B2.out).four
        have hbl0 := (HC.out.all B2.out).lt
        clear b2
        go_wp2_with fail
        go_quiet (fail)
        have BQ := Lib.hid (bt B2.out (below_drewW w2 nq))
        go_wp2_with fail
        exact ⟨⟨a + 1, by omega, by go_num, by rw [hn.out], by rw [hn.out], BQ⟩, by simp only [intOf]; omega⟩
      | true =>
        obtain ⟨z0, zl⟩ := Gw.goC_lt hg GG.out.c1 GG.out.n
        have CF := Lib.hid (fun W (h : Below w.heap.size w W) => l09Fall_any W b r c s v zs k (Gw.goC r c k a).toNat a (HC.out.all h) (HVV.out.below h) ((Gw.okHs_iff zs).2 GG.out.h) hk zl GG.out.s1 GG.out.s2 hlt)
        have hzn : ((Gw.goC r c k a).toNat : Int) = Gw.goC r c k a := Int.toNat_of_nonneg z0
        rw [← hzn] at C
        obtain ⟨b2, off, cap, rfl, -, -⟩ := HVV.out.atI hk
        have KA := Lib.hid (fun W (h : Below w.heap.size w W) => by
          obtain ⟨b3, off3, cap3, hn3, hb3, hc3⟩ := (HVV.out.below h).atI hk
          simp only [Value.slice.injEq, Option.some.injEq, Addr.mk.injEq] at hn3
          obtain ⟨⟨rfl, rfl, -⟩, -, -⟩ := hn3
          exact (⟨hc3 _ zl, hc3 k hk, hb3⟩ : W.cell? ⟨b2, off + (Gw.goC r c k a).toNat, none⟩ = some (.int .i64 zs[(Gw.goC r c k a).toNat]) ∧ W.cell? ⟨b2, off + k, none⟩ = some (.int .i64 zs[k]) ∧ b2 < W.heap.size))
        have kz : (k : Int) < (zs.length : Int) := by omega
        have nz : ((Gw.goC r c k a).toNat : Int) < (zs.length : Int) := by omega
        have n0 : decide (((Gw.goC r c k a).toNat : Int) < 0) = false := decide_eq_false (by omega)
        have hgd : zs.getD (Gw.goC r c k a).toNat 0 = zs[(Gw.goC r c k a).toNat] := by rw [List.getD_eq_getElem?_getD, List.getElem?_eq_getElem zl]; rfl
        have hgk : zs.getD k 0 = zs[k] := by rw [List.getD_eq_getElem?_getD, List.getElem?_eq_getElem hk]; rfl
        have hdn : Gw.dnB r c zs k a = decide (zs[(Gw.goC r c k a).toNat] < zs[k]) := by unfold Gw.dnB; rw [hg, hgd, hgk, Bool.true_and]
        have hst1 : Gw.stp r c s zs k (a + 1) = if Gw.dnB r c zs k a = true ∧ ((Gw.stp r c s zs k a).1 < 0 ∨ (Gw.stp r c s zs k a).2 < Gw.fall s zs k (Gw.goC r c k a).toNat a) then ((a : Int), Gw.fall s zs k (Gw.goC r c k a).toNat a) else Gw.stp r c s zs k a := rfl
        rw [hdn] at hst1
        clear hgd hgk hdn hg z0 hzn
        generalize zs[(Gw.goC r c k a).toNat] = zn at *
        generalize zs[k] = zk at *
        generalize Gw.fall s zs k (Gw.goC r c k a).toNat a = f at *
        generalize (Gw.goC r c k a).toNat = N at *
        generalize hst2 : Gw.stp r c s zs k (a + 1) = p2 at *
        replace hst2 := Lib.hid hst2
        generalize hst : Gw.stp r c s zs k a = p at *
        replace hst := Lib.hid hst
        clear zl
        by_cases hd : zn < zk
        · have hle : decide (zk ≤ zn) = false := decide_eq_false (by omega)
          have hdt : decide (zn < zk) = true := decide_eq_true hd
          rw [hdt] at hst1
          clear hd hdt
          obtain ⟨q1, q2⟩ := p
          by_cases h1 : q1 < 0
          · have hn : Hid (p2 = ((a : Int), f)) := Lib.hid (by rw [hst1, if_pos ⟨rfl, Or.inl h1⟩])
            clear hst1
            go_wp2_with fail
            refine C.out.mono ?_
            rintro e w2 ⟨rfl, b2⟩
            have B2 := Lib.hid (bt hb.out b2)
            obtain ⟨x0, x1, x2, x3⟩ := (HC.out.all B2.out).four
            have hbl0 := (HC.out.all B2.out).lt
            obtain ⟨c1, c2, hbl⟩ := KA.out w2 B2.out
            clear b2
            go_wp2_with fail
            go_quiet (fail)
            have BQ := Lib.hid (bt B2.out (below_drewW w2 nq))
            go_wp2_with fail
            refine (CF.out _ BQ.out).mono ?_
            rintro e w3 ⟨rfl, b3⟩
            have B3 := Lib.hid (bt BQ.out b3)
            clear b3
            go_wp2_with fail
            exact ⟨⟨a + 1, by omega, by go_num, by rw [hst2.out, hn.out], by rw [hst2.out, hn.out], B3⟩, by simp only [intOf]; omega⟩
          · by_cases h2 : q2 < f
            · have hn : Hid (p2 = ((a : Int), f)) := Lib.hid (by rw [hst1, if_pos ⟨rfl, Or.inr h2⟩])
              clear hst1
              go_wp2_with fail
              refine C.out.mono ?_
              rintro e w2 ⟨rfl, b2⟩
              have B2 := Lib.hid (bt hb.out b2)
              obtain ⟨x0, x1, x2, x3⟩ := (HC.out.all B2.out).four
              have hbl0 := (HC.out.all B2.out).lt
              obtain ⟨c1, c2, hbl⟩ := KA.out w2 B2.out
              clear b2
              go_wp2_with fail
              go_quiet (fail)
              have BQ := Lib.hid (bt B2.out (below_drewW w2 nq))
              go_wp2_with fail
              refine (CF.out _ BQ.out).mono ?_
              rintro e w3 ⟨rfl, b3⟩
              have B3 := Lib.hid (bt BQ.out b3)
              clear b3
              go_wp2_with fail
              exact ⟨⟨a + 1, by omega, by go_num, by rw [hst2.out, hn.out], by rw [hst2.out, hn.out], B3⟩, by simp only [intOf]; omega⟩
            · have hn : Hid (p2 = (q1, q2)) := Lib.hid (by rw [hst1, if_neg (by intro hh; rcases hh.2 with hh | hh; exact h1 hh; exact h2 hh)])
              clear hst1
              go_wp2_with fail
              refine C.out.mono ?_
              rintro e w2 ⟨rfl, b2⟩
              have B2 := Lib.hid (bt hb.out b2)
              obtain ⟨x0, x1, x2, x3⟩ := (HC.out.all B2.out).four
              have hbl0 := (HC.out.all B2.out).lt
              obtain ⟨c1, c2, hbl⟩ := KA.out w2 B2.out
              clear b2
              go_wp2_with fail
              go_quiet (fail)
              have BQ := Lib.hid (bt B2.out (below_drewW w2 nq))
              go_wp2_with fail
              refine (CF.out _ BQ.out).mono ?_
              rintro e w3 ⟨rfl, b3⟩
              have B3 := Lib.hid (bt BQ.out b3)
              clear b3
              go_wp2_with fail
              exact ⟨⟨a + 1, by omega, by go_num, by rw [hst2.out, hn.out], by rw [hst2.out, hn.out], B3⟩, by simp only [intOf]; omega⟩
        · have hle : decide (zk ≤ zn) = true := decide_eq_true (by omega)
          have hn : Hid (p2 = p) := Lib.hid (by rw [hst1, if_neg (by intro hh; exact hd (by simpa using hh.1))])
          clear hst1 hd
          go_wp2_with fail
          refine C.out.mono ?_
          rintro e w2 ⟨rfl, b2⟩
          have B2 := Lib.hid (bt hb.out b2)
          obtain ⟨x0, x1, x2, x3⟩ := (HC.out.all B2.out).four
          have hbl0 := (HC.out.all B2.out).lt
          obtain ⟨c1, c2, hbl⟩ := KA.out w2 B2.out
          clear b2
          go_wp2_with fail
          go_quiet (fail)
          have BQ := Lib.hid (bt B2.out (below_drewW w2 nq))
          go_wp2_with fail
          exact ⟨⟨a + 1, by omega, by go_num, by rw [hst2.out, hn.out], by rw [hst2.out, hn.out], BQ⟩, by simp only [intOf]; omega⟩
    · have hltz : ¬ (a : Int) < 8 := by omega
      have ha8 : a = 8 := by omega
      subst ha8
      go_wp2
      go_ret2
      exact ⟨rfl, hb.out⟩
end Go.Proofs.YthcmpalbhaefbaaDoor
