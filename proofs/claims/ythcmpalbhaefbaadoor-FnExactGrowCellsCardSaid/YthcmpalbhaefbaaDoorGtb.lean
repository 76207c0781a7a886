/-
  The cell in a direction from a cell of a grid (chapter 9), by the model. No condition of its own.
-/
import Derived.Test.YthcmpalbhaefbaaDoorGt
import Derived.Deep.RegionWith
namespace Go.Proofs.YthcmpalbhaefbaaDoor
open Go.RowKit Go.Shelf Go.Deep
set_option linter.unusedVariables false
set_option maxRecDepth 100000

set_option maxHeartbeats 12800000 in
theorem l09Go_any (w : World) (b : Nat) (r c s k : Int) (a : Nat) (v : Value) (hc : GC w b r c s v) (r1 : 1 ≤ r) (r2 : r ≤ 8) (c1 : 1 ≤ c) (c2 : c ≤ 8) (k1 : 0 ≤ k) (k2 : k ≤ 63) (ha : a < 8) :
    Calls Tryd.prog 60 #[.pointer (some ⟨b, 0, none⟩), .int .i64 k, .int .i64 (a : Int)] w fun e w' => e = .returned (.int .i64 (Gw.goC r c k a)) ∧ Below w.heap.size w w' := by
  obtain ⟨p1, p2, p3, p4⟩ := Gw.place_bd c1 c2 k1 k2
  obtain ⟨d1, d2⟩ := Gw.drs_bd a
  obtain ⟨d3, d4⟩ := Gw.dcs_bd a
  have K0 := Lib.hid (fun W (h : Below w.heap.size w W) => (hc.all h).four)
  obtain ⟨x0, x1, -, -⟩ := hc.four
  have hlt := hc.lt
  have ht1 : k.tdiv c = k / c := Int.tdiv_eq_ediv_of_nonneg k1
  have ht2 : k.tmod c = k % c := Int.tmod_eq_emod_of_nonneg k1
  have hcz : ¬ c = 0 := by omega
  have hcb : (c == 0) = false := beq_eq_false_iff_ne.2 hcz
  have haz : (a : Int) < 8 := by omega
  have HA := Lib.hid ha
  have hq1 : IntKind.i64.wrap (k / c) = k / c := IntWalk.i64_in _ ⟨by omega, by omega⟩
  have hq2 : IntKind.i64.wrap (k % c) = k % c := IntWalk.i64_in _ ⟨by omega, by omega⟩
  have hw1 : IntKind.i64.wrap (k / c + Gw.drs.getD a 0) = Gw.rwA c k a := IntWalk.i64_in _ ⟨by omega, by omega⟩
  have hw2 : IntKind.i64.wrap (k % c + Gw.dcs.getD a 0) = Gw.clA c k a := IntWalk.i64_in _ ⟨by omega, by omega⟩
  have hr1 : wrap64 (r - 1) = r - 1 := IntWalk.wrap64_in _ ⟨by omega, by omega⟩
  have hr2 : wrap64 (c - 1) = c - 1 := IntWalk.wrap64_in _ ⟨by omega, by omega⟩
  have CR := Lib.hid (fun W => l09Rows_any W)
  have CC := Lib.hid (fun W => l09Columns_any W)
  have CA := Lib.hid (fun W => l00In_any (Gw.rwA c k a) 0 (r - 1) W)
  have CB := Lib.hid (fun W => l00In_any (Gw.clA c k a) 0 (c - 1) W)
  have RB := Lib.hid (And.intro (And.intro r1 r2) (And.intro c1 c2))
  have hdef : Gw.goC r c k a = if (Ar.inB 0 (Gw.rwA c k a) (r - 1) && Ar.inB 0 (Gw.clA c k a) (c - 1)) = true then Gw.rwA c k a * c + Gw.clA c k a else -1 := rfl
  rw [hdef]
  clear hc hdef p1 p2 p3 p4 d1 d2 d3 d4 r1 r2 c1 c2 k1 k2 ha
  generalize hga : Gw.drs.getD a 0 = da at *
  generalize hgb : Gw.dcs.getD a 0 = db at *
  generalize hya : Gw.rwA c k a = ya at *
  generalize hyb : Gw.clA c k a = yb at *
  have HGA := Lib.hid hga
  have HGB := Lib.hid hgb
  clear hga hgb hya hyb
  cases h1 : Ar.inB 0 ya (r - 1) with
  | false =>
    rw [Bool.false_and, if_neg (by simp)]
    rw [h1] at CA
    clear h1
    go_enter Tryd.func60, Tryd.ntmps60
    go_wp2_with fail
    go_region_with (go_at_call 107; refine (CR.out _).mono ?_; rintro e wA ⟨g, rfl, hg, bA⟩; have bA0 := bt (below_drewW w 1) bA; obtain ⟨z0, z1, -, -⟩ := K0.out wA bA0; have ya0 := hg a HA.out; rw [HGA.out] at ya0; have hgl := World.block_lt_of_cell? wA _ ya0)
    all_goals (
      have B1 := Lib.hid bA0
      have K1 := Lib.hid (fun W (h : Below wA.heap.size wA W) => K0.out W (bt B1.out h))
      have hltA := World.block_lt_of_cell? wA _ z0
      clear hg bA bA0 x0 x1 ya0 hgl
      go_wp2_with fail
      go_region_with (go_at_call 108; refine (CC.out _).mono ?_; rintro e wB ⟨g2, rfl, hg2, bB⟩; have bB0 := bt (below_drewW wA 1) bB; obtain ⟨q0, q1, -, -⟩ := K1.out wB bB0; have yb0 := hg2 a HA.out; rw [HGB.out] at yb0; have hgl2 := World.block_lt_of_cell? wB _ yb0)
      all_goals (
        have B2 := Lib.hid (bt B1.out bB0)
        have hltB := World.block_lt_of_cell? wB _ q0
        clear hg2 bB bB0 yb0 hgl2 z0 z1
        go_wp2_with fail
        refine (CA.out _).mono ?_
        rintro e w' ⟨rfl, rfl⟩
        go_wp2_with fail
        go_ret
        exact ⟨rfl, B2.out⟩))
  | true =>
    cases h2 : Ar.inB 0 yb (c - 1) with
    | false =>
      rw [Bool.and_false, if_neg (by simp)]
      rw [h1] at CA
      rw [h2] at CB
      clear h1 h2
      go_enter Tryd.func60, Tryd.ntmps60
      go_wp2_with fail
      go_region_with (go_at_call 107; refine (CR.out _).mono ?_; rintro e wA ⟨g, rfl, hg, bA⟩; have bA0 := bt (below_drewW w 1) bA; obtain ⟨z0, z1, -, -⟩ := K0.out wA bA0; have ya0 := hg a HA.out; rw [HGA.out] at ya0; have hgl := World.block_lt_of_cell? wA _ ya0)
      all_goals (
        have B1 := Lib.hid bA0
        have K1 := Lib.hid (fun W (h : Below wA.heap.size wA W) => K0.out W (bt B1.out h))
        have hltA := World.block_lt_of_cell? wA _ z0
        clear hg bA bA0 x0 x1 ya0 hgl
        go_wp2_with fail
        go_region_with (go_at_call 108; refine (CC.out _).mono ?_; rintro e wB ⟨g2, rfl, hg2, bB⟩; have bB0 := bt (below_drewW wA 1) bB; obtain ⟨q0, q1, -, -⟩ := K1.out wB bB0; have yb0 := hg2 a HA.out; rw [HGB.out] at yb0; have hgl2 := World.block_lt_of_cell? wB _ yb0)
        all_goals (
          have B2 := Lib.hid (bt B1.out bB0)
          have hltB := World.block_lt_of_cell? wB _ q0
          clear hg2 bB bB0 yb0 hgl2 z0 z1
          go_wp2_with fail
          refine (CA.out _).mono ?_
          rintro e w' ⟨rfl, rfl⟩
          go_wp2_with fail
          refine (CB.out _).mono ?_
          rintro e w' ⟨rfl, rfl⟩
          go_wp2_with fail
          go_ret
          exact ⟨rfl, B2.out⟩))
    | true =>
      rw [Bool.and_self, if_pos rfl]
      have hm : wrap64 (ya * c) = ya * c ∧ wrap64 (ya * c + yb) = ya * c + yb := by
        obtain ⟨y1, y2⟩ := Gw.inB_iff.1 h1
        obtain ⟨y3, y4⟩ := Gw.inB_iff.1 h2
        have RR := RB.out
        obtain ⟨e1, e2, e3, e4⟩ := Gw.cell_bd (c := c) (a := ya) (b := yb) y1 (by omega) y3 (by omega) (by omega) (by omega)
        exact ⟨IntWalk.wrap64_in _ ⟨by omega, by omega⟩, IntWalk.wrap64_in _ ⟨by omega, by omega⟩⟩
      obtain ⟨hm1, hm2⟩ := hm
      rw [h1] at CA
      rw [h2] at CB
      clear h1 h2
      go_enter Tryd.func60, Tryd.ntmps60
      go_wp2_with fail
      go_region_with (go_at_call 107; refine (CR.out _).mono ?_; rintro e wA ⟨g, rfl, hg, bA⟩; have bA0 := bt (below_drewW w 1) bA; obtain ⟨z0, z1, -, -⟩ := K0.out wA bA0; have ya0 := hg a HA.out; rw [HGA.out] at ya0; have hgl := World.block_lt_of_cell? wA _ ya0)
      all_goals (
        have B1 := Lib.hid bA0
        have K1 := Lib.hid (fun W (h : Below wA.heap.size wA W) => K0.out W (bt B1.out h))
        have hltA := World.block_lt_of_cell? wA _ z0
        clear hg bA bA0 x0 x1 ya0 hgl
        go_wp2_with fail
        go_region_with (go_at_call 108; refine (CC.out _).mono ?_; rintro e wB ⟨g2, rfl, hg2, bB⟩; have bB0 := bt (below_drewW wA 1) bB; obtain ⟨q0, q1, -, -⟩ := K1.out wB bB0; have yb0 := hg2 a HA.out; rw [HGB.out] at yb0; have hgl2 := World.block_lt_of_cell? wB _ yb0)
        all_goals (
          have B2 := Lib.hid (bt B1.out bB0)
          have hltB := World.block_lt_of_cell? wB _ q0
          clear hg2 bB bB0 yb0 hgl2 z0 z1
          go_wp2_with fail
          refine (CA.out _).mono ?_
          rintro e w' ⟨rfl, rfl⟩
          go_wp2_with fail
          refine (CB.out _).mono ?_
          rintro e w' ⟨rfl, rfl⟩
          go_wp2_with fail
          go_ret
          exact ⟨ret_int hm2, B2.out⟩))
end Go.Proofs.YthcmpalbhaefbaaDoor
