/-
  The direction of the steepest slope, by the model (chapter 9). No condition of its own.
-/
import Derived.Test.YtobcflcmlejajabDoorGs
namespace Go.Proofs.YtobcflcmlejajabDoor
open Go.RowKit Go.Shelf Go.Deep
set_option linter.unusedVariables false
set_option maxRecDepth 100000

namespace Gw
theorem isCell_lt {r c k : Int} {n : Nat} (h : isCell r c k = true) (hn : (n : Int) = r * c) : k.toNat < n := by
  unfold isCell at h
  obtain ⟨h1, h2⟩ := inB_iff.1 h
  omega
/-- what AspectOf answers -/
def asR (r c s : Int) (zs : List Int) (k : Int) : Int × Int := if ok r c s zs = true then (if isCell r c k = true then (if (stp r c s zs k.toNat 8).1 < 0 then (0, 3) else ((stp r c s zs k.toNat 8).1, 0)) else (0, 2)) else (0, 1)
theorem as_bad {r c s : Int} {zs : List Int} {k : Int} (h : ok r c s zs = false) : asR r c s zs k = (0, 1) := by unfold asR; rw [h]; rfl
theorem as_out {r c s : Int} {zs : List Int} {k : Int} (h : ok r c s zs = true) (hi : isCell r c k = false) : asR r c s zs k = (0, 2) := by unfold asR; rw [h, hi]; rfl
theorem as_none {r c s : Int} {zs : List Int} {k : Int} (h : ok r c s zs = true) (hi : isCell r c k = true) (hm : (stp r c s zs k.toNat 8).1 < 0) : asR r c s zs k = (0, 3) := by unfold asR; rw [h, hi, if_pos rfl, if_pos rfl, if_pos hm]
theorem as_yes {r c s : Int} {zs : List Int} {k : Int} (h : ok r c s zs = true) (hi : isCell r c k = true) (hm : ¬ (stp r c s zs k.toNat 8).1 < 0) : asR r c s zs k = ((stp r c s zs k.toNat 8).1, 0) := by unfold asR; rw [h, hi, if_pos rfl, if_pos rfl, if_neg hm]
end Gw
set_option maxHeartbeats 1600000 in
theorem specAspectOf_any (w : World) (r c s : Int) (v : Value) (zs : List Int) (k : Int) (hv : Sl w v zs) (hl : zs.length ≤ 1048576) :
    Calls Tryd.prog 30 #[.agg #[.int .i64 r, .int .i64 c, .int .i64 s, v], .int .i64 k] w fun e w' => e = .returned (.tuple #[.int .i64 (Gw.asR r c s zs k).1, .int .i64 (Gw.asR r c s zs k).2]) ∧ Below w.heap.size w w' := by
  have C := Lib.hid (l09Ask_any (boxG w r c s v 28) w.heap.size r c s k v zs (boxG_cells w r c s v 28) (hv.below (boxG_below w r c s v 28)) hl)
  have HB := Lib.hid (boxG_below w r c s v 28)
  have HK := Lib.hid (fun W (h : Below (boxG w r c s v 28).heap.size (boxG w r c s v 28) W) => (boxG_kept h : GC W w.heap.size r c s v))
  have HVV := Lib.hid hv
  unfold Gw.askC at C
  clear hv
  cases hq : Gw.ok r c s zs with
  | false =>
    rw [hq, Cd.cd_f] at C
    have E := Lib.hid (Gw.as_bad (k := k) hq)
    clear hq
    go_enter Tryd.func30, Tryd.ntmps30
    go_wp2_with fail
    refine C.out.mono ?_
    rintro e w1 ⟨rfl, b1⟩
    have B1 := Lib.hid (bt HB.out b1)
    have N1 := Lib.hid b1
    clear b1
    go_wp2_with fail
    exact bodyPost_ret (v := .tuple #[.int .i64 0, .int .i64 1]) (by simp [results, Tryd.results30, go_sem]) rfl ⟨by rw [E.out], B1.out⟩
  | true =>
    cases hi : Gw.isCell r c k with
    | false =>
      rw [hq, hi, Cd.cd_tf] at C
      have E := Lib.hid (Gw.as_out hq hi)
      clear hq hi
      go_enter Tryd.func30, Tryd.ntmps30
      go_wp2_with fail
      refine C.out.mono ?_
      rintro e w1 ⟨rfl, b1⟩
      have B1 := Lib.hid (bt HB.out b1)
      have N1 := Lib.hid b1
      clear b1
      go_wp2_with fail
      exact bodyPost_ret (v := .tuple #[.int .i64 0, .int .i64 2]) (by simp [results, Tryd.results30, go_sem]) rfl ⟨by rw [E.out], B1.out⟩
    | true =>
      have G := Lib.hid ((Gw.ok_iff _ _ _ _).1 hq)
      obtain ⟨k1, k2⟩ := Gw.isCell_bd hi G.out.r1 G.out.r2 G.out.c1 G.out.c2
      have hkl : k.toNat < zs.length := Gw.isCell_lt hi G.out.n
      have hkn : ((k.toNat : Nat) : Int) = k := Int.toNat_of_nonneg k1
      have CS := Lib.hid (fun W (h : Below (boxG w r c s v 28).heap.size (boxG w r c s v 28) W) => l09Steepest_any W w.heap.size r c s v zs k.toNat (HK.out W h) (HVV.out.below (bt HB.out h)) G.out hkl)
      rw [hkn] at CS
      rw [hq, hi, Cd.cd_t] at C
      by_cases hm : (Gw.stp r c s zs k.toNat 8).1 < 0
      · have E := Lib.hid (Gw.as_none hq hi hm)
        clear hq hi hkn hkl
        generalize Gw.stp r c s zs k.toNat 8 = p at *
        go_enter Tryd.func30, Tryd.ntmps30
        go_wp2_with fail
        refine C.out.mono ?_
        rintro e w1 ⟨rfl, b1⟩
        have B1 := Lib.hid (bt HB.out b1)
        have N1 := Lib.hid b1
        clear b1
        go_wp2_with fail
        refine (CS.out _ N1.out).mono ?_
        rintro e w2 ⟨rfl, b2⟩
        have B2 := Lib.hid (bt B1.out b2)
        have N2 := Lib.hid (bt N1.out b2)
        clear b2
        go_wp2_with fail
        exact bodyPost_ret (v := .tuple #[.int .i64 0, .int .i64 3]) (by simp [results, Tryd.results30, go_sem]) rfl ⟨by rw [E.out], B2.out⟩
      · have E := Lib.hid (Gw.as_yes hq hi hm)
        clear hq hi hkn hkl
        generalize Gw.stp r c s zs k.toNat 8 = p at *
        go_enter Tryd.func30, Tryd.ntmps30
        go_wp2_with fail
        refine C.out.mono ?_
        rintro e w1 ⟨rfl, b1⟩
        have B1 := Lib.hid (bt HB.out b1)
        have N1 := Lib.hid b1
        clear b1
        go_wp2_with fail
        refine (CS.out _ N1.out).mono ?_
        rintro e w2 ⟨rfl, b2⟩
        have B2 := Lib.hid (bt B1.out b2)
        have N2 := Lib.hid (bt N1.out b2)
        clear b2
        go_wp2_with fail
        exact bodyPost_ret (v := .tuple #[.int .i64 p.1, .int .i64 0]) (by simp [results, Tryd.results30, go_sem]) rfl ⟨by rw [E.out], B2.out⟩
end Go.Proofs.YtobcflcmlejajabDoor
