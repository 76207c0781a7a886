/-
  The steepest slope, where it leads and its direction, by the program; the steepest slope by the model. The conditions: the table of ways as it is laid (the program).
-/
import Derived.Test.YtobcflcmlejajabDoorTrK
namespace Go.Proofs.YtobcflcmlejajabDoor
open Go.RowKit Go.Shelf Go.Deep
set_option linter.unusedVariables false
set_option maxRecDepth 100000
def dO : Option Nat → Int
  | none => 0
  | some a => a
def rO (c : Int) (k : Nat) : Option Nat → Int
  | none => 0
  | some a => Gw.rwA c k a
def cO (c : Int) (k : Nat) : Option Nat → Int
  | none => 0
  | some a => Gw.clA c k a
theorem stC_eq (r c s : Int) (zs : List Int) (k : Nat) (o : Option Nat) : stC r c s zs k o = #[.int .i64 (dO o), .int .i64 (rO c k o), .int .i64 (cO c k o), .int .i64 (dnO r c zs k o), .int .i64 (Gw.slO r c s zs k o)] := by
  cases o <;> rfl
theorem as_eq (r c s : Int) (zs : List Int) (k : Int) : Gw.asR r c s zs k = (dO (Gw.sdO r c s zs k), Gw.sdE r c s zs k) := by
  cases hq : Gw.ok r c s zs with
  | false => rw [Gw.as_bad hq, (Gw.sd_bad hq).1, (Gw.sd_bad hq).2]; rfl
  | true =>
    cases hi : Gw.isCell r c k with
    | false => rw [Gw.as_out hq hi, (Gw.sd_out hq hi).1, (Gw.sd_out hq hi).2]; rfl
    | true =>
      have G := (Gw.ok_iff _ _ _ _).1 hq
      rw [(Gw.sd_in hq hi).1, (Gw.sd_in hq hi).2]
      rcases Gw.best_upto (r := r) (c := c) (zs := zs) G.s1 G.s2 k.toNat 8 with ⟨h1, h2⟩ | ⟨i, h1, h2, h3, h4⟩
      · rw [Gw.as_none hq hi (by rw [h2]; show (-1 : Int) < 0; omega), h1, h2]; rfl
      · have hn : ¬ (Gw.stp r c s zs k.toNat 8).1 < 0 := by rw [h3]; simp only; omega
        rw [Gw.as_yes hq hi hn, if_neg hn, h1, h3]; rfl
namespace Gw
/-- what SteepestOf answers -/
def spR (r c s : Int) (zs : List Int) (k : Int) : Int × Int × Int := if ok r c s zs = true then (if isCell r c k = true then (if (stp r c s zs k.toNat 8).1 < 0 then (0, 0, 3) else ((stp r c s zs k.toNat 8).2, goC r c k (stp r c s zs k.toNat 8).1.toNat, 0)) else (0, 0, 2)) else (0, 0, 1)
theorem sp_bad {r c s : Int} {zs : List Int} {k : Int} (h : ok r c s zs = false) : spR r c s zs k = (0, 0, 1) := by unfold spR; rw [h]; rfl
theorem sp_out {r c s : Int} {zs : List Int} {k : Int} (h : ok r c s zs = true) (hi : isCell r c k = false) : spR r c s zs k = (0, 0, 2) := by unfold spR; rw [h, hi]; rfl
theorem sp_none {r c s : Int} {zs : List Int} {k : Int} (h : ok r c s zs = true) (hi : isCell r c k = true) (hm : (stp r c s zs k.toNat 8).1 < 0) : spR r c s zs k = (0, 0, 3) := by unfold spR; rw [h, hi, if_pos rfl, if_pos rfl, if_pos hm]
theorem sp_yes {r c s : Int} {zs : List Int} {k : Int} (h : ok r c s zs = true) (hi : isCell r c k = true) (hm : ¬ (stp r c s zs k.toNat 8).1 < 0) : spR r c s zs k = ((stp r c s zs k.toNat 8).2, goC r c k (stp r c s zs k.toNat 8).1.toNat, 0) := by unfold spR; rw [h, hi, if_pos rfl, if_pos rfl, if_neg hm]
end Gw
set_option maxHeartbeats 1600000 in
theorem implAspectOf_any (w : World) (r c s : Int) (v : Value) (zs : List Int) (k : Int) (ho : IAt w v zs) (hl : zs.length ≤ 1048576) (hA : AspAt w) :
    Calls Tryd.prog 31 #[.agg #[.int .i64 r, .int .i64 c, .int .i64 s, v], .int .i64 k] w fun e w' => e = .returned (.tuple #[.int .i64 (Gw.asR r c s zs k).1, .int .i64 (Gw.asR r c s zs k).2]) ∧ Below w.heap.size w w' := by
  have HB := Lib.hid (boxG_below w r c s v 28)
  have C := Lib.hid (steepestDown_any (boxG w r c s v 28) r c s v zs k (ho.all HB.out) hl (hA.below HB.out))
  rw [stC_eq] at C
  rw [as_eq]
  clear ho hA
  generalize Gw.sdO r c s zs k = o at *
  generalize Gw.sdE r c s zs k = e0 at *
  generalize dO o = x0 at *
  generalize rO c k.toNat o = x1 at *
  generalize cO c k.toNat o = x2 at *
  generalize dnO r c zs k.toNat o = x3 at *
  generalize Gw.slO r c s zs k.toNat o = x4 at *
  unfold boxG at C
  go_enter Tryd.func31, Tryd.ntmps31
  go_wp2_with fail
  refine C.out.mono ?_
  rintro e w1 ⟨rfl, b1⟩
  have B1 := Lib.hid (bt HB.out b1)
  have BA := Lib.hid (B1.out.alloc B1.out.size (.cells #[.int .i64 x0, .int .i64 x1, .int .i64 x2, .int .i64 x3, .int .i64 x4] 61))
  clear b1
  go_wp2_with fail
  exact bodyPost_ret (v := .tuple #[.int .i64 x0, .int .i64 e0]) (by simp [results, Tryd.results31, go_sem]) rfl ⟨rfl, BA.out⟩
set_option maxHeartbeats 1600000 in
theorem specSteepestOf_any (w : World) (r c s : Int) (v : Value) (zs : List Int) (k : Int) (hv : Sl w v zs) (hl : zs.length ≤ 1048576) :
    Calls Tryd.prog 28 #[.agg #[.int .i64 r, .int .i64 c, .int .i64 s, v], .int .i64 k] w fun e w' => e = .returned (.tuple #[.int .i64 (Gw.spR r c s zs k).1, .int .i64 (Gw.spR r c s zs k).2.1, .int .i64 (Gw.spR r c s zs k).2.2]) ∧ Below w.heap.size w w' := by
  have C := Lib.hid (l09Ask_any (boxG w r c s v 28) w.heap.size r c s k v zs (boxG_cells w r c s v 28) (hv.below (boxG_below w r c s v 28)) hl)
  have HB := Lib.hid (boxG_below w r c s v 28)
  have HK := Lib.hid (fun W (h : Below (boxG w r c s v 28).heap.size (boxG w r c s v 28) W) => (boxG_kept h : GC W w.heap.size r c s v))
  have HVV := Lib.hid hv
  unfold Gw.askC at C
  clear hv
  cases hq : Gw.ok r c s zs with
  | false =>
    rw [hq, Cd.cd_f] at C
    have E := Lib.hid (Gw.sp_bad (k := k) hq)
    clear hq
    go_enter Tryd.func28, Tryd.ntmps28
    go_wp2_with fail
    refine C.out.mono ?_
    rintro e w1 ⟨rfl, b1⟩
    have B1 := Lib.hid (bt HB.out b1)
    clear b1
    go_wp2_with fail
    exact bodyPost_ret (v := .tuple #[.int .i64 0, .int .i64 0, .int .i64 1]) (by simp [results, Tryd.results28, go_sem]) rfl ⟨by rw [E.out], B1.out⟩
  | true =>
    cases hi : Gw.isCell r c k with
    | false =>
      rw [hq, hi, Cd.cd_tf] at C
      have E := Lib.hid (Gw.sp_out hq hi)
      clear hq hi
      go_enter Tryd.func28, Tryd.ntmps28
      go_wp2_with fail
      refine C.out.mono ?_
      rintro e w1 ⟨rfl, b1⟩
      have B1 := Lib.hid (bt HB.out b1)
      clear b1
      go_wp2_with fail
      exact bodyPost_ret (v := .tuple #[.int .i64 0, .int .i64 0, .int .i64 2]) (by simp [results, Tryd.results28, go_sem]) rfl ⟨by rw [E.out], B1.out⟩
    | true =>
      have G := Lib.hid ((Gw.ok_iff _ _ _ _).1 hq)
      obtain ⟨k1, k2⟩ := Gw.isCell_bd hi G.out.r1 G.out.r2 G.out.c1 G.out.c2
      have hkl : k.toNat < zs.length := Gw.isCell_lt hi G.out.n
      have hkn : ((k.toNat : Nat) : Int) = k := Int.toNat_of_nonneg k1
      have CS := Lib.hid (fun W (h : Below (boxG w r c s v 28).heap.size (boxG w r c s v 28) W) => l09Steepest_any W w.heap.size r c s v zs k.toNat (HK.out W h) (HVV.out.below (bt HB.out h)) G.out hkl)
      have CG := Lib.hid (fun W (a : Nat) (ha : a < 8) (h : Below (boxG w r c s v 28).heap.size (boxG w r c s v 28) W) => l09Go_any W w.heap.size r c s k a v (HK.out W h) G.out.r1 G.out.r2 G.out.c1 G.out.c2 k1 k2 ha)
      rw [hkn] at CS
      rw [hq, hi, Cd.cd_t] at C
      rcases Gw.best_upto (r := r) (c := c) (zs := zs) G.out.s1 G.out.s2 k.toNat 8 with ⟨h1, h2⟩ | ⟨i, h1, h2, h3, h4⟩
      · have E := Lib.hid (Gw.sp_none hq hi (by rw [h2]; show (-1 : Int) < 0; omega))
        rw [h2] at CS
        clear hq hi hkn hkl h1 h2
        go_enter Tryd.func28, Tryd.ntmps28
        go_wp2_with fail
        refine C.out.mono ?_
        rintro e w1 ⟨rfl, b1⟩
        have B1 := Lib.hid (bt HB.out b1)
        have N1 := Lib.hid b1
        clear b1
        go_wp2_with fail
        refine (CS.out _ N1.out).mono ?_
        rintro e w2 ⟨rfl, b2⟩
        have B2 := Lib.hid (bt B1.out b2)
        clear b2
        go_wp2_with fail
        exact bodyPost_ret (v := .tuple #[.int .i64 0, .int .i64 0, .int .i64 3]) (by simp [results, Tryd.results28, go_sem]) rfl ⟨by rw [E.out], B2.out⟩
      · have hn : ¬ (Gw.stp r c s zs k.toNat 8).1 < 0 := by rw [h3]; simp only; omega
        have E := Lib.hid (Gw.sp_yes hq hi hn)
        rw [h3] at CS E
        have hit : (i : Int).toNat = i := Int.toNat_natCast i
        simp only [hit] at E
        have hlt : ¬ (i : Int) < 0 := by omega
        have CG2 := Lib.hid (fun W h => CG.out W i h2 h)
        clear hq hi hkn hkl h1 h3 h4 hn hit CG
        generalize Gw.fall s zs k.toNat (Gw.goC r c k.toNat i).toNat i = f at *
        go_enter Tryd.func28, Tryd.ntmps28
        go_wp2_with fail
        refine C.out.mono ?_
        rintro e w1 ⟨rfl, b1⟩
        have B1 := Lib.hid (bt HB.out b1)
        have N1 := Lib.hid b1
        clear b1
        go_wp2_with fail
        refine (CS.out _ N1.out).mono ?_
        rintro e w2 ⟨rfl, b2⟩
        have B2 := Lib.hid (bt B1.out b2)
        have N2 := Lib.hid (bt N1.out b2)
        clear b2
        go_wp2_with fail
        refine (CG2.out _ N2.out).mono ?_
        rintro e w3 ⟨rfl, b3⟩
        have B3 := Lib.hid (bt B2.out b3)
        clear b3
        go_wp2_with fail
        exact bodyPost_ret (v := .tuple #[.int .i64 f, .int .i64 (Gw.goC r c k i), .int .i64 0]) (by simp [results, Tryd.results28, go_sem]) rfl ⟨by rw [E.out], B3.out⟩
end Go.Proofs.YtobcflcmlejajabDoor
