/-
  The cell of a row and a column, by the program and by the model. No condition of its own.
-/
import Derived.Test.YteileaeeiejonabGdV
import Derived.Deep.RegionHeld3
namespace Go.Proofs.Yteileaeeiejonab
open Go.RowKit Go.Shelf Go.Deep
set_option linter.unusedVariables false
set_option maxRecDepth 100000

namespace Gw
def atV (r c s : Int) (zs : List Int) (a b : Int) : Int := Cd.vl (ok r c s zs) (isAt r c a b) (a * c + b)
def atC (r c s : Int) (zs : List Int) (a b : Int) : Int := Cd.cd (ok r c s zs) (isAt r c a b) 0
end Gw
set_option maxHeartbeats 1600000 in
theorem specCellAt_any (w : World) (r c s : Int) (v : Value) (zs : List Int) (a b : Int) (hv : Sl w v zs) (hl : zs.length ≤ 1048576) :
    Calls Try.prog 10 #[.agg #[.int .i64 r, .int .i64 c, .int .i64 s, v], .int .i64 a, .int .i64 b] w fun e w' => e = .returned (.tuple #[.int .i64 (Gw.atV r c s zs a b), .int .i64 (Gw.atC r c s zs a b)]) ∧ Below w.heap.size w w' := by
  have C := Lib.hid (l09Ok_any (boxG w r c s v 27) w.heap.size r c s v zs (boxG_cells w r c s v 27) (hv.below (boxG_below w r c s v 27)) hl)
  have HB := Lib.hid (boxG_below w r c s v 27)
  have HK := Lib.hid (fun W (h : Below (boxG w r c s v 27).heap.size (boxG w r c s v 27) W) => (boxG_kept h).four)
  clear hv
  unfold Gw.atV Gw.atC
  cases hq : Gw.ok r c s zs with
  | false =>
    rw [hq] at C
    rw [Cd.vl_f, Cd.cd_f]
    clear hq
    go_enter Try.func10, Try.ntmps10
    go_wp2_with fail
    refine C.out.mono ?_
    rintro e w1 ⟨rfl, b1⟩
    have B1 := Lib.hid (bt HB.out b1)
    clear b1
    go_wp2_with fail
    go_ret2
    exact ⟨rfl, B1.out⟩
  | true =>
    have G := (Gw.ok_iff _ _ _ _).1 hq
    have r1 := G.r1
    have r2 := G.r2
    have c1 := G.c1
    have c2 := G.c2
    have w1e : wrap64 (r - 1) = r - 1 := IntWalk.wrap64_in _ ⟨by omega, by omega⟩
    have w2e : wrap64 (c - 1) = c - 1 := IntWalk.wrap64_in _ ⟨by omega, by omega⟩
    have CA := fun W => Lib.hid (l00In_any a 0 (r - 1) W)
    have CB := fun W => Lib.hid (l00In_any b 0 (c - 1) W)
    rw [hq] at C
    clear hq G
    unfold Gw.isAt
    cases ha : Ar.inB 0 a (r - 1) with
    | false =>
      rw [Bool.false_and, Cd.vl_tf, Cd.cd_tf]
      rw [ha] at CA
      clear ha
      go_enter Try.func10, Try.ntmps10
      go_wp2_with fail
      refine C.out.mono ?_
      rintro e w1 ⟨rfl, b1⟩
      have B1 := Lib.hid (bt HB.out b1)
      obtain ⟨x0, x1, x2, x3⟩ := HK.out w1 b1
      clear b1
      go_wp2_with fail
      refine (CA _).out.mono ?_
      rintro e w2 ⟨rfl, rfl⟩
      go_wp2_with fail
      go_ret2
      exact ⟨rfl, B1.out⟩
    | true =>
      cases hb : Ar.inB 0 b (c - 1) with
      | false =>
        rw [Bool.and_false, Cd.vl_tf, Cd.cd_tf]
        rw [ha] at CA
        rw [hb] at CB
        clear ha hb
        go_enter Try.func10, Try.ntmps10
        go_wp2_with fail
        refine C.out.mono ?_
        rintro e w1 ⟨rfl, b1⟩
        have B1 := Lib.hid (bt HB.out b1)
        obtain ⟨x0, x1, x2, x3⟩ := HK.out w1 b1
        clear b1
        go_wp2_with fail
        refine (CA _).out.mono ?_
        rintro e w2 ⟨rfl, rfl⟩
        go_wp2_with fail
        refine (CB _).out.mono ?_
        rintro e w2 ⟨rfl, rfl⟩
        go_wp2_with fail
        go_ret2
        exact ⟨rfl, B1.out⟩
      | true =>
        have a1 := Gw.inB_iff.1 ha
        have b1' := Gw.inB_iff.1 hb
        have bd := Gw.cell_bd (a := a) (b := b) (c := c) (by omega) (by omega) (by omega) (by omega) c1 c2
        have w3e : wrap64 (a * c) = a * c := IntWalk.wrap64_in _ ⟨by omega, by omega⟩
        have w4e : wrap64 (a * c + b) = a * c + b := IntWalk.wrap64_in _ ⟨by omega, by omega⟩
        rw [Bool.and_self, Cd.vl_t, Cd.cd_t]
        rw [ha] at CA
        rw [hb] at CB
        clear ha hb a1 b1' bd
        go_enter Try.func10, Try.ntmps10
        go_wp2_with fail
        refine C.out.mono ?_
        rintro e w1 ⟨rfl, b1⟩
        have B1 := Lib.hid (bt HB.out b1)
        obtain ⟨x0, x1, x2, x3⟩ := HK.out w1 b1
        clear b1
        go_wp2_with fail
        refine (CA _).out.mono ?_
        rintro e w2 ⟨rfl, rfl⟩
        go_wp2_with fail
        refine (CB _).out.mono ?_
        rintro e w2 ⟨rfl, rfl⟩
        go_wp2_with fail
        go_ret2
        exact ⟨ret_ii w4e rfl, B1.out⟩
/-- a place in a new block -/
theorem placeBox_below (w : World) (a b : Int) (t : TypeId) : Below w.heap.size w (w.alloc (.cells #[.int .i64 a, .int .i64 b] t)) := (Below.refl _ _).alloc (Nat.le_refl _) _
set_option maxHeartbeats 800000 in
theorem placeIn_any (a b r c : Int) (w : World) :
    Calls Try.prog 22 #[.agg #[.int .i64 a, .int .i64 b], .int .i64 r, .int .i64 c] w fun e w' => e = .returned (.bool (Ar.inB 0 a (wrap64 (r - 1)) && Ar.inB 0 b (wrap64 (c - 1)))) ∧ Below w.heap.size w w' := by
  have CA := fun W => Lib.hid (within_any a 0 (wrap64 (r - 1)) W)
  have CB := fun W => Lib.hid (within_any b 0 (wrap64 (c - 1)) W)
  have HB := Lib.hid (placeBox_below w a b 43)
  cases ha : Ar.inB 0 a (wrap64 (r - 1)) with
  | false =>
    rw [ha] at CA
    clear ha
    go_enter Try.func22, Try.ntmps22
    go_wp2_with fail
    refine (CA _).out.mono ?_
    rintro e w2 ⟨rfl, rfl⟩
    go_wp2_with fail
    go_ret
    exact ⟨rfl, HB.out⟩
  | true =>
    rw [ha] at CA
    clear ha
    generalize Ar.inB 0 b (wrap64 (c - 1)) = q at *
    go_enter Try.func22, Try.ntmps22
    go_wp2_with fail
    refine (CA _).out.mono ?_
    rintro e w2 ⟨rfl, rfl⟩
    go_wp2_with fail
    refine (CB _).out.mono ?_
    rintro e w2 ⟨rfl, rfl⟩
    go_wp2_with fail
    go_ret
    exact ⟨ret_bool (by simp), HB.out⟩
set_option maxHeartbeats 800000 in
theorem placeCell_any (a b c : Int) (w : World) (h1 : wrap64 (a * c) = a * c) (h2 : wrap64 (a * c + b) = a * c + b) :
    Calls Try.prog 23 #[.agg #[.int .i64 a, .int .i64 b], .int .i64 c] w fun e w' => e = .returned (.int .i64 (a * c + b)) ∧ Below w.heap.size w w' := by
  have HB := Lib.hid (placeBox_below w a b 43)
  go_enter Try.func23, Try.ntmps23
  go_wp2_with fail
  go_ret
  exact ⟨ret_int h2, HB.out⟩
set_option maxHeartbeats 6400000 in
theorem implCellAt_any (w : World) (r c s : Int) (v : Value) (zs : List Int) (a b : Int) (hv : Sl w v zs) (hl : zs.length ≤ 1048576) :
    Calls Try.prog 11 #[.agg #[.int .i64 r, .int .i64 c, .int .i64 s, v], .int .i64 a, .int .i64 b] w fun e w' => e = .returned (.tuple #[.int .i64 (Gw.atV r c s zs a b), .int .i64 (Gw.atC r c s zs a b)]) ∧ Below w.heap.size w w' := by
  obtain ⟨va, vcap, rfl⟩ := hv.form
  have HB : Hid (Below w.heap.size w ((boxG w r c s (.slice va zs.length vcap) 27).alloc (.cells #[.int .i64 a, .int .i64 b] 43))) := Lib.hid ((boxG_below w r c s _ _).alloc (by rw [boxG_size]; omega) _)
  have hbx : (boxG w r c s (.slice va zs.length vcap) 27).alloc (.cells #[.int .i64 a, .int .i64 b] 43) = (w.alloc (.cells #[.int .i64 r, .int .i64 c, .int .i64 s, .slice va zs.length vcap] 27)).alloc (.cells #[.int .i64 a, .int .i64 b] 43) := rfl
  have KG : GC ((boxG w r c s (.slice va zs.length vcap) 27).alloc (.cells #[.int .i64 a, .int .i64 b] 43)) w.heap.size r c s (.slice va zs.length vcap) := boxG_kept ((Below.refl _ _).alloc (Nat.le_refl _) _)
  have KP : Whole ((boxG w r c s (.slice va zs.length vcap) 27).alloc (.cells #[.int .i64 a, .int .i64 b] 43)) (w.heap.size + 1) 43 #[.int .i64 a, .int .i64 b] := by
    have := Whole.new (boxG w r c s (.slice va zs.length vcap) 27) 43 #[.int .i64 a, .int .i64 b]
    rwa [boxG_size] at this
  generalize (boxG w r c s (.slice va zs.length vcap) 27).alloc (.cells #[.int .i64 a, .int .i64 b] 43) = W1 at *
  have K0 := Lib.hid (fun W (h : Below W1.heap.size W1 W) => (KG.all h).four)
  have P0 := Lib.hid (fun W (h : Below W1.heap.size W1 W) => (show W.cell? ⟨w.heap.size + 1, 0, none⟩ = some (.int .i64 a) ∧ W.cell? ⟨w.heap.size + 1, 1, none⟩ = some (.int .i64 b) from ⟨(KP.all h).at_ 0, (KP.all h).at_ 1⟩))
  have CV := Lib.hid (fun W (h : Below W1.heap.size W1 W) => implValidGrid_any W r c s _ zs ((hv.below HB.out).below h) hl)
  have CI := Lib.hid (fun W => placeIn_any a b r c W)
  obtain ⟨x0, x1, x2, x3⟩ := K0.out _ (Below.refl _ _)
  obtain ⟨y0, y1⟩ := P0.out _ (Below.refl _ _)
  clear hv KG KP
  unfold Gw.atV Gw.atC
  have CS := Lib.hid (fun q W => statedCd_any (Gw.ok r c s zs) q W)
  cases hq : Gw.ok r c s zs with
  | false =>
    rw [hq] at CV CS
    simp only [Cd.cd_f] at CS
    rw [Cd.vl_f, Cd.cd_f]
    generalize (Ar.inB 0 a (wrap64 (r - 1)) && Ar.inB 0 b (wrap64 (c - 1))) = q at *
    clear hq
    go_enter Try.func11, Try.ntmps11
    go_wp2_with fail
    rw [← hbx]
    clear hbx
    (go_region_held3 (fun w' => (w'.cell? ⟨w.heap.size, 0, none⟩ = some (.int .i64 r) ∧ w'.cell? ⟨w.heap.size, 1, none⟩ = some (.int .i64 c) ∧ w'.cell? ⟨w.heap.size, 2, none⟩ = some (.int .i64 s) ∧ w'.cell? ⟨w.heap.size, 3, none⟩ = some (.slice va zs.length vcap)) ∧ w'.cell? ⟨w.heap.size + 1, 0, none⟩ = some (.int .i64 a) ∧ w'.cell? ⟨w.heap.size + 1, 1, none⟩ = some (.int .i64 b)) (go_keep)
      (first
        | (go_at_call 8; refine (CV.out _ (bdr1 _)).mono ?_; rintro e wA ⟨rfl, bA⟩; have bA0 := bt (bdr1 _) bA; obtain ⟨k0, k1, k2, k3⟩ := K0.out wA bA0; obtain ⟨l0, l1⟩ := P0.out wA bA0)
        | (go_at_call 22; refine (CI.out _).mono ?_; rintro e wB ⟨rfl, bB⟩; have bB0 := bt bA0 bB; obtain ⟨m0, m1, m2, m3⟩ := K0.out wB bB0; obtain ⟨n0, n1⟩ := P0.out wB bB0)
        | (go_at_call 21; refine (CS.out _ _).mono ?_; rintro e w' ⟨rfl, rfl⟩)))
    go_wp2_with fail
    go_ret2
    exact ⟨rfl, bt HB.out bB0⟩
  | true =>
    have G := (Gw.ok_iff _ _ _ _).1 hq
    have r1 := G.r1
    have r2 := G.r2
    have c1 := G.c1
    have c2 := G.c2
    have w1e : wrap64 (r - 1) = r - 1 := IntWalk.wrap64_in _ ⟨by omega, by omega⟩
    have w2e : wrap64 (c - 1) = c - 1 := IntWalk.wrap64_in _ ⟨by omega, by omega⟩
    have hat : (Ar.inB 0 a (r - 1) && Ar.inB 0 b (c - 1)) = Gw.isAt r c a b := rfl
    rw [w1e, w2e, hat] at CI
    rw [hq] at CV CS
    clear hq G hat
    cases hb : Gw.isAt r c a b with
    | false =>
      rw [Cd.vl_tf, Cd.cd_tf]
      rw [hb] at CI
      have CS1 := Lib.hid (fun W => CS.out false W)
      simp only [Cd.cd_tf] at CS1
      clear hb CS
      go_enter Try.func11, Try.ntmps11
      go_wp2_with fail
      rw [← hbx]
      clear hbx
      (go_region_held3 (fun w' => (w'.cell? ⟨w.heap.size, 0, none⟩ = some (.int .i64 r) ∧ w'.cell? ⟨w.heap.size, 1, none⟩ = some (.int .i64 c) ∧ w'.cell? ⟨w.heap.size, 2, none⟩ = some (.int .i64 s) ∧ w'.cell? ⟨w.heap.size, 3, none⟩ = some (.slice va zs.length vcap)) ∧ w'.cell? ⟨w.heap.size + 1, 0, none⟩ = some (.int .i64 a) ∧ w'.cell? ⟨w.heap.size + 1, 1, none⟩ = some (.int .i64 b)) (go_keep)
        (first
          | (go_at_call 8; refine (CV.out _ (bdr1 _)).mono ?_; rintro e wA ⟨rfl, bA⟩; have bA0 := bt (bdr1 _) bA; obtain ⟨k0, k1, k2, k3⟩ := K0.out wA bA0; obtain ⟨l0, l1⟩ := P0.out wA bA0)
          | (go_at_call 22; refine (CI.out _).mono ?_; rintro e wB ⟨rfl, bB⟩; have bB0 := bt bA0 bB; obtain ⟨m0, m1, m2, m3⟩ := K0.out wB bB0; obtain ⟨n0, n1⟩ := P0.out wB bB0)
          | (go_at_call 21; refine (CS1.out _).mono ?_; rintro e w' ⟨rfl, rfl⟩)))
      go_wp2_with fail
      go_ret2
      exact ⟨rfl, bt HB.out bB0⟩
    | true =>
      have hb2 := hb
      unfold Gw.isAt at hb2
      rw [Bool.and_eq_true] at hb2
      have a1 := Gw.inB_iff.1 hb2.1
      have b1' := Gw.inB_iff.1 hb2.2
      have bd := Gw.cell_bd (a := a) (b := b) (c := c) (by omega) (by omega) (by omega) (by omega) c1 c2
      have w3e : wrap64 (a * c) = a * c := IntWalk.wrap64_in _ ⟨by omega, by omega⟩
      have w4e : wrap64 (a * c + b) = a * c + b := IntWalk.wrap64_in _ ⟨by omega, by omega⟩
      have CC := Lib.hid (fun W => placeCell_any a b c W w3e w4e)
      rw [Cd.vl_t, Cd.cd_t]
      rw [hb] at CI
      have CS1 := Lib.hid (fun W => CS.out true W)
      simp only [Cd.cd_t] at CS1
      clear hb CS hb2 a1 b1' bd
      go_enter Try.func11, Try.ntmps11
      go_wp2_with fail
      rw [← hbx]
      clear hbx
      (go_region_held3 (fun w' => (w'.cell? ⟨w.heap.size, 0, none⟩ = some (.int .i64 r) ∧ w'.cell? ⟨w.heap.size, 1, none⟩ = some (.int .i64 c) ∧ w'.cell? ⟨w.heap.size, 2, none⟩ = some (.int .i64 s) ∧ w'.cell? ⟨w.heap.size, 3, none⟩ = some (.slice va zs.length vcap)) ∧ w'.cell? ⟨w.heap.size + 1, 0, none⟩ = some (.int .i64 a) ∧ w'.cell? ⟨w.heap.size + 1, 1, none⟩ = some (.int .i64 b)) (go_keep)
        (first
          | (go_at_call 8; refine (CV.out _ (bdr1 _)).mono ?_; rintro e wA ⟨rfl, bA⟩; have bA0 := bt (bdr1 _) bA; obtain ⟨k0, k1, k2, k3⟩ := K0.out wA bA0; obtain ⟨l0, l1⟩ := P0.out wA bA0)
          | (go_at_call 22; refine (CI.out _).mono ?_; rintro e wB ⟨rfl, bB⟩; have bB0 := bt bA0 bB; obtain ⟨m0, m1, m2, m3⟩ := K0.out wB bB0; obtain ⟨n0, n1⟩ := P0.out wB bB0)
          | (go_at_call 21; refine (CS1.out _).mono ?_; rintro e w' ⟨rfl, rfl⟩)))
      obtain ⟨z0, z1, z2, z3⟩ := K0.out _ bB0
      obtain ⟨t0, t1⟩ := P0.out _ bB0
      have B2 := Lib.hid (bt HB.out bB0)
      clear bB0
      go_wp2_with fail
      refine (CC.out _).mono ?_
      rintro e w3 ⟨rfl, b3⟩
      have B3 := Lib.hid (bt B2.out b3)
      clear b3
      go_wp2_with fail
      go_ret2
      exact ⟨rfl, B3.out⟩
end Go.Proofs.Yteileaeeiejonab
