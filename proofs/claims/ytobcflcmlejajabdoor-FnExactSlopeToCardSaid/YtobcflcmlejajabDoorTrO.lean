/-
  The slope from a cell to a cell next to it: the mathematics, and the model. No condition of its own.
-/
import Derived.Test.YtobcflcmlejajabDoorTrK
namespace Go.Proofs.YtobcflcmlejajabDoor
open Go.RowKit Go.Shelf Go.Deep
set_option linter.unusedVariables false
set_option maxRecDepth 100000
namespace Gw
theorem way_from {r c k z : Int} {a : Nat} (ha : goC r c k a = z) : ∀ (f i : Nat), (∀ j, i ≤ j → j < a → goC r c k j ≠ z) → i ≤ a → a < i + f → way r c k z i f = (a : Int)
  | 0, i, _, h1, h2 => by omega
  | f + 1, i, hn, h1, h2 => by
    unfold way
    by_cases he : i = a
    · rw [he, if_pos ha]
    · rw [if_neg (hn i (Nat.le_refl _) (by omega))]
      exact way_from ha f (i + 1) (fun j h3 h4 => hn j (by omega) h4) (by omega) (by omega)
theorem way_none {r c k z : Int} : ∀ (f i : Nat), (∀ j, i ≤ j → j < i + f → goC r c k j ≠ z) → way r c k z i f = -1
  | 0, i, _ => rfl
  | f + 1, i, hn => by
    unfold way
    rw [if_neg (hn i (Nat.le_refl _) (by omega))]
    exact way_none f (i + 1) (fun j h3 h4 => hn j (by omega) (by omega))
/-- does the step in a direction lead to a cell? -/
def eqB (c k z : Int) (a : Nat) : Bool := (rwA c k a == z / c) && (clA c k a == z % c)
theorem eqB_iff {r c k z : Int} {a : Nat} (h : goB r c k a = true) (c1 : 1 ≤ c) : eqB c k z a = true ↔ goC r c k a = z := by
  have hd : goC r c k a = rwA c k a * c + clA c k a := by unfold goC; rw [if_pos h]
  unfold goB isAt at h
  rw [Bool.and_eq_true] at h
  obtain ⟨y3, y4⟩ := inB_iff.1 h.2
  rw [hd]
  unfold eqB
  rw [Bool.and_eq_true, beq_iff_eq, beq_iff_eq]
  constructor
  · rintro ⟨h1, h2⟩
    rw [h1, h2]; exact Int.mul_comm c (z / c) ▸ Int.mul_ediv_add_emod z c
  · intro hz
    rw [← hz]
    refine ⟨?_, ?_⟩
    · rw [Int.add_comm, Int.add_mul_ediv_right _ _ (by omega), Int.ediv_eq_zero_of_lt y3 (by omega)]; omega
    · rw [Int.add_comm, Int.add_mul_emod_self_right, Int.emod_eq_of_lt y3 (by omega)]
theorem way_yes {r c k z : Int} {p : List (Dir r c k)} {x : Dir r c k} {a : Nat} (c1 : 1 ≤ c) (z0 : 0 ≤ z) (hu : UpTo r c k a (p ++ [x])) (hp : ∀ y ∈ p, eqB c k z y.1 = false) (hx : eqB c k z x.1 = true) : way r c k z 0 8 = (x.1 : Int) := by
  refine way_from ((eqB_iff x.2.2 c1).1 hx) 8 0 (fun j _ hj => ?_) (Nat.zero_le _) (by have := x.2.1; omega)
  intro hz
  have hg : goB r c k j = true := by
    cases hb : goB r c k j with
    | true => rfl
    | false => rw [show goC r c k j = -1 by unfold goC; rw [hb]; rfl] at hz; omega
  unfold UpTo at hu
  have hxa : x.1 ∈ (List.range a).filter (goB r c k) := by rw [← hu]; simp
  have hxl : x.1 < a := List.mem_range.1 (List.mem_filter.1 hxa).1
  have hj2 : j ∈ (List.range a).filter (goB r c k) := List.mem_filter.2 ⟨List.mem_range.2 (by omega), hg⟩
  rw [← hu, List.map_append, List.mem_append] at hj2
  rcases hj2 with h | h
  · obtain ⟨y, hy, rfl⟩ := List.mem_map.1 h
    have := (eqB_iff y.2.2 c1).2 hz
    rw [hp y hy] at this; cases this
  · simp at h; omega
theorem way_no {r c k z : Int} {ys : List (Dir r c k)} (c1 : 1 ≤ c) (z0 : 0 ≤ z) (hu : UpTo r c k 8 ys) (hp : ∀ y ∈ ys, eqB c k z y.1 = false) : way r c k z 0 8 = -1 := by
  refine way_none 8 0 (fun j _ hj => ?_)
  intro hz
  have hg : goB r c k j = true := by
    cases hb : goB r c k j with
    | true => rfl
    | false => rw [show goC r c k j = -1 by unfold goC; rw [hb]; rfl] at hz; omega
  unfold UpTo at hu
  have hj2 : j ∈ (List.range 8).filter (goB r c k) := List.mem_filter.2 ⟨List.mem_range.2 (by omega), hg⟩
  rw [← hu] at hj2
  obtain ⟨y, hy, rfl⟩ := List.mem_map.1 hj2
  have := (eqB_iff y.2.2 c1).2 hz
  rw [hp y hy] at this; cases this
theorem way_bd (r c k z : Int) : ∀ f i : Nat, way r c k z i f = -1 ∨ ∃ a : Nat, way r c k z i f = (a : Int) ∧ a < i + f ∧ goC r c k a = z
  | 0, i => Or.inl rfl
  | f + 1, i => by
    unfold way
    by_cases h : goC r c k i = z
    · rw [if_pos h]; exact Or.inr ⟨i, rfl, by omega, h⟩
    · rw [if_neg h]
      rcases way_bd r c k z f (i + 1) with h1 | ⟨a, h1, h2, h3⟩
      · exact Or.inl h1
      · exact Or.inr ⟨a, h1, by omega, h3⟩
/-- what SlopeTo answers -/
def toR (r c s : Int) (zs : List Int) (k z : Int) : Int × Int :=
  if ok r c s zs = true then (if isCell r c k = true then (if isCell r c z = true then (if way r c k z 0 8 < 0 then (0, 6) else (fall s zs k.toNat z.toNat (way r c k z 0 8).toNat, 0)) else (0, 2)) else (0, 2)) else (0, 1)
theorem to_bad {r c s : Int} {zs : List Int} {k z : Int} (h : ok r c s zs = false) : toR r c s zs k z = (0, 1) := by unfold toR; rw [h]; rfl
theorem to_out {r c s : Int} {zs : List Int} {k z : Int} (h : ok r c s zs = true) (hi : isCell r c k = false) : toR r c s zs k z = (0, 2) := by unfold toR; rw [h, hi]; rfl
theorem to_out2 {r c s : Int} {zs : List Int} {k z : Int} (h : ok r c s zs = true) (hi : isCell r c k = true) (hj : isCell r c z = false) : toR r c s zs k z = (0, 2) := by unfold toR; rw [h, hi, hj]; rfl
theorem to_no {r c s : Int} {zs : List Int} {k z : Int} (h : ok r c s zs = true) (hi : isCell r c k = true) (hj : isCell r c z = true) (hw : way r c k z 0 8 = -1) : toR r c s zs k z = (0, 6) := by unfold toR; rw [h, hi, hj, hw]; rfl
theorem to_yes {r c s : Int} {zs : List Int} {k z : Int} {a : Nat} (h : ok r c s zs = true) (hi : isCell r c k = true) (hj : isCell r c z = true) (hw : way r c k z 0 8 = (a : Int)) : toR r c s zs k z = (fall s zs k.toNat z.toNat a, 0) := by
  unfold toR; rw [h, hi, hj, if_pos rfl, if_pos rfl, if_pos rfl, if_neg (by rw [hw]; omega), hw, Int.toNat_natCast]
end Gw
set_option maxHeartbeats 3200000 in
theorem specSlopeTo_any (w : World) (r c s : Int) (v : Value) (zs : List Int) (k z : Int) (hv : Sl w v zs) (hl : zs.length ≤ 1048576) :
    Calls Tryd.prog 26 #[.agg #[.int .i64 r, .int .i64 c, .int .i64 s, v], .int .i64 k, .int .i64 z] w fun e w' => e = .returned (.tuple #[.int .i64 (Gw.toR r c s zs k z).1, .int .i64 (Gw.toR r c s zs k z).2]) ∧ Below w.heap.size w w' := by
  have C := Lib.hid (l09Ask_any (boxG w r c s v 28) w.heap.size r c s k v zs (boxG_cells w r c s v 28) (hv.below (boxG_below w r c s v 28)) hl)
  have HB := Lib.hid (boxG_below w r c s v 28)
  have HK := Lib.hid (fun W (h : Below (boxG w r c s v 28).heap.size (boxG w r c s v 28) W) => (boxG_kept h : GC W w.heap.size r c s v))
  have HVV := Lib.hid hv
  unfold Gw.askC at C
  clear hv
  cases hq : Gw.ok r c s zs with
  | false =>
    rw [hq, Cd.cd_f] at C
    have E := Lib.hid (Gw.to_bad (k := k) (z := z) hq)
    clear hq
    go_enter Tryd.func26, Tryd.ntmps26
    go_wp2_with fail
    refine C.out.mono ?_
    rintro e w1 ⟨rfl, b1⟩
    have B1 := Lib.hid (bt HB.out b1)
    clear b1
    go_wp2_with fail
    exact bodyPost_ret (v := .tuple #[.int .i64 0, .int .i64 1]) (by simp [results, Tryd.results26, go_sem]) rfl ⟨by rw [E.out], B1.out⟩
  | true =>
    cases hi : Gw.isCell r c k with
    | false =>
      rw [hq, hi, Cd.cd_tf] at C
      have E := Lib.hid (Gw.to_out (z := z) hq hi)
      clear hq hi
      go_enter Tryd.func26, Tryd.ntmps26
      go_wp2_with fail
      refine C.out.mono ?_
      rintro e w1 ⟨rfl, b1⟩
      have B1 := Lib.hid (bt HB.out b1)
      clear b1
      go_wp2_with fail
      exact bodyPost_ret (v := .tuple #[.int .i64 0, .int .i64 2]) (by simp [results, Tryd.results26, go_sem]) rfl ⟨by rw [E.out], B1.out⟩
    | true =>
      have G := Lib.hid ((Gw.ok_iff _ _ _ _).1 hq)
      have CK := Lib.hid (fun W (h : Below (boxG w r c s v 28).heap.size (boxG w r c s v 28) W) => l09Cell_any W w.heap.size r c s z v (HK.out W h) G.out.r1 G.out.r2 G.out.c1 G.out.c2)
      rw [hq, hi, Cd.cd_t] at C
      cases hj : Gw.isCell r c z with
      | false =>
        rw [hj] at CK
        have E := Lib.hid (Gw.to_out2 hq hi hj)
        clear hq hi hj
        go_enter Tryd.func26, Tryd.ntmps26
        go_wp2_with fail
        refine C.out.mono ?_
        rintro e w1 ⟨rfl, b1⟩
        have N1 := Lib.hid b1
        clear b1
        go_wp2_with fail
        refine (CK.out _ N1.out).mono ?_
        rintro e w2 ⟨rfl, b2⟩
        have B2 := Lib.hid (bt (bt HB.out N1.out) b2)
        clear b2
        go_wp2_with fail
        exact bodyPost_ret (v := .tuple #[.int .i64 0, .int .i64 2]) (by simp [results, Tryd.results26, go_sem]) rfl ⟨by rw [E.out], B2.out⟩
      | true =>
        rw [hj] at CK
        obtain ⟨k1, k2⟩ := Gw.isCell_bd hi G.out.r1 G.out.r2 G.out.c1 G.out.c2
        obtain ⟨z1, z2⟩ := Gw.isCell_bd hj G.out.r1 G.out.r2 G.out.c1 G.out.c2
        have hkl : k.toNat < zs.length := Gw.isCell_lt hi G.out.n
        have hzl : z.toNat < zs.length := Gw.isCell_lt hj G.out.n
        have hkn : ((k.toNat : Nat) : Int) = k := Int.toNat_of_nonneg k1
        have hzn : ((z.toNat : Nat) : Int) = z := Int.toNat_of_nonneg z1
        have CW := Lib.hid (fun W (h : Below (boxG w r c s v 28).heap.size (boxG w r c s v 28) W) => l09Way_any W w.heap.size r c s k z v (HK.out W h) G.out.r1 G.out.r2 G.out.c1 G.out.c2 k1 k2)
        have CF := Lib.hid (fun W (a : Nat) (ha : a < 8) (h : Below (boxG w r c s v 28).heap.size (boxG w r c s v 28) W) => l09Fall_any W w.heap.size r c s v zs k.toNat z.toNat a (HK.out W h) (HVV.out.below (bt HB.out h)) ((Gw.okHs_iff zs).2 G.out.h) hkl hzl G.out.s1 G.out.s2 ha)
        rw [hkn, hzn] at CF
        rcases Gw.way_bd r c k z 8 0 with hw | ⟨a, hw, ha, -⟩
        · have E := Lib.hid (Gw.to_no hq hi hj hw)
          rw [hw] at CW
          clear hq hi hj hw hkl hzl hkn hzn
          go_enter Tryd.func26, Tryd.ntmps26
          go_wp2_with fail
          refine C.out.mono ?_
          rintro e w1 ⟨rfl, b1⟩
          have N1 := Lib.hid b1
          clear b1
          go_wp2_with fail
          refine (CK.out _ N1.out).mono ?_
          rintro e w2 ⟨rfl, b2⟩
          have N2 := Lib.hid (bt N1.out b2)
          clear b2
          go_wp2_with fail
          refine (CW.out _ N2.out).mono ?_
          rintro e w3 ⟨rfl, b3⟩
          have B3 := Lib.hid (bt (bt HB.out N2.out) b3)
          clear b3
          go_wp2_with fail
          exact bodyPost_ret (v := .tuple #[.int .i64 0, .int .i64 6]) (by simp [results, Tryd.results26, go_sem]) rfl ⟨by rw [E.out], B3.out⟩
        · have E := Lib.hid (Gw.to_yes hq hi hj hw)
          have CF2 := Lib.hid (fun W h => CF.out W a (by omega) h)
          have hna : ¬ (a : Int) < 0 := by omega
          rw [hw] at CW
          clear hq hi hj hw hkl hzl hkn hzn CF ha
          generalize Gw.fall s zs k.toNat z.toNat a = f at *
          go_enter Tryd.func26, Tryd.ntmps26
          go_wp2_with fail
          refine C.out.mono ?_
          rintro e w1 ⟨rfl, b1⟩
          have N1 := Lib.hid b1
          clear b1
          go_wp2_with fail
          refine (CK.out _ N1.out).mono ?_
          rintro e w2 ⟨rfl, b2⟩
          have N2 := Lib.hid (bt N1.out b2)
          clear b2
          go_wp2_with fail
          refine (CW.out _ N2.out).mono ?_
          rintro e w3 ⟨rfl, b3⟩
          have N3 := Lib.hid (bt N2.out b3)
          clear b3
          go_wp2_with fail
          refine (CF2.out _ N3.out).mono ?_
          rintro e w4 ⟨rfl, b4⟩
          have B4 := Lib.hid (bt (bt HB.out N3.out) b4)
          clear b4
          go_wp2_with fail
          exact bodyPost_ret (v := .tuple #[.int .i64 f, .int .i64 0]) (by simp [results, Tryd.results26, go_sem]) rfl ⟨by rw [E.out], B4.out⟩
end Go.Proofs.YtobcflcmlejajabDoor
