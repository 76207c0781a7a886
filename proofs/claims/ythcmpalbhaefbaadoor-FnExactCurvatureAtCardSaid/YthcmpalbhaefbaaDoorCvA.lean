/-
  How much higher the cells around a cell are, by the program and by the model (chapter 9). The conditions, of the program's side: the table of ways as it is laid.
-/
import Derived.Test.YthcmpalbhaefbaaDoorDsB
namespace Go.Proofs.YthcmpalbhaefbaaDoor
open Go.RowKit Go.Shelf Go.Deep
set_option linter.unusedVariables false
set_option maxRecDepth 100000
attribute [local go_sem] Oper.semAt_some
namespace Gw
def cvP (r c : Int) (zs : List Int) (k : Nat) (l : List Nat) : Int := (l.map (fun a => -drp zs k (goC r c k a).toNat)).sum
theorem cvP_snoc (r c : Int) (zs : List Int) (k : Nat) (l : List Nat) (a : Nat) : cvP r c zs k (l ++ [a]) = cvP r c zs k l - drp zs k (goC r c k a).toNat := by
  unfold cvP; rw [List.map_append, List.sum_append_int]; simp; omega
theorem drp_all {zs : List Int} (h : ∀ z ∈ zs, 0 ≤ z ∧ z ≤ 5000) (f t : Nat) : -5000 ≤ drp zs f t ∧ drp zs f t ≤ 5000 := by
  have h1 := getD_bd h f
  have h2 := getD_bd h t
  unfold drp; omega
theorem cvP_bd (r c : Int) {zs : List Int} (h : ∀ z ∈ zs, 0 ≤ z ∧ z ≤ 5000) (k : Nat) : ∀ l : List Nat, -(5000 * (l.length : Int)) ≤ cvP r c zs k l ∧ cvP r c zs k l ≤ 5000 * (l.length : Int)
  | [] => by unfold cvP; simp
  | a :: l => by
    have ih := cvP_bd r c h k l
    have hd := drp_all h k (goC r c k a).toNat
    unfold cvP at *
    rw [List.map_cons, List.sum_cons, List.length_cons]
    omega
theorem cvS_P (r c : Int) (zs : List Int) (k : Nat) : cvS r c zs k = cvP r c zs k (dirs r c k) := rfl
end Gw
set_option maxHeartbeats 8000000 in
theorem curvAt_in (n : Nat) (hn : 8 ≤ n) (w : World) (R C k g0 cap Bo : Nat) (s : Int) (zs : List Int) (G : Gw.Good R C s zs) (hk : k < zs.length) (hown : Own Bo w (.slice (some ⟨g0, 0, none⟩) zs.length cap) zs) (hA : AspAt w) :
    CallsIn Fence.wide n Tryd.prog 25 #[.agg #[.int .i64 R, .int .i64 C, .int .i64 s, .slice (some ⟨g0, 0, none⟩) zs.length cap], .int .i64 (k : Int)] w fun e w' =>
      e = .returned (.tuple #[.int .i64 (Gw.cvS R C zs k), .int .i64 0]) ∧ Below w.heap.size w w' := by
  have hro : Fence.wide.round = none := rfl
  have r1 := G.r1; have r2 := G.r2; have c1 := G.c1; have c2 := G.c2
  have hlen := G.len
  have hL : Hid (zs.length = R * C) := Lib.hid (good_len G)
  have HB := Lib.hid (boxG_below w R C s (.slice (some ⟨g0, 0, none⟩) zs.length cap) 28)
  have B2 := Lib.hid (HB.out.alloc HB.out.size (.cells #[.int .i64 (k : Int)] 2))
  have K2 : Hid (GC ((boxG w R C s (.slice (some ⟨g0, 0, none⟩) zs.length cap) 28).alloc (.cells #[.int .i64 (k : Int)] 2)) w.heap.size R C s (.slice (some ⟨g0, 0, none⟩) zs.length cap)) := Lib.hid (boxG_kept ((Below.refl _ _).alloc (Nat.le_refl _) _))
  have O2 := Lib.hid (hown.belowAll B2.out)
  have S2 := Lib.hid (one_slT (boxG w R C s (.slice (some ⟨g0, 0, none⟩) zs.length cap) 28) (k : Int))
  have A2 := Lib.hid (hA.below B2.out)
  have CC := Lib.hid (cellsCode_any ((boxG w R C s (.slice (some ⟨g0, 0, none⟩) zs.length cap) 28).alloc (.cells #[.int .i64 (k : Int)] 2)) R C s (.slice (some ⟨g0, 0, none⟩) zs.length cap) _ zs [(k : Int)] O2.out.sl S2.out (by omega) (by simp))
  rw [boxG_size] at CC
  unfold boxG at CC K2 A2 O2 B2
  have hany : (!([(k : Int)].any fun x => !Ar.inB 0 x (zs.length - 1))) = true := by
    have : Ar.inB 0 (k : Int) (zs.length - 1) = true := Gw.inB_iff.2 (by omega)
    simp [this]
  rw [hany, (Gw.ok_iff _ _ _ _).2 G, Cd.cd_t] at CC
  have hcs := own_lt O2.out
  clear hany hown hA HB S2
  have CF := Lib.hid (fun W v u => stepsFrom_any W (R : Int) C s v u (k : Int) (by omega) (by omega) c1 c2)
  obtain ⟨W2, hW2⟩ : ∃ u, (w.alloc (.cells #[.int .i64 R, .int .i64 C, .int .i64 s, .slice (some ⟨g0, 0, none⟩) zs.length cap] 28)).alloc (.cells #[.int .i64 (k : Int)] 2) = u := ⟨_, rfl⟩
  rw [hW2] at CC K2 A2 O2 B2 hcs
  have CT := Lib.hid (fun W (h : Below W2.heap.size W2 W) => terrainOf_any W R C g0 0 zs.length cap s hL.out (by omega) (own_cap O2.out) (by omega) (by omega) (by omega) (by omega))
  refine callsIn_of_wp_marks Tryd.func25 rfl trivial ?_ hro
  simp only [Tryd.ntmps25, List.size_toArray, List.length_cons, List.length_nil, Nat.reduceAdd, Nat.reduceSub, Array.replicate_succ, Array.replicate_zero, List.push_toArray, List.append_toArray, List.nil_append, List.cons_append]
  gi_wp2_with fail
  refine ⟨trivial, fun _ => by omega, (callsIn_wide.2 CC.out).mono ?_⟩
  rintro e w1 ⟨rfl, b1⟩
  have N1 := Lib.hid b1
  have N3 := Lib.hid (b1.alloc b1.size (.cells #[.int .i64 0] 2))
  have R3 := Lib.hid (Whole.new w1 2 #[.int .i64 0])
  obtain ⟨k0, k1, k2, k3⟩ := (K2.out.all N3.out).four
  have hkl := (K2.out.all N3.out).lt
  clear b1 CC
  gi_wp2_with fail
  refine ⟨trivial, fun _ => by omega, (callsIn_wide.2 (CT.out _ N3.out)).mono ?_⟩
  rintro e w4 ⟨g, cap', rfl, hr, hg, b4⟩
  have N4 := Lib.hid (bt N3.out b4)
  clear k0 k1 k2 k3 hkl CT
  gi_wp2_with fail
  refine ⟨trivial, fun _ => by omega, (callsIn_wide.2 (CF.out _ _ _)).mono ?_⟩
  rintro e W0 ⟨q, rfl, te, fr, hq, b0⟩
  have N0 := Lib.hid (bt N4.out b0)
  have B0 := Lib.hid (bt B2.out N0.out)
  have RS := Lib.hid (R3.out.all (bt b4 b0))
  have hr0 := hr.all b0
  have hsz1 : w1.heap.size + 1 ≤ g := by have := hg; simpa using this
  have hsz2 : w1.heap.size + 1 ≤ w4.heap.size := by have := b4.size; simpa using this
  have hg0 : g0 < w1.heap.size := Nat.lt_of_lt_of_le hcs N1.out.size
  have hA0 := A2.out.below N0.out
  have O0 := O2.out.belowAll N0.out
  have SK0 : SK W0.heap.size W0 R C k g0 0 zs.length cap g cap' q w4.heap.size s zs := ⟨te, fr, hr0, fun j x hx => own_cells O0 j x hx, own_lt O0, hr0.1, fr.lt, te.lt⟩
  have hwsz : w.heap.size ≤ w1.heap.size := by have := B2.out.size; have := N1.out.size; omega
  have hw1 : w1.heap.size < W0.heap.size := RS.out.lt
  have h1 : 1 ≤ n := by omega
  have GH := G.h
  have GC := G
  clear CF hr hg b4 b0 te fr hr0 O0 N0 N4 N3 N1 K2 R3 A2 O2 r1 r2 c1 c2
  gi_wp2_with fail
  refine wpIn_rangeFunc_ownH hro h1 (gf := 96) (lb := #[.pointer (some ⟨q, 0, none⟩), .pointer (some ⟨w4.heap.size, 0, none⟩)]) rfl trivial (enters_of Tryd.func96 (by kernel_rfl) rfl)
    (stepsx_stops w1.heap.size (n - 1) (by omega) W0.heap.size R C k g0 0 zs.length cap g cap' q w4.heap.size s zs GC hk ⟨by omega, by omega, by omega, by omega⟩ W0 SK0 hA0 (Nat.le_refl _)) BX.trans (fun W l o o' hl h e1 e2 => BX.of (belowK_b (w := W0) (Nat.le_refl _) W l o o' hl h e1 e2)) (Below.refl _ _) (fun _ => rfl)
    (fun pre W => Whole W w1.heap.size 2 #[.int .i64 (Gw.cvP R C zs k (pre.map (fun x => x.1)))] ∧ BX W0.heap.size w1.heap.size W0 W)
    (fun _ _ _ => False)
    (OwnFrom.and (Own.from (whole_own _ _ (fun pre : List (Gw.Dir R C k) => #[.int .i64 (Gw.cvP R C zs k (pre.map (fun x => x.1)))])) _) (ownFrom_bx (Nat.le_refl _) (Nat.le_refl _)))
    (fun _ _ _ _ _ hs _ _ => hs)
    ⟨RS.out, BX.refl _ _ _⟩
    (fun x a' W => ∃ Bx, w1.heap.size < Bx ∧ Whole W Bx 74 (stC R C s zs k (some x.1)) ∧ a' = { tmps := #[Value.agg #[Value.int IntKind.i64 ↑R, Value.int IntKind.i64 ↑C, Value.int IntKind.i64 s, Value.slice (some { block := g0, off := 0 }) zs.length cap], Value.int IntKind.i64 ↑k, Value.pointer (some { block := w.heap.size, off := 0 }), undef, Value.int IntKind.i64 0, Value.int IntKind.i64 0, Value.int IntKind.i64 0, Value.pointer (some { block := w1.heap.size, off := 0 }), Value.pointer (some ⟨Bx, 0, none⟩), Value.agg #[Value.int IntKind.i64 ↑R, Value.int IntKind.i64 ↑C, Value.int IntKind.i64 s, Value.slice (some { block := g0, off := 0 }) zs.length cap], Value.int IntKind.i64 ↑k, Value.slice (some { block := w.heap.size + 1, off := 0 }) 1 1, Value.int IntKind.i64 0, Value.int IntKind.i64 0, Value.bool false, undef, Value.agg #[Value.int IntKind.i64 ↑R, Value.int IntKind.i64 ↑C, Value.int IntKind.i64 s, Value.slice (some { block := g0, off := 0 }) zs.length cap], Value.agg #[Value.int IntKind.i64 ↑R, Value.int IntKind.i64 ↑C, Value.int IntKind.i64 s, Value.slice (some { block := g0, off := 0 }) zs.length cap, Value.slice (some { block := g, off := 0 }) R cap'], Value.int IntKind.i64 ↑k, Value.func (Fn.func 96) #[] #[Value.pointer (some { block := q, off := 0 }), Value.pointer (some { block := w4.heap.size, off := 0 })], stepV R C s zs k x.1, undef, undef, undef, undef, undef], defers := [] })
    (fun x a' _ X Y row hs hg hr => by obtain ⟨Bx, h1, h2, h3⟩ := hs; exact ⟨Bx, h1, whole_own Bx _ (fun (_ : Unit) => stC R C s zs k (some x.1)) () X Y row h2 hg (fun r e => (hr r e).2), h3⟩)
    ?assign ?body ?done ?stop
  case assign =>
    rintro l pre x W K ⟨bS1, hB1⟩ hK
    have hst : stepV R C s zs k x.1 = .agg (stC R C s zs k (some x.1)) := rfl
    obtain ⟨d0, p0, q0, hc⟩ := stC_five R C s zs k (some x.1)
    rw [hst] at hK ⊢
    rw [hc] at hK ⊢
    have hW := hB1.size
    generalize dnO R C zs k (some x.1) = d1 at *
    generalize Gw.slO R C s zs k (some x.1) = d2 at *
    clear hst hc
    gi_wp2_with fail
    exact hK _ _ ((KeepsOthers.alloc _ _).from _) (BX.of ((Below.refl _ W).alloc hW _)) ⟨bS1.alloc _, hB1.trans (BX.of ((Below.refl _ W).alloc hW _))⟩ ⟨W.heap.size, by omega, Whole.new W _ _, rfl⟩
  case body =>
    rintro l pre x a' W hl _ ⟨bS1, hB1⟩ ⟨Bx, hBx, bX, rfl⟩ hlt
    have hst : stepV R C s zs k x.1 = .agg (stC R C s zs k (some x.1)) := rfl
    rw [hst]
    obtain ⟨d0, p0, q0, hc⟩ := stC_five R C s zs k (some x.1)
    have hd3 : dnO R C zs k (some x.1) = Gw.drp zs k (Gw.goC R C k x.1).toNat := rfl
    have hI : Hid (Gw.cvP R C zs k ((pre ++ [x]).map (fun x => x.1)) = Gw.cvP R C zs k (pre.map (fun x => x.1)) - Gw.drp zs k (Gw.goC R C k x.1).toNat) := Lib.hid (by rw [List.map_append, List.map_cons, List.map_nil, Gw.cvP_snoc])
    have hbd := Gw.cvP_bd R C GH k (pre.map (fun x => x.1))
    rw [List.length_map] at hbd
    have hdd := Gw.drp_all GH k (Gw.goC R C k x.1).toNat
    rw [hc, hd3] at bX ⊢
    clear hst hc hd3
    generalize Gw.cvP R C zs k (pre.map (fun x => x.1)) = S at *
    generalize Gw.drp zs k (Gw.goC R C k x.1).toNat = d3 at *
    generalize Gw.slO R C s zs k (some x.1) = d4 at *
    have x3 := bX.at_ 3
    have y0 := bS1.at_ 0
    have z0 := bS1.free 0
    have hne : Bx ≠ w1.heap.size := by omega
    gi_wp2_with fail
    refine ⟨(KeepsOthers.setCell _ _ _).from _, BX.put _ 0 _, ?_, hB1.trans (BX.put _ 0 _)⟩
    rw [hI.out]
    exact Whole.put bS1 0 _
  case done =>
    rintro D ys W hD hS ⟨bS1, hB1⟩ hK
    have hys : Gw.cvP R C zs k (ys.map (fun x => x.1)) = Gw.cvS R C zs k := congrArg _ hS
    obtain ⟨S, hSE⟩ : ∃ S, Gw.cvS R C zs k = S := ⟨_, rfl⟩
    rw [hys, hSE] at bS1
    have HSE := Lib.hid hSE
    clear hSE
    have BW : Hid (Below w.heap.size w W) := Lib.hid (B0.out.trans (hB1.toBelow (by omega) (by omega)))
    have y0 := bS1.at_ 0
    clear hys hS hA0
    gi_wp2_with fail
    refine ⟨by simp, .inl ⟨_, _, rfl, run_takeDeferred hK, ?_⟩⟩
    refine ⟨.tuple #[.int .i64 S, .int .i64 0], by simp [results, Tryd.results25, go_sem], by rw [HSE.out], ?_⟩
    exact BW.out.trans (belowK_b (w := w) (Nat.le_refl _) W D _ _ (by omega) hK rfl rfl)
  case stop =>
    rintro D c pre W _ _ h _
    exact h.elim
set_option maxHeartbeats 1600000 in
theorem curv_no (w : World) (r c s : Int) (v : Value) (k e0 : Int) (h0 : e0 ≠ 0)
    (hc : Calls Tryd.prog 47 #[.agg #[.int .i64 r, .int .i64 c, .int .i64 s, v], .slice (some ⟨w.heap.size + 1, 0, none⟩) 1 1] ((w.alloc (.cells #[.int .i64 r, .int .i64 c, .int .i64 s, v] 28)).alloc (.cells #[.int .i64 k] 2)) fun e w' => e = .returned (.int .i64 e0) ∧ Below ((w.alloc (.cells #[.int .i64 r, .int .i64 c, .int .i64 s, v] 28)).alloc (.cells #[.int .i64 k] 2)).heap.size ((w.alloc (.cells #[.int .i64 r, .int .i64 c, .int .i64 s, v] 28)).alloc (.cells #[.int .i64 k] 2)) w') :
    Calls Tryd.prog 25 #[.agg #[.int .i64 r, .int .i64 c, .int .i64 s, v], .int .i64 k] w fun e w' => e = .returned (.tuple #[.int .i64 0, .int .i64 e0]) ∧ Below w.heap.size w w' := by
  have B2 := Lib.hid (((Below.refl w.heap.size w).alloc (Nat.le_refl _) (.cells #[.int .i64 r, .int .i64 c, .int .i64 s, v] 28)).alloc (by simp) (.cells #[.int .i64 k] 2))
  have CC := Lib.hid hc
  have hcb : (e0 != 0) = true := bne_iff_ne.2 h0
  clear hc h0
  go_enter Tryd.func25, Tryd.ntmps25
  go_wp2_with fail
  refine CC.out.mono ?_
  rintro e w1 ⟨rfl, b1⟩
  have B1 := Lib.hid (bt B2.out b1)
  clear b1 CC
  go_wp2_with fail
  exact bodyPost_ret (v := .tuple #[.int .i64 0, .int .i64 e0]) (by simp [results, Tryd.results25, go_sem]) rfl ⟨rfl, B1.out⟩
namespace Gw
theorem cv_bad {r c s : Int} {zs : List Int} {k : Int} (h : ok r c s zs = false) : cvV r c s zs k = 0 ∧ askC r c s zs k = 1 := by unfold cvV askC; rw [h, Cd.cd_f]; exact ⟨rfl, rfl⟩
theorem cv_out {r c s : Int} {zs : List Int} {k : Int} (h : ok r c s zs = true) (h2 : isCell r c k = false) : cvV r c s zs k = 0 ∧ askC r c s zs k = 2 := by unfold cvV askC; rw [h, h2, Cd.cd_tf]; exact ⟨rfl, rfl⟩
theorem cv_in {r c s : Int} {zs : List Int} {k : Int} (h : ok r c s zs = true) (h2 : isCell r c k = true) : cvV r c s zs k = cvS r c zs k.toNat ∧ askC r c s zs k = 0 := by unfold cvV askC; rw [h, h2, Cd.cd_t]; exact ⟨rfl, rfl⟩
end Gw
theorem implCurvatureAt_any (w : World) (r c s : Int) (v : Value) (zs : List Int) (k : Int) (ho : IAt w v zs) (hl : zs.length ≤ 1048576) (hA : AspAt w) :
    Calls Tryd.prog 25 #[.agg #[.int .i64 r, .int .i64 c, .int .i64 s, v], .int .i64 k] w fun e w' => e = .returned (.tuple #[.int .i64 (Gw.cvV r c s zs k), .int .i64 (Gw.askC r c s zs k)]) ∧ Below w.heap.size w w' := by
  have HB := boxG_below w r c s v 28
  have CC := cellsCode_any ((boxG w r c s v 28).alloc (.cells #[.int .i64 k] 2)) r c s v _ zs [k] (ho.sl.below (HB.alloc HB.size _)) (one_slT (boxG w r c s v 28) k) hl (by simp)
  have hany : (!([k].any fun x => !Ar.inB 0 x (zs.length - 1))) = Ar.inB 0 k (zs.length - 1) := by simp
  rw [hany, boxG_size] at CC
  unfold boxG at CC
  cases hq : Gw.ok r c s zs with
  | false =>
    rw [hq, Cd.cd_f] at CC
    rw [(Gw.cv_bad hq).1, (Gw.cv_bad hq).2]
    exact curv_no w r c s v k 1 (by decide) CC
  | true =>
    have G := (Gw.ok_iff _ _ _ _).1 hq
    have hbi : Ar.inB 0 k (zs.length - 1) = Gw.isCell r c k := by unfold Gw.isCell; rw [G.n]
    rw [hq, hbi] at CC
    cases hi : Gw.isCell r c k with
    | false =>
      rw [hi, Cd.cd_tf] at CC
      rw [(Gw.cv_out hq hi).1, (Gw.cv_out hq hi).2]
      exact curv_no w r c s v k 2 (by decide) CC
    | true =>
      rw [(Gw.cv_in hq hi).1, (Gw.cv_in hq hi).2]
      obtain ⟨k1, k2⟩ := Gw.isCell_bd hi G.r1 G.r2 G.c1 G.c2
      have hkl : k.toNat < zs.length := Gw.isCell_lt hi G.n
      obtain ⟨R, rfl⟩ : ∃ R : Nat, r = (R : Int) := ⟨r.toNat, (Int.toNat_of_nonneg (by have := G.r1; omega)).symm⟩
      obtain ⟨C, rfl⟩ : ∃ C : Nat, c = (C : Int) := ⟨c.toNat, (Int.toNat_of_nonneg (by have := G.c1; omega)).symm⟩
      obtain ⟨kn, rfl⟩ : ∃ kn : Nat, k = (kn : Int) := ⟨k.toNat, (Int.toNat_of_nonneg k1).symm⟩
      rw [Int.toNat_natCast] at hkl ⊢
      obtain ⟨Bo, g0, cap, rfl, hown⟩ := ho
      exact callsIn_wide.1 (curvAt_in 8 (Nat.le_refl _) w R C kn g0 cap Bo s zs G hkl hown hA)
namespace Gw
def nrS (zs : List Int) (k : Nat) (l : List Int) : Int := (l.map (fun n => zs.getD n.toNat 0 - zs.getD k 0)).sum
theorem nrS_take {zs : List Int} {k : Nat} {l : List Int} {m : Nat} (h : m < l.length) : nrS zs k (l.take (m + 1)) = nrS zs k (l.take m) + (zs.getD l[m].toNat 0 - zs.getD k 0) := by
  unfold nrS
  rw [List.take_succ_eq_append_getElem h, List.map_append, List.sum_append_int]; simp
end Gw
set_option maxHeartbeats 3200000 in
theorem specCurvatureAt_any (w : World) (r c s : Int) (v : Value) (zs : List Int) (k : Int) (hv : Sl w v zs) (hl : zs.length ≤ 1048576) :
    Calls Tryd.prog 24 #[.agg #[.int .i64 r, .int .i64 c, .int .i64 s, v], .int .i64 k] w fun e w' => e = .returned (.tuple #[.int .i64 (Gw.cvV r c s zs k), .int .i64 (Gw.askC r c s zs k)]) ∧ Below w.heap.size w w' := by
  have C := Lib.hid (l09Ask_any (boxG w r c s v 28) w.heap.size r c s k v zs (boxG_cells w r c s v 28) (hv.below (boxG_below w r c s v 28)) hl)
  have HB := Lib.hid (boxG_below w r c s v 28)
  have HK := Lib.hid (fun W (h : Below (boxG w r c s v 28).heap.size (boxG w r c s v 28) W) => (boxG_kept h : GC W w.heap.size r c s v))
  have HVV := Lib.hid hv
  clear hv
  by_cases hz : Gw.ok r c s zs = true ∧ Gw.isCell r c k = true
  · obtain ⟨hq, hi⟩ := hz
    have E := Lib.hid (Gw.cv_in hq hi)
    have G := (Gw.ok_iff _ _ _ _).1 hq
    obtain ⟨k1, k2⟩ := Gw.isCell_bd hi G.r1 G.r2 G.c1 G.c2
    have hkl : k.toNat < zs.length := Gw.isCell_lt hi G.n
    have CN := Lib.hid (fun W (h : Below (boxG w r c s v 28).heap.size (boxG w r c s v 28) W) => l09Near_any W w.heap.size r c s k v (HK.out W h) G.r1 G.r2 G.c1 G.c2 k1 k2)
    have hnb : Hid (∀ x ∈ Gw.near r c k 8, 0 ≤ x ∧ x.toNat < zs.length) := Lib.hid (fun x hx => by
      obtain ⟨i, _, h2, rfl⟩ := (Gw.near_mem 8).1 hx
      exact Gw.goC_lt h2 G.c1 G.n)
    have hnl := Gw.near_len r c k 8 (Nat.le_refl _)
    have hsum : Hid (Gw.nrS zs k.toNat (Gw.near r c k 8) = Gw.cvS r c zs k.toNat) := Lib.hid (by
      have := Gw.cvS_near r c zs k.toNat
      rw [Int.toNat_of_nonneg k1] at this
      exact this)
    have hgb := Lib.hid (fun j => Gw.getD_bd G.h j)
    rw [show Gw.askC r c s zs k = 0 from E.out.2] at C
    rw [E.out.1, E.out.2]
    obtain ⟨kn, rfl⟩ : ∃ kn : Nat, k = (kn : Int) := ⟨k.toNat, (Int.toNat_of_nonneg k1).symm⟩
    rw [Int.toNat_natCast] at hkl hsum ⊢
    obtain ⟨b2, off, cap, rfl, -, -⟩ := HVV.out.atI hkl
    have KA := Lib.hid (fun W (h : Below w.heap.size w W) (j : Nat) (hj : j < zs.length) => by
      obtain ⟨b3, off3, cap3, hn3, hb3, hc3⟩ := (HVV.out.below h).atI hkl
      simp only [Value.slice.injEq, Option.some.injEq, Addr.mk.injEq] at hn3
      obtain ⟨⟨rfl, rfl, -⟩, -, -⟩ := hn3
      exact (⟨by rw [hc3 j hj, List.getD_eq_getElem?_getD, List.getElem?_eq_getElem hj]; rfl, hb3⟩ : W.cell? ⟨b2, off + j, none⟩ = some (.int .i64 (zs.getD j 0)) ∧ b2 < W.heap.size))
    have hkz : (kn : Int) < (zs.length : Int) := by omega
    clear hq hi G k1 k2
    generalize Gw.near r c kn 8 = L at *
    go_enter Tryd.func24, Tryd.ntmps24
    go_wp2_with fail
    refine C.out.mono ?_
    rintro e w1 ⟨rfl, b1⟩
    have N1 := Lib.hid b1
    clear b1 C
    go_wp2_with fail
    refine (CN.out _ N1.out).mono ?_
    rintro e w2 ⟨u, rfl, o2, b2'⟩
    have SL := Lib.hid (Own.sl o2)
    have N2 := Lib.hid (bt N1.out b2')
    obtain ⟨ua, ucap, rfl⟩ := (Own.sl o2).form
    clear o2 b2' CN
    go_wp2_with fail
    go_loopw [8, 9] (fun q i wr => ∃ (m : Nat) (z : Int), m ≤ L.length ∧ i = .int .i64 (m : Int) ∧ q = .int .i64 z ∧ -(5000 * (m : Int)) ≤ z ∧ z ≤ 5000 * (m : Int) ∧ Hid (z = Gw.nrS zs kn (L.take m)) ∧ Hid (Below w2.heap.size w2 wr)) (fun _ i _ => L.length - (intOf i).toNat)
    case atStart => exact ⟨0, 0, Nat.zero_le _, rfl, rfl, by omega, by omega, Lib.hid rfl, Lib.hid (Below.refl _ _)⟩
    case round =>
      obtain ⟨m, z, hm, rfl, rfl, z1, z2, hz, hb⟩ := hrel
      by_cases hlt : m < L.length
      · have hltz : (m : Int) < (L.length : Int) := by omega
        obtain ⟨b5, off5, cap5, hn5, hbl5, hcc5⟩ := (SL.out.below hb.out).atI hlt
        simp only [Value.slice.injEq] at hn5
        obtain ⟨rfl, -, rfl⟩ := hn5
        have c5 := hcc5 m hlt
        obtain ⟨e1, e2⟩ := hnb.out L[m] (List.getElem_mem hlt)
        have hst := Lib.hid (Gw.nrS_take (zs := zs) (k := kn) hlt)
        clear hcc5
        obtain ⟨N, hN⟩ : ∃ N : Nat, L[m] = (N : Int) := ⟨L[m].toNat, (Int.toNat_of_nonneg e1).symm⟩
        rw [hN] at c5 hst e2
        rw [Int.toNat_natCast] at hst e2
        have NB := bt HB.out (bt N2.out hb.out)
        obtain ⟨a1, ab⟩ := KA.out _ NB N e2
        obtain ⟨a2, -⟩ := KA.out _ NB kn hkl
        obtain ⟨x0, x1, x2, x3⟩ := (HK.out _ (bt N2.out hb.out)).four
        have hbl0 := (HK.out _ (bt N2.out hb.out)).lt
        obtain ⟨h1, h2⟩ := hgb.out N
        obtain ⟨h3, h4⟩ := hgb.out kn
        have hNz : (N : Int) < (zs.length : Int) := by omega
        clear hN e1 NB
        generalize zs.getD N 0 = zn at *
        generalize zs.getD kn 0 = zk at *
        have hw1 : IntKind.i64.wrap (zn - zk) = zn - zk := IntWalk.i64_in _ (by omega)
        have hw2 : IntKind.i64.wrap (z + (zn - zk)) = z + (zn - zk) := IntWalk.i64_in _ (by omega)
        go_wp2_with fail
        go_quiet (fail)
        have BQ := Lib.hid (bt hb.out (below_drewW wr nq))
        go_wp2_with fail
        exact ⟨⟨m + 1, z + (zn - zk), by omega, by go_num, rfl, by omega, by omega, Lib.hid (by rw [hst.out, hz.out]), BQ⟩, by simp only [intOf]; omega⟩
      · have hltz : ¬ (m : Int) < (L.length : Int) := by omega
        have hEz : Hid (Gw.cvS r c zs kn = z) := Lib.hid (by rw [← hsum.out, hz.out, List.take_of_length_le (by omega)])
        have B9 := Lib.hid (bt HB.out (bt N2.out hb.out))
        go_wp2_with fail
        exact bodyPost_ret (v := .tuple #[.int .i64 z, .int .i64 0]) (by simp [results, Tryd.results24, go_sem]) rfl ⟨by rw [hEz.out], B9.out⟩
  · have E : Hid (Gw.cvV r c s zs k = 0 ∧ Gw.askC r c s zs k ≠ 0) := Lib.hid (by
      cases hq : Gw.ok r c s zs with
      | false => exact ⟨(Gw.cv_bad hq).1, by rw [(Gw.cv_bad hq).2]; decide⟩
      | true =>
        cases hi : Gw.isCell r c k with
        | false => exact ⟨(Gw.cv_out hq hi).1, by rw [(Gw.cv_out hq hi).2]; decide⟩
        | true => exact absurd ⟨hq, hi⟩ hz)
    have hcb : (Gw.askC r c s zs k != 0) = true := bne_iff_ne.2 E.out.2
    rw [E.out.1]
    clear hz E
    obtain ⟨code, hcode⟩ : ∃ x, Gw.askC r c s zs k = x := ⟨_, rfl⟩
    rw [hcode] at C hcb ⊢
    clear hcode
    go_enter Tryd.func24, Tryd.ntmps24
    go_wp2_with fail
    refine C.out.mono ?_
    rintro e w1 ⟨rfl, b1⟩
    have B1 := Lib.hid (bt HB.out b1)
    clear b1
    go_wp2_with fail
    exact bodyPost_ret (v := .tuple #[.int .i64 0, .int .i64 code]) (by simp [results, Tryd.results24, go_sem]) rfl ⟨rfl, B1.out⟩
end Go.Proofs.YthcmpalbhaefbaaDoor
