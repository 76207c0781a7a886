/-
  The slope from a cell to a cell next to it, by the program. The conditions: the table of ways as it is laid.
-/
import Derived.Test.YtobcflcmlejajabDoorTrO
import Derived.Test.YtobcflcmlejajabDoorTrL
import Derived.Test.YtobcflcmlejajabDoorTrF
namespace Go.Proofs.YtobcflcmlejajabDoor
open Go.RowKit Go.Shelf Go.Deep
set_option linter.unusedVariables false
set_option maxRecDepth 100000
attribute [local go_sem] Oper.semAt_some
theorem two_slT (W : World) (d e : Int) : Sl (W.alloc (.cells #[.int .i64 d, .int .i64 e] 2)) (.slice (some ⟨W.heap.size, 0, none⟩) 2 2) [d, e] := by
  refine Or.inr ⟨W.heap.size, 0, 2, rfl, by simp, fun j z hj => ?_⟩
  match j, hj with
  | 0, hj => simp only [List.getElem?_cons_zero, Option.some.injEq] at hj; subst hj; simp
  | 1, hj => simp only [List.getElem?_cons_succ, List.getElem?_cons_zero, Option.some.injEq] at hj; subst hj; simp
  | j + 2, hj => simp at hj
/-- what lies when SlopeTo has asked for its cells -/
def boxTo (w : World) (r c s : Int) (v : Value) (k z : Int) : World := (((w.alloc (.cells #[.int .i64 r, .int .i64 c, .int .i64 s, v] 28)).alloc (.cells #[.int .i64 0] 2)).alloc (.cells #[.int .i64 0] 2)).alloc (.cells #[.int .i64 k, .int .i64 z] 2)
theorem boxTo_size (w : World) (r c s : Int) (v : Value) (k z : Int) : (boxTo w r c s v k z).heap.size = w.heap.size + 4 := by unfold boxTo; simp
theorem boxTo_below (w : World) (r c s : Int) (v : Value) (k z : Int) : Below w.heap.size w (boxTo w r c s v k z) := ((((Below.refl _ w).alloc (Nat.le_refl _) _).alloc (by simp) _).alloc (by simp; omega) _).alloc (by simp; omega) _
theorem boxTo_gc (w : World) (r c s : Int) (v : Value) (k z : Int) : GC (boxTo w r c s v k z) w.heap.size r c s v :=
  (boxG_cells w r c s v 28).all ((((Below.refl _ _).alloc (Nat.le_refl _) _).alloc (by simp) _).alloc (by simp; omega) _)
theorem boxTo_r0 (w : World) (r c s : Int) (v : Value) (k z : Int) : Whole (boxTo w r c s v k z) (w.heap.size + 1) 2 #[.int .i64 0] := by
  have h := ((Whole.new (w.alloc (.cells #[.int .i64 r, .int .i64 c, .int .i64 s, v] 28)) 2 #[.int .i64 0]).alloc (.cells #[.int .i64 0] 2)).alloc (.cells #[.int .i64 k, .int .i64 z] 2)
  rwa [World.size_alloc] at h
theorem boxTo_r1 (w : World) (r c s : Int) (v : Value) (k z : Int) : Whole (boxTo w r c s v k z) (w.heap.size + 2) 2 #[.int .i64 0] := by
  have h := (Whole.new ((w.alloc (.cells #[.int .i64 r, .int .i64 c, .int .i64 s, v] 28)).alloc (.cells #[.int .i64 0] 2)) 2 #[.int .i64 0]).alloc (.cells #[.int .i64 k, .int .i64 z] 2)
  rw [World.size_alloc, World.size_alloc] at h; exact h
theorem boxTo_sl (w : World) (r c s : Int) (v : Value) (k z : Int) : Sl (boxTo w r c s v k z) (.slice (some ⟨w.heap.size + 3, 0, none⟩) 2 2) [k, z] := by
  have h := two_slT (((w.alloc (.cells #[.int .i64 r, .int .i64 c, .int .i64 s, v] 28)).alloc (.cells #[.int .i64 0] 2)).alloc (.cells #[.int .i64 0] 2)) k z
  rw [World.size_alloc, World.size_alloc, World.size_alloc] at h; exact h
/-- the slope of the last step -/
def lastF (R C : Nat) (s : Int) (zs : List Int) (k : Nat) (pre : List (Gw.Dir R C k)) : Int := Gw.slO R C s zs k (pre.getLast?.map (fun x => x.1))
theorem lastF_snoc (R C : Nat) (s : Int) (zs : List Int) (k : Nat) (p : List (Gw.Dir R C k)) (x : Gw.Dir R C k) : lastF R C s zs k (p ++ [x]) = Gw.slO R C s zs k (some x.1) := by unfold lastF; rw [List.getLast?_concat]; rfl
set_option maxHeartbeats 8000000 in
theorem slopeTo_in (n : Nat) (hn : 8 ≤ n) (w : World) (R C k z g0 cap Bo : Nat) (s : Int) (zs : List Int) (G : Gw.Good R C s zs) (hk : k < zs.length) (hz : z < zs.length) (ho : Own Bo w (.slice (some ⟨g0, 0, none⟩) zs.length cap) zs) (hA : AspAt w)
    (hc : Calls Tryd.prog 65 #[.agg #[.int .i64 R, .int .i64 C, .int .i64 s, .slice (some ⟨g0, 0, none⟩) zs.length cap], .slice (some ⟨w.heap.size + 3, 0, none⟩) 2 2] (boxTo w R C s (.slice (some ⟨g0, 0, none⟩) zs.length cap) k z) fun e w' => e = .returned (.int .i64 0) ∧ Below (boxTo w R C s (.slice (some ⟨g0, 0, none⟩) zs.length cap) k z).heap.size (boxTo w R C s (.slice (some ⟨g0, 0, none⟩) zs.length cap) k z) w') :
    CallsIn Fence.wide n Tryd.prog 27 #[.agg #[.int .i64 R, .int .i64 C, .int .i64 s, .slice (some ⟨g0, 0, none⟩) zs.length cap], .int .i64 (k : Int), .int .i64 (z : Int)] w fun e w' =>
      ((∃ a : Nat, Gw.way R C k z 0 8 = (a : Int) ∧ e = .returned (.tuple #[.int .i64 (Gw.fall s zs k z a), .int .i64 0])) ∨ (Gw.way R C k z 0 8 = -1 ∧ e = .returned (.tuple #[.int .i64 0, .int .i64 6]))) ∧ Below w.heap.size w w' := by
  have hro : Fence.wide.round = none := rfl
  have r1 := G.r1; have r2 := G.r2; have c1 := G.c1; have c2 := G.c2
  have hlen := G.len
  have hL : zs.length = R * C := good_len G
  have HB := Lib.hid (boxTo_below w R C s (.slice (some ⟨g0, 0, none⟩) zs.length cap) k z)
  have HK := Lib.hid (boxTo_gc w R C s (.slice (some ⟨g0, 0, none⟩) zs.length cap) k z)
  have HR0 := Lib.hid (boxTo_r0 w R C s (.slice (some ⟨g0, 0, none⟩) zs.length cap) k z)
  have HR1 := Lib.hid (boxTo_r1 w R C s (.slice (some ⟨g0, 0, none⟩) zs.length cap) k z)
  have HO := Lib.hid (ho.belowAll HB.out)
  have HA := Lib.hid (hA.below HB.out)
  have CC := Lib.hid hc
  have hsz0 := boxTo_size w R C s (.slice (some ⟨g0, 0, none⟩) zs.length cap) k z
  clear hc hA ho
  have CP := Lib.hid (fun W => placeOf_any (z : Int) C W (by omega) (by omega) c1 (by omega))
  obtain ⟨W4, hW4⟩ : ∃ W4, boxTo w R C s (.slice (some ⟨g0, 0, none⟩) zs.length cap) k z = W4 := ⟨_, rfl⟩
  have hWW := hW4
  rw [hW4] at HB HK HR0 HR1 HO HA CC hsz0
  unfold boxTo at hWW
  clear hW4
  have HSZ := Lib.hid hsz0
  have CT := Lib.hid (fun W (h : Below W4.heap.size W4 W) => terrainOf_any W R C g0 0 zs.length cap s hL (by omega) (own_cap HO.out) (by omega) (by omega) (by omega) (by omega))
  have CF := Lib.hid (fun W g cap' => stepsFrom_any W (R : Int) C s (.slice (some ⟨g0, 0, none⟩) zs.length cap) (.slice (some ⟨g, 0, none⟩) R cap') (k : Int) (by omega) (by omega) c1 c2)
  clear hL hsz0 r1 r2 c1 c2
  have HG := Lib.hid G
  clear G
  refine callsIn_of_wp_marks Tryd.func27 rfl trivial ?_ hro
  simp only [Tryd.ntmps27, List.size_toArray, List.length_cons, List.length_nil, Nat.reduceAdd, Nat.reduceSub, Array.replicate_succ, Array.replicate_zero, List.push_toArray, List.append_toArray, List.nil_append, List.cons_append]
  gi_wp2_with fail
  refine ⟨trivial, fun _ => by omega, (callsIn_wide.2 CC.out).mono ?_⟩
  rintro e w1 ⟨rfl, b1⟩
  have N1 := Lib.hid b1
  obtain ⟨x0, x1, x2, x3⟩ := (HK.out.all b1).four
  clear b1 CC hWW
  gi_wp2_with fail
  refine ⟨trivial, fun _ => by omega, (callsIn_wide.2 (CP.out _)).mono ?_⟩
  rintro e w2 ⟨rfl, b2⟩
  have N2 := Lib.hid (Below.alloc (bt N1.out b2) (bt N1.out b2).size (.cells #[.int .i64 ((z : Int) / C), .int .i64 ((z : Int) % C)] 59))
  have TG := Lib.hid (Whole.new w2 59 #[.int .i64 ((z : Int) / C), .int .i64 ((z : Int) % C)])
  have hqg : w.heap.size + 4 ≤ w2.heap.size := by rw [← HSZ.out]; exact (bt N1.out b2).size
  obtain ⟨x0, x1, x2, x3⟩ := (HK.out.all N2.out).four
  clear b2 CP
  gi_wp2_with fail
  refine ⟨trivial, fun _ => by omega, (callsIn_wide.2 (CT.out _ N2.out)).mono ?_⟩
  rintro e w3 ⟨g, cap', rfl, hr, hg, b3⟩
  have N3 := Lib.hid (bt N2.out b3)
  have TG3 := Lib.hid (TG.out.all b3)
  clear b3 TG N2 x0 x1 x2 x3 hg
  gi_wp2_with fail
  refine ⟨trivial, fun _ => by omega, (callsIn_wide.2 (CF.out _ g cap')).mono ?_⟩
  rintro e W0 ⟨q, rfl, te, fr, hq, b0⟩
  have N0 := Lib.hid (bt N3.out b0)
  have TG0 := Lib.hid (TG3.out.all b0)
  have hr0 := hr.all b0
  have hg3 : g < W0.heap.size := hr0.1
  clear b0 CF CT TG3 N3 hr
  gi_wp2_with fail
  have h1 : 1 ≤ n := by omega
  have B00 := Lib.hid (bt HB.out N0.out)
  have hW40 : w.heap.size + 4 ≤ W0.heap.size := by rw [← HSZ.out]; exact N0.out.size
  have SK0 : Hid (SK W0.heap.size W0 R C k g0 0 zs.length cap g cap' q w3.heap.size s zs) := Lib.hid ⟨te, fr, hr0, own_cells (HO.out.belowAll N0.out), own_lt (HO.out.belowAll N0.out), hg3, fr.lt, te.lt⟩
  have hA0 := Lib.hid (HA.out.below N0.out)
  have R0 := Lib.hid (HR0.out.all N0.out)
  have R1 := Lib.hid (HR1.out.all N0.out)
  clear te fr hr0 HA HR0 HR1
  obtain ⟨zr, hzr⟩ : ∃ y, (z : Int) / C = y := ⟨_, rfl⟩
  obtain ⟨zc, hzc⟩ : ∃ y, (z : Int) % C = y := ⟨_, rfl⟩
  rw [hzr, hzc] at TG0 ⊢
  have HE : Hid (∀ a, Gw.eqB C k z a = ((Gw.rwA C k a == zr) && (Gw.clA C k a == zc))) := Lib.hid (fun a => by unfold Gw.eqB; rw [hzr, hzc])
  clear hzr hzc
  refine wpIn_rangeFunc_ownH hro h1 (gf := 90) (lb := #[.pointer (some ⟨q, 0, none⟩), .pointer (some ⟨w3.heap.size, 0, none⟩)]) rfl trivial (enters_of Tryd.func90 (by kernel_rfl) rfl)
    (steps_stops (n - 1) (by omega) W0.heap.size R C k g0 0 zs.length cap g cap' q w3.heap.size s zs HG.out hk W0 SK0.out hA0.out (Nat.le_refl _)) belowK_t (belowK_b (Nat.le_refl _)) (Below.refl _ _) (fun _ => rfl)
    (fun pre W => (Whole W (w.heap.size + 1) 2 #[.int .i64 0] ∧ Whole W (w.heap.size + 1 + 1) 2 #[.int .i64 0] ∧ Whole W w2.heap.size 59 #[.int .i64 zr, .int .i64 zc]) ∧ (Below W0.heap.size W0 W ∧ ∀ y ∈ pre, Gw.eqB C k z y.1 = false))
    (fun c pre W => (Whole W (w.heap.size + 1) 2 #[.int .i64 (lastF R C s zs k pre)] ∧ Whole W (w.heap.size + 1 + 1) 2 #[.int .i64 0]) ∧ (Below w.heap.size w W ∧ (c = .ret ∧ ∃ p x, pre = p ++ [x] ∧ (∀ y ∈ p, Gw.eqB C k z y.1 = false) ∧ Gw.eqB C k z x.1 = true)))
    (OwnFrom.and (OwnFrom.and (Own.from (whole_own _ _ (fun _ => #[.int .i64 0])) _) (OwnFrom.and (Own.from (whole_own _ _ (fun _ => #[.int .i64 0])) _) (Own.from (whole_own _ _ (fun _ => #[.int .i64 zr, .int .i64 zc])) _))) (OwnFrom.and (ownFrom_below (Nat.le_refl _) (Nat.le_refl _)) (ownFrom_pure _ _)))
    (fun c => OwnFrom.and (OwnFrom.and (Own.from (whole_own _ _ (fun pre => #[.int .i64 (lastF R C s zs k pre)])) _) (Own.from (whole_own _ _ (fun _ => #[.int .i64 0])) _)) (OwnFrom.and (ownFrom_below (Nat.le_refl _) (by omega)) (ownFrom_pure _ _)))
    ⟨⟨R0.out, R1.out, TG0.out⟩, Below.refl _ _, by simp⟩
    (fun x a' W => ∃ Bx, W0.heap.size ≤ Bx ∧ Whole W Bx 61 (stC R C s zs k (some x.1)) ∧ a' = { tmps := #[Value.agg #[Value.int IntKind.i64 ↑R, Value.int IntKind.i64 ↑C, Value.int IntKind.i64 s, Value.slice (some { block := g0, off := 0 }) zs.length cap], Value.int IntKind.i64 ↑k, Value.int IntKind.i64 ↑z, Value.pointer (some { block := w.heap.size, off := 0 }), undef, undef, Value.pointer (some { block := w.heap.size + 1, off := 0 }), Value.pointer (some { block := w.heap.size + 1 + 1, off := 0 }), Value.int IntKind.i64 0, Value.pointer (some { block := w2.heap.size, off := 0 }), Value.pointer (some ⟨Bx, 0, none⟩), Value.agg #[Value.int IntKind.i64 ↑R, Value.int IntKind.i64 ↑C, Value.int IntKind.i64 s, Value.slice (some { block := g0, off := 0 }) zs.length cap], Value.int IntKind.i64 ↑k, Value.int IntKind.i64 ↑z, Value.slice (some { block := w.heap.size + 1 + 1 + 1, off := 0 }) 2 2, Value.int IntKind.i64 0, Value.int IntKind.i64 0, Value.bool false, undef, Value.int IntKind.i64 ↑z, Value.pointer (some { block := w.heap.size, off := 1 }), Value.int IntKind.i64 ↑C, Value.agg #[Value.int IntKind.i64 zr, Value.int IntKind.i64 zc], Value.agg #[Value.int IntKind.i64 ↑R, Value.int IntKind.i64 ↑C, Value.int IntKind.i64 s, Value.slice (some { block := g0, off := 0 }) zs.length cap], Value.agg #[Value.int IntKind.i64 ↑R, Value.int IntKind.i64 ↑C, Value.int IntKind.i64 s, Value.slice (some { block := g0, off := 0 }) zs.length cap, Value.slice (some { block := g, off := 0 }) R cap'], Value.int IntKind.i64 ↑k, Value.func (Fn.func 90) #[] #[Value.pointer (some { block := q, off := 0 }), Value.pointer (some { block := w3.heap.size, off := 0 })], stepV R C s zs k x.1, undef, undef, undef, undef, undef, undef], defers := [] })
    (fun x a' _ X Y row hs hg hr => by obtain ⟨Bx, h1, h2, h3⟩ := hs; exact ⟨Bx, h1, whole_own Bx _ (fun (_ : Unit) => stC R C s zs k (some x.1)) () X Y row h2 hg (fun r e => (hr r e).2), h3⟩)
    ?assign ?body ?done ?stop
  case assign =>
    rintro l pre x W K ⟨⟨b1, b2, b3⟩, hB1, hp⟩ hK
    have hst : stepV R C s zs k x.1 = .agg (stC R C s zs k (some x.1)) := rfl
    obtain ⟨d0, p0, q0, hc⟩ := stC_five R C s zs k (some x.1)
    rw [hst] at hK ⊢
    rw [hc] at hK ⊢
    have hW := hB1.size
    generalize dnO R C zs k (some x.1) = d1 at *
    generalize Gw.slO R C s zs k (some x.1) = d2 at *
    clear hst hc
    gi_wp2_with fail
    exact hK _ _ ((KeepsOthers.alloc _ _).from _) ((Below.refl _ W).alloc hW _) ⟨⟨b1.alloc _, b2.alloc _, b3.alloc _⟩, hB1.alloc hW _, hp⟩ ⟨W.heap.size, hW, Whole.new W _ _, rfl⟩
  case body =>
    rintro l pre x a' W hl _ ⟨⟨b1, b2, b3⟩, hB1, hp⟩ ⟨Bx, hBx, bX, rfl⟩ hlt
    have hst : stepV R C s zs k x.1 = .agg (stC R C s zs k (some x.1)) := rfl
    rw [hst]
    rw [stC_eq] at bX ⊢
    have hEx := HE.out x.1
    have hq1 : rO C k (some x.1) = Gw.rwA C k x.1 := rfl
    have hq2 : cO C k (some x.1) = Gw.clA C k x.1 := rfl
    rw [hq1, hq2] at bX ⊢
    have HL := Lib.hid (lastF_snoc R C s zs k pre x)
    have hBW : Hid (Below w.heap.size w W) := Lib.hid (bt B00.out hB1)
    clear hst hq1 hq2
    generalize dO (some x.1) = d0 at *
    generalize Gw.rwA C k x.1 = p0 at *
    generalize Gw.clA C k x.1 = q0 at *
    generalize dnO R C zs k (some x.1) = d1 at *
    generalize Gw.slO R C s zs k (some x.1) = d2 at *
    have x0 := bX.at_ 0; have x1 := bX.at_ 1; have x2 := bX.at_ 2; have x3 := bX.at_ 3; have x4 := bX.at_ 4
    have y0 := b3.at_ 0; have y1 := b3.at_ 1
    have u0 := b1.at_ 0; have u1 := b1.free 0; have v0 := b2.at_ 0; have v1 := b2.free 0
    have HB1 := Lib.hid b1; have HB2 := Lib.hid b2; have HB3 := Lib.hid b3
    clear b1 b2 b3
    cases hE : Gw.eqB C k z x.1 with
    | true =>
      rw [hE] at hEx
      have hh := hEx.symm
      rw [Bool.and_eq_true, beq_iff_eq, beq_iff_eq] at hh
      obtain ⟨rfl, rfl⟩ := hh
      have hne1 : Bx ≠ w.heap.size + 1 := by omega
      have hne2 : Bx ≠ w.heap.size + 1 + 1 := by omega
      have HEx := Lib.hid hE
      clear hEx hE
      gi_wp2_with fail
      refine ⟨((KeepsOthers.setCell _ _ _).trans (KeepsOthers.setCell _ _ _)).from _, ⟨?_, ?_⟩, Below.setCell (p := ⟨w.heap.size + 1 + 1, 0, none⟩) (Below.setCell (p := ⟨w.heap.size + 1, 0, none⟩) hBW.out (by show w.heap.size ≤ w.heap.size + 1; omega) _) (by show w.heap.size ≤ w.heap.size + 1 + 1; omega) _, rfl, pre, x, rfl, hp, HEx.out⟩
      · rw [HL.out]
        exact (BX.put (n := w.heap.size + 2) (x := w.heap.size + 1 + 1) _ 0 _).whole (by have := HB1.out.put 0 (.int .i64 d2); simpa using this) (by omega) (by omega)
      · have := ((BX.put (n := w.heap.size + 3) (x := w.heap.size + 1) W 0 (.int .i64 d2)).whole HB2.out (by omega) (by omega)).put 0 (.int .i64 0)
        simpa using this
    | false =>
      rw [hE] at hEx
      have hh := hEx.symm
      have HEx := Lib.hid hE
      clear hEx hE
      have HP : Hid (∀ y ∈ pre ++ [x], Gw.eqB C k z y.1 = false) := Lib.hid (fun y hy => by
        rcases List.mem_append.1 hy with h | h
        · exact hp y h
        · rw [List.mem_singleton.1 h]; exact HEx.out)
      by_cases hp0 : p0 = zr
      · have hq0 : ¬ q0 = zc := by
          intro h
          rw [hp0, h] at hh
          simp at hh
        subst hp0
        clear hh
        gi_wp2_with fail
        all_goals exact ⟨KeepsFrom.refl _ _, Below.refl _ _, ⟨HB1.out, HB2.out, HB3.out⟩, hB1, HP.out⟩
      · clear hh
        gi_wp2_with fail
        all_goals exact ⟨KeepsFrom.refl _ _, Below.refl _ _, ⟨HB1.out, HB2.out, HB3.out⟩, hB1, HP.out⟩
  case done =>
    rintro D ys W hD hS ⟨⟨b1, b2, b3⟩, hB1, hp⟩ hK
    have hne1 : Hid (w.heap.size + 1 ≠ D) := Lib.hid (by omega)
    have hne2 : Hid (w.heap.size + 1 + 1 ≠ D) := Lib.hid (by omega)
    have hw : Hid (Gw.way R C k z 0 8 = -1) := Lib.hid (Gw.way_no HG.out.c1 (by omega) hS hp)
    have hBW : Hid (Below w.heap.size w W) := Lib.hid (bt B00.out hB1)
    have HB1 := Lib.hid b1; have HB2 := Lib.hid b2
    have HKK := Lib.hid hK
    have u0 := b1.at_ 0; have u1 := b1.free 0; have v0 := b2.at_ 0; have v1 := b2.free 0
    clear b1 b2 b3 hS hp hK
    gi_wp2_with fail
    have BP := Lib.hid (Below.setCell (p := ⟨w.heap.size + 1 + 1, 0, none⟩) (Below.setCell (p := ⟨w.heap.size + 1, 0, none⟩) hBW.out (by show w.heap.size ≤ w.heap.size + 1; omega) (.int .i64 0)) (by show w.heap.size ≤ w.heap.size + 1 + 1; omega) (.int .i64 6))
    have P1 : Hid (Whole ((W.setCell ⟨w.heap.size + 1, 0, none⟩ (.int .i64 0)).setCell ⟨w.heap.size + 1 + 1, 0, none⟩ (.int .i64 6)) (w.heap.size + 1) 2 #[.int .i64 0]) := Lib.hid ((BX.put (n := w.heap.size + 2) (x := w.heap.size + 1 + 1) _ 0 _).whole (by have := HB1.out.put 0 (.int .i64 0); simpa using this) (by omega) (by omega))
    have P2 : Hid (Whole ((W.setCell ⟨w.heap.size + 1, 0, none⟩ (.int .i64 0)).setCell ⟨w.heap.size + 1 + 1, 0, none⟩ (.int .i64 6)) (w.heap.size + 1 + 1) 2 #[.int .i64 6]) := Lib.hid (by
      have := ((BX.put (n := w.heap.size + 3) (x := w.heap.size + 1) W 0 (.int .i64 0)).whole HB2.out (by omega) (by omega)).put 0 (.int .i64 6)
      simpa using this)
    have KD : Hid (((W.setCell ⟨w.heap.size + 1, 0, none⟩ (.int .i64 0)).setCell ⟨w.heap.size + 1 + 1, 0, none⟩ (.int .i64 6)).heap[D]? = some (.deferred (some []))) := Lib.hid (by
      exact (((BX.put (n := D + 1) (x := w.heap.size + 1) W 0 _).block D (by omega) (Ne.symm hne1.out)) ▸ ((BX.put (n := D + 1) (x := w.heap.size + 1 + 1) (W.setCell ⟨w.heap.size + 1, 0, none⟩ (.int .i64 0)) 0 (.int .i64 6)).block D (by omega) (Ne.symm hne2.out))).trans HKK.out)
    generalize (W.setCell ⟨w.heap.size + 1, 0, none⟩ (.int .i64 0)).setCell ⟨w.heap.size + 1 + 1, 0, none⟩ (.int .i64 6) = W9 at *
    refine ⟨by simp, .inl ⟨_, _, rfl, run_takeDeferred KD.out, ?_⟩⟩
    have c1' := (P1.out.far (grownBy_putObj' W9 D (.deferred none)) hne1.out).at_ 0
    have c2' := (P2.out.far (grownBy_putObj' W9 D (.deferred none)) hne2.out).at_ 0
    exact ⟨.tuple #[.int .i64 0, .int .i64 6], by simp [results, Tryd.results27, go_sem, c1', c2'], Or.inr ⟨hw.out, rfl⟩, BP.out.trans (belowK_b (w := w) (Nat.le_refl _) W9 D _ _ (by omega) KD.out rfl rfl)⟩
  case stop =>
    rintro D c pre W hD hS ⟨⟨b1, b2⟩, hB1, rfl, p, x, rfl, hp, hx⟩ hK
    have hne1 : Hid (w.heap.size + 1 ≠ D) := Lib.hid (by omega)
    have hne2 : Hid (w.heap.size + 1 + 1 ≠ D) := Lib.hid (by omega)
    obtain ⟨a9, ha9, hU⟩ := hS
    have hgz := (Gw.eqB_iff x.2.2 HG.out.c1).1 hx
    have hw : Hid (Gw.way R C k z 0 8 = (x.1 : Int)) := Lib.hid (Gw.way_yes HG.out.c1 (by omega) hU hp hx)
    have hf : lastF R C s zs k (p ++ [x]) = Gw.fall s zs k z x.1 := by
      rw [lastF_snoc]
      show Gw.fall s zs k (Gw.goC R C k x.1).toNat x.1 = _
      rw [hgz, Int.toNat_natCast]
    rw [hf] at b1
    have HKK := Lib.hid hK
    clear hf hgz hp hx hU hK
    gi_wp2
    refine ⟨by simp, .inl ⟨_, _, rfl, run_takeDeferred HKK.out, ?_⟩⟩
    have c1' := (b1.far (grownBy_putObj' W D (.deferred none)) hne1.out).at_ 0
    have c2' := (b2.far (grownBy_putObj' W D (.deferred none)) hne2.out).at_ 0
    exact ⟨.tuple #[.int .i64 (Gw.fall s zs k z x.1), .int .i64 0], by simp [results, Tryd.results27, go_sem, c1', c2'], Or.inl ⟨x.1, hw.out, rfl⟩, hB1.trans (belowK_b (w := w) (Nat.le_refl _) W D _ _ (by omega) HKK.out rfl rfl)⟩
end Go.Proofs.YtobcflcmlejajabDoor
