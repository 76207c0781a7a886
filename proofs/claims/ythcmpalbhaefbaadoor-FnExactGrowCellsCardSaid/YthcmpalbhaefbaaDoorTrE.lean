/-
  The iterator over the steps from a cell. The conditions: a good grid; the table of ways as it is laid.
-/
import Derived.Test.YthcmpalbhaefbaaDoorTrD
import Derived.Test.YthcmpalbhaefbaaDoorGRow
import Derived.Test.YthcmpalbhaefbaaDoorGs
namespace Go.Proofs.YthcmpalbhaefbaaDoor
open Go.RowKit Go.Shelf Go.Deep
set_option linter.unusedVariables false
set_option maxRecDepth 100000
attribute [local go_sem] Oper.semAt_some
theorem below_grows {w w' : World} (h : Below w.heap.size w w') : w.grownBy w' none := ⟨h.os, h.tape, h.output, h.size, fun i hi _ => h.block i hi⟩
theorem far5 {w : World} {q p i : Nat} {u0 u1 u2 u3 u4 v : Value} (hn : p ≠ q) (h : w.cell? ⟨p, i, none⟩ = some v) :
    (((((w.setCell ⟨q, 0, none⟩ u0).setCell ⟨q, 1, none⟩ u1).setCell ⟨q, 2, none⟩ u2).setCell ⟨q, 3, none⟩ u3).setCell ⟨q, 4, none⟩ u4).cell? ⟨p, i, none⟩ = some v := by
  rw [World.cell?_setCell_other, World.cell?_setCell_other, World.cell?_setCell_other, World.cell?_setCell_other, World.cell?_setCell_other] <;> first | exact h | (simp; done) | simpa using hn
theorem put5 {w : World} {q : Nat} {t : TypeId} {z0 z1 z2 z3 z4 : Value} (h : Whole w q t #[z0, z1, z2, z3, z4]) (u0 u1 u2 u3 u4 : Value) :
    Whole (((((w.setCell ⟨q, 0, none⟩ u0).setCell ⟨q, 1, none⟩ u1).setCell ⟨q, 2, none⟩ u2).setCell ⟨q, 3, none⟩ u3).setCell ⟨q, 4, none⟩ u4) q t #[u0, u1, u2, u3, u4] := by
  have := ((((Whole.put h 0 u0).put 1 u1).put 2 u2).put 3 u3).put 4 u4
  simpa using this
theorem below5 {w0 w : World} {q : Nat} (h : Below w0.heap.size w0 w) (hq : w0.heap.size ≤ q) (u0 u1 u2 u3 u4 : Value) :
    Below w0.heap.size w0 (((((w.setCell ⟨q, 0, none⟩ u0).setCell ⟨q, 1, none⟩ u1).setCell ⟨q, 2, none⟩ u2).setCell ⟨q, 3, none⟩ u3).setCell ⟨q, 4, none⟩ u4) :=
  ((((h.setCell (p := ⟨q, 0, none⟩) hq _).setCell (p := ⟨q, 1, none⟩) hq _).setCell (p := ⟨q, 2, none⟩) hq _).setCell (p := ⟨q, 3, none⟩) hq _).setCell (p := ⟨q, 4, none⟩) hq _
namespace Gw
def ways : List (List Int) := [[-1, 0], [-1, 1], [0, 1], [1, 1], [1, 0], [1, -1], [0, -1], [-1, -1]]
/-- the directions of the steps from a cell -/
abbrev Dir (r c k : Int) := { a : Nat // a < 8 ∧ goB r c k a = true }
/-- these are the steps in the first a directions -/
def UpTo (r c k : Int) (a : Nat) (ys : List (Dir r c k)) : Prop := ys.map (fun x => x.1) = (List.range a).filter (goB r c k)
theorem upTo_no {r c k : Int} {a : Nat} {pre : List (Dir r c k)} (h : UpTo r c k a pre) (hg : goB r c k a = false) : UpTo r c k (a + 1) pre := by
  unfold UpTo at *
  rw [List.range_succ, List.filter_append, h]; simp [hg]
theorem upTo_yes {r c k : Int} {a : Nat} {pre : List (Dir r c k)} (h : UpTo r c k a pre) (ha : a < 8) (hg : goB r c k a = true) : UpTo r c k (a + 1) (pre ++ [⟨a, ha, hg⟩]) := by
  unfold UpTo at *
  rw [List.range_succ, List.filter_append, List.map_append, h]; simp [hg]
theorem upTo_len {r c k : Int} {a : Nat} {pre : List (Dir r c k)} (h : UpTo r c k a pre) : pre.length ≤ a := by
  unfold UpTo at h
  have := congrArg List.length h
  rw [List.length_map] at this
  have h2 := List.length_filter_le (goB r c k) (List.range a)
  rw [List.length_range] at h2
  omega
end Gw
/-- a step from a cell -/
def stepV (r c s : Int) (zs : List Int) (k a : Nat) : Value :=
  .agg #[.int .i64 a, .int .i64 (Gw.rwA c k a), .int .i64 (Gw.clA c k a), .int .i64 (Gw.drp zs k (Gw.goC r c k a).toNat), .int .i64 (Gw.fall s zs k (Gw.goC r c k a).toNat a)]
/-- the table of ways -/
def AspAt (w : World) : Prop := ∀ (i : Nat) (r : List Int), Gw.ways[i]? = some r → ∀ (j : Nat) (z : Int), r[j]? = some z → w.cell? ⟨0, i * 2 + j, none⟩ = some (.int .i64 z)
theorem AspAt.below {w w1 : World} (h : AspAt w) (hb : Below w.heap.size w w1) : AspAt w1 := by
  intro i r hr j z hz
  have e := h i r hr j z hz
  exact (hb.cell (p := ⟨0, i * 2 + j, none⟩) (World.block_lt_of_cell? w _ e)).trans e
theorem gAsp : Tryd.prog.globalNamed "loop.example/g01013/impl.aspectWays" = some 0 := by kernel_rfl
theorem tAsp : (Tryd.prog.globals[0]?).map (·.type) = some 123 := by kernel_rfl
theorem asp_of {l : List (String × DataW Unit)} {w : World} (h : laidMet Tryd.prog l w) (hf : (l.filter fun x => x.1 == "loop.example/g01013/impl.aspectWays") = [("loop.example/g01013/impl.aspectWays", rowsData Gw.ways)]) : AspAt w := by
  have h' := laidMet.filter (fun x => x.1 == "loop.example/g01013/impl.aspectWays") h
  rw [hf] at h'
  exact rowsAt_of_head (rest := []) gAsp tAsp Tryd.underlying123 Tryd.underlying72 (by as_aux_lemma => kernel_rfl) (by as_aux_lemma => kernel_rfl) (by as_aux_lemma => kernel_rfl) Tryd.underlying2 h'
/-- what the iterator reads -/
structure SK (n₀ : Nat) (W : World) (R C k hb ho L cap g cap' qf qt : Nat) (s : Int) (zs : List Int) : Prop where
  te : TeAt W qt R C s (.slice (some ⟨hb, ho, none⟩) L cap) (.slice (some ⟨g, 0, none⟩) R cap')
  fr : Whole W qf 72 #[.int .i64 ((k : Int) / C), .int .i64 ((k : Int) % C)]
  rw : RowsAt W g hb ho C R
  hs : ∀ j x, zs[j]? = some x → W.cell? ⟨hb, ho + j, none⟩ = some (.int .i64 x)
  b1 : hb < n₀
  b2 : g < n₀
  b3 : qf < n₀
  b4 : qt < n₀
theorem SK.below {n₀ : Nat} {W W' : World} {R C k hb ho L cap g cap' qf qt : Nat} {s : Int} {zs : List Int} (h : SK n₀ W R C k hb ho L cap g cap' qf qt s zs) (hB : Below n₀ W W') : SK n₀ W' R C k hb ho L cap g cap' qf qt s zs :=
  ⟨Whole.below h.te hB h.b4, Whole.below h.fr hB h.b3, h.rw.below hB h.b2, fun j x hx => (hB.cell (p := ⟨hb, ho + j, none⟩) h.b1).trans (h.hs j x hx), h.b1, h.b2, h.b3, h.b4⟩
theorem good_len {R C : Nat} {s : Int} {zs : List Int} (G : Gw.Good R C s zs) : zs.length = R * C := by have := G.n; exact_mod_cast this
theorem hgt_from {n₀ : Nat} {W : World} {R C k hb ho L cap g cap' qf qt : Nat} {s : Int} {zs : List Int} (h : SK n₀ W R C k hb ho L cap g cap' qf qt s zs) (G : Gw.Good R C s zs) (hk : k < zs.length) :
    Calls Tryd.prog 99 #[.agg #[.int .i64 R, .int .i64 C, .int .i64 s, .slice (some ⟨hb, ho, none⟩) L cap, .slice (some ⟨g, 0, none⟩) R cap'], .agg #[.int .i64 ((k : Int) / C), .int .i64 ((k : Int) % C)]] W fun e w' => e = .returned (.int .i64 (zs.getD k 0)) ∧ Below W.heap.size W w' := by
  have r2 := G.r2; have c1 := G.c1; have c2 := G.c2
  have hn := good_len G
  have h1 : k / C < R := Nat.div_lt_of_lt_mul (by rw [Nat.mul_comm]; omega)
  have h2 : k % C < C := Nat.mod_lt _ (by omega)
  have e : k / C * C + k % C = k := Nat.div_add_mod' k C
  have hx := h.hs k (zs.getD k 0) (by rw [List.getD_eq_getElem?_getD, List.getElem?_eq_getElem hk]; rfl)
  have := height_any W R C hb ho L cap g cap' s (k / C) (k % C) (zs.getD k 0) h.rw h1 h2 (by omega) (by omega) (by rw [Nat.add_assoc, e]; exact hx)
  exact this
theorem hgt_to {n₀ : Nat} {W : World} {R C k hb ho L cap g cap' qf qt : Nat} {s : Int} {zs : List Int} {a : Nat} (h : SK n₀ W R C k hb ho L cap g cap' qf qt s zs) (G : Gw.Good R C s zs) (hg : Gw.goB R C k a = true) :
    Calls Tryd.prog 99 #[.agg #[.int .i64 R, .int .i64 C, .int .i64 s, .slice (some ⟨hb, ho, none⟩) L cap, .slice (some ⟨g, 0, none⟩) R cap'], .agg #[.int .i64 (Gw.rwA C k a), .int .i64 (Gw.clA C k a)]] W fun e w' => e = .returned (.int .i64 (zs.getD (Gw.goC R C k a).toNat 0)) ∧ Below W.heap.size W w' := by
  have r2 := G.r2; have c1 := G.c1; have c2 := G.c2
  have hn := good_len G
  obtain ⟨z0, zl⟩ := Gw.goC_lt hg G.c1 G.n
  have hd : Gw.goC R C k a = Gw.rwA C k a * C + Gw.clA C k a := by unfold Gw.goC; rw [if_pos hg]
  unfold Gw.goB Gw.isAt at hg
  rw [Bool.and_eq_true] at hg
  obtain ⟨y1, y2⟩ := Gw.inB_iff.1 hg.1
  obtain ⟨y3, y4⟩ := Gw.inB_iff.1 hg.2
  generalize Gw.rwA C k a = rw' at *
  generalize Gw.clA C k a = cl' at *
  obtain ⟨rn, rfl⟩ := Int.eq_ofNat_of_zero_le y1
  obtain ⟨cn, rfl⟩ := Int.eq_ofNat_of_zero_le y3
  have e : (Gw.goC R C k a).toNat = rn * C + cn := by rw [hd]; rw [← Int.natCast_mul, ← Int.natCast_add]; rfl
  rw [e] at zl ⊢
  have hx := h.hs (rn * C + cn) (zs.getD (rn * C + cn) 0) (by rw [List.getD_eq_getElem?_getD, List.getElem?_eq_getElem zl]; rfl)
  exact height_any W R C hb ho L cap g cap' s rn cn (zs.getD (rn * C + cn) 0) h.rw (by omega) (by omega) (by omega) (by omega) (by rw [Nat.add_assoc]; exact hx)
theorem idx_way (a : Nat) (ha : a < 8) (w : World) : Sem.run Tryd.prog (Instr.index 123 (.agg #[.int .i64 (-1), .int .i64 0, .int .i64 (-1), .int .i64 1, .int .i64 0, .int .i64 1, .int .i64 1, .int .i64 1, .int .i64 1, .int .i64 0, .int .i64 1, .int .i64 (-1), .int .i64 0, .int .i64 (-1), .int .i64 (-1), .int .i64 (-1)]) (.int .i64 a)) w = .ok (.agg #[.int .i64 (Gw.drs.getD a 0), .int .i64 (Gw.dcs.getD a 0)]) w := by
  have : a = 0 ∨ a = 1 ∨ a = 2 ∨ a = 3 ∨ a = 4 ∨ a = 5 ∨ a = 6 ∨ a = 7 := by omega
  rcases this with rfl | rfl | rfl | rfl | rfl | rfl | rfl | rfl <;> first | rfl | (simp [go_sem]; done)
set_option maxHeartbeats 8000000 in
theorem steps1_in (n : Nat) (hn : 1 ≤ n) (l n₀ R C k hb ho L cap g cap' qf qt : Nat) (s : Int) (zs : List Int) (G : Gw.Good R C s zs) (hk : k < zs.length) (J Jx : List (Gw.Dir R C k) → World → Prop)
    (hJd : ∀ pre w w', J pre w → Below w.heap.size w w' → J pre w')
    (hY : ∀ pre x W, J pre W → pre.length < 8 → YieldAt Fence.wide (n - 1) Tryd.prog l #[stepV R C s zs k x.1] W fun e W' =>
      (e = .returned (.bool true) ∧ J (pre ++ [x]) W' ∧ Below n₀ W W') ∨ (e = .returned (.bool false) ∧ Jx (pre ++ [x]) W'))
    (W : World) (hW : SK n₀ W R C k hb ho L cap g cap' qf qt s zs) (hA : AspAt W) (hn0 : n₀ ≤ W.heap.size) (h0 : J [] W) :
    CallsIn Fence.wide n Tryd.prog 96 #[.func (.yield l) #[] #[], .pointer (some ⟨qf, 0, none⟩), .pointer (some ⟨qt, 0, none⟩)] W fun e W' => (∃ v, e = .returned v) ∧
      ((∃ ys : List (Gw.Dir R C k), Gw.UpTo R C k 8 ys ∧ J ys W') ∨ (∃ (a : Nat) (pre : List (Gw.Dir R C k)), a ≤ 8 ∧ Gw.UpTo R C k a pre ∧ Jx pre W')) := by
  have a00 := hA 0 _ rfl 0 _ rfl; have a01 := hA 0 _ rfl 1 _ rfl
  have a10 := hA 1 _ rfl 0 _ rfl; have a11 := hA 1 _ rfl 1 _ rfl
  have a20 := hA 2 _ rfl 0 _ rfl; have a21 := hA 2 _ rfl 1 _ rfl
  have a30 := hA 3 _ rfl 0 _ rfl; have a31 := hA 3 _ rfl 1 _ rfl
  have a40 := hA 4 _ rfl 0 _ rfl; have a41 := hA 4 _ rfl 1 _ rfl
  have a50 := hA 5 _ rfl 0 _ rfl; have a51 := hA 5 _ rfl 1 _ rfl
  have a60 := hA 6 _ rfl 0 _ rfl; have a61 := hA 6 _ rfl 1 _ rfl
  have a70 := hA 7 _ rfl 0 _ rfl; have a71 := hA 7 _ rfl 1 _ rfl
  refine callsIn_of_wp Tryd.func96 rfl trivial ?_ rfl
  simp only [Tryd.ntmps96, List.size_toArray, List.length_cons, List.length_nil, Nat.reduceAdd, Nat.reduceSub, Array.replicate_succ, Array.replicate_zero, List.push_toArray, List.append_toArray, List.nil_append, List.cons_append]
  gi_wp2
  clear a00 a01 a10 a11 a20 a21 a30 a31 a40 a41 a50 a51 a60 a61 a70 a71
  gi_loopw [9] (fun i wr => ∃ (a : Nat) (pre : List (Gw.Dir R C k)), a ≤ 8 ∧ i = .int .i64 a ∧ Hid (Gw.UpTo R C k a pre) ∧ Hid (J pre wr) ∧ Hid (Below n₀ W wr))
    (fun i _ => 8 - (intOf i).toNat)
  case atStart => exact ⟨0, [], Nat.zero_le _, rfl, Lib.hid rfl, Lib.hid h0, Lib.hid (Below.refl _ _)⟩
  case round =>
    obtain ⟨a, pre, ha, rfl, hp, hJs, hnx⟩ := hrel
    by_cases hlt : a < 8
    · have hltz : (a : Int) < 8 := by omega
      have hidx := idx_way a hlt wr
      obtain ⟨dr0, dr1⟩ := Gw.drs_bd a
      obtain ⟨dc0, dc1⟩ := Gw.dcs_bd a
      obtain ⟨f0, f1, f2, f3⟩ := Gw.place_bd G.c1 G.c2 (show (0 : Int) ≤ (k : Int) by omega) (show (k : Int) ≤ 63 by have := G.len; omega)
      have CA := Lib.hid (fun W => after_any ((k : Int) / C) ((k : Int) % C) (Gw.drs.getD a 0) (Gw.dcs.getD a 0) W (by omega) (by omega) (by omega) (by omega) (by omega) (by omega) (by omega) (by omega))
      have CI := Lib.hid (fun W => placeIn_any ((k : Int) / C + Gw.drs.getD a 0) ((k : Int) % C + Gw.dcs.getD a 0) R C W)
      have hgo : (Ar.inB 0 ((k : Int) / C + Gw.drs.getD a 0) (wrap64 ((R : Int) - 1)) && Ar.inB 0 ((k : Int) % C + Gw.dcs.getD a 0) (wrap64 ((C : Int) - 1))) = Gw.goB R C k a := by
        have r1 := G.r1; have r2 := G.r2; have c1 := G.c1; have c2 := G.c2
        rw [IntWalk.wrap64_in _ ⟨by omega, by omega⟩, IntWalk.wrap64_in _ ⟨by omega, by omega⟩]; rfl
      rw [hgo] at CI
      clear hgo
      have hw0 : n₀ ≤ wr.heap.size := Nat.le_trans hn0 hnx.out.size
      have K0 := Lib.hid (fun W' (h : Below wr.heap.size wr W') => hW.below (hnx.out.trans (h.mono hw0)))
      obtain ⟨x0, x1, x2, x3, x4⟩ := (K0.out wr (Below.refl _ _)).te.five
      have y0 := (K0.out wr (Below.refl _ _)).fr.at_ 0
      have y1 := (K0.out wr (Below.refl _ _)).fr.at_ 1
      have qfl := (K0.out wr (Below.refl _ _)).fr.lt
      have qtl := (K0.out wr (Below.refl _ _)).te.lt
      have HRW : Hid (Gw.rwA C k a = (k : Int) / C + Gw.drs.getD a 0) := Lib.hid rfl
      have HCL : Hid (Gw.clA C k a = (k : Int) % C + Gw.dcs.getD a 0) := Lib.hid rfl
      obtain ⟨rw', hrw⟩ : ∃ z, (k : Int) / C + Gw.drs.getD a 0 = z := ⟨_, rfl⟩
      obtain ⟨cl', hcl⟩ : ∃ z, (k : Int) % C + Gw.dcs.getD a 0 = z := ⟨_, rfl⟩
      rw [hrw, hcl] at CA CI
      rw [hrw] at HRW
      rw [hcl] at HCL
      clear hrw hcl
      generalize Gw.drs.getD a 0 = dr at *
      generalize Gw.dcs.getD a 0 = dc at *
      have b5 := Lib.hid ((Below.refl wr.heap.size wr).alloc (Nat.le_refl _) (.cells #[.int .i64 dr, .int .i64 dc] 72))
      have t5 := Lib.hid (Whole.new wr 72 #[.int .i64 dr, .int .i64 dc])
      gi_wp2_with fail
      refine ⟨trivial, (callsIn_wide.2 (CA.out _)).mono ?_⟩
      rintro e w1 ⟨rfl, b1⟩
      have B1 := Lib.hid (bt b5.out b1)
      have B6 := Lib.hid (B1.out.alloc B1.out.size (.cells #[.int .i64 rw', .int .i64 cl'] 72))
      have T6 := Lib.hid (Whole.new w1 72 #[.int .i64 rw', .int .i64 cl'])
      clear b1 x0 x1 x2 x3 x4 y0 y1 qfl qtl t5 b5 hidx CA
      obtain ⟨x0, x1, x2, x3, x4⟩ := (K0.out _ B6.out).te.five
      have qtl := (K0.out _ B1.out).te.lt
      cases hg : Gw.goB R C k a with
      | false =>
        rw [hg] at CI
        gi_wp2_with fail
        refine ⟨trivial, (callsIn_wide.2 (CI.out _)).mono ?_⟩
        rintro e w2 ⟨rfl, b2⟩
        have B2 := Lib.hid (bt B6.out b2)
        clear b2 x0 x1 x2 x3 x4
        gi_wp2_with fail
        go_roundw
        case rel => exact ⟨a + 1, pre, by omega, by simp, Lib.hid (Gw.upTo_no hp.out hg), Lib.hid (hJd _ _ _ hJs.out B2.out), Lib.hid (hnx.out.trans (B2.out.mono hw0))⟩
        case measure => simp [intOf]; omega
      | true =>
        rw [hg] at CI
        gi_wp2_with fail
        refine ⟨trivial, (callsIn_wide.2 (CI.out _)).mono ?_⟩
        rintro e w2 ⟨rfl, b2⟩
        have B2 := Lib.hid (bt B6.out b2)
        have T2 := Lib.hid (T6.out.all b2)
        have hp6 : w1.heap.size < w2.heap.size := by have := T2.out.lt; exact this
        clear b2 x0 x1 x2 x3 x4 T6 B6 CI
        obtain ⟨z0, zl⟩ := Gw.goC_lt hg G.c1 G.n
        obtain ⟨hd, d1, d2⟩ := Gw.drp_bd ((Gw.okHs_iff zs).2 G.h) hk zl
        have HS : Hid (stepV R C s zs k a = .agg #[.int .i64 a, .int .i64 rw', .int .i64 cl', .int .i64 (Gw.drp zs k (Gw.goC R C k a).toNat), .int .i64 (Gw.fall s zs k (Gw.goC R C k a).toNat a)]) := Lib.hid (by unfold stepV; rw [HRW.out, HCL.out])
        have CH1 := Lib.hid (fun W' (h : Below w2.heap.size w2 W') => hgt_from (K0.out W' (bt B2.out h)) G hk)
        have CH2 := Lib.hid (fun W' (h : Below w2.heap.size w2 W') => hgt_to (K0.out W' (bt B2.out h)) G hg)
        rw [HRW.out, HCL.out] at CH2
        have hwd : IntKind.i64.wrap (zs.getD k 0 - zs.getD (Gw.goC R C k a).toNat 0) = Gw.drp zs k (Gw.goC R C k a).toNat := IntWalk.i64_in _ (by unfold Gw.drp at d1 d2; omega)
        have CS := Lib.hid (fun W' f => slopeOf_any W' (R : Int) C s (.slice (some ⟨hb, ho, none⟩) L cap) (.slice (some ⟨g, 0, none⟩) R cap') a rw' cl' (Gw.drp zs k (Gw.goC R C k a).toNat) f G.s1 G.s2 d1 d2 hlt)
        have hfl : (if a % 2 = 1 then Ar.dr (Gw.drp zs k (Gw.goC R C k a).toNat * 1000000) (s * 1414) else Ar.dr (Gw.drp zs k (Gw.goC R C k a).toNat * 1000) s) = Gw.fall s zs k (Gw.goC R C k a).toNat a := rfl
        rw [hfl] at CS
        clear hfl hd d1 d2 z0 zl
        generalize zs.getD k 0 = h1 at *
        generalize zs.getD (Gw.goC R C k a).toNat 0 = h2 at *
        generalize Gw.drp zs k (Gw.goC R C k a).toNat = d at *
        generalize Gw.fall s zs k (Gw.goC R C k a).toNat a = f at *
        have KS := Lib.hid (fun W' (h : Below w2.heap.size w2 W') => (⟨(K0.out W' (bt B2.out h)).te.five, ⟨(K0.out W' (bt B2.out h)).fr.at_ 0, (K0.out W' (bt B2.out h)).fr.at_ 1⟩, (T2.out.all h).at_ 0, (T2.out.all h).at_ 1⟩ : (W'.cell? ⟨qt, 0, none⟩ = some (.int .i64 R) ∧ W'.cell? ⟨qt, 1, none⟩ = some (.int .i64 C) ∧ W'.cell? ⟨qt, 2, none⟩ = some (.int .i64 s) ∧ W'.cell? ⟨qt, 3, none⟩ = some (.slice (some ⟨hb, ho, none⟩) L cap) ∧ W'.cell? ⟨qt, 4, none⟩ = some (.slice (some ⟨g, 0, none⟩) R cap')) ∧ (W'.cell? ⟨qf, 0, none⟩ = some (.int .i64 ((k : Int) / C)) ∧ W'.cell? ⟨qf, 1, none⟩ = some (.int .i64 ((k : Int) % C))) ∧ W'.cell? ⟨w1.heap.size, 0, none⟩ = some (.int .i64 rw') ∧ W'.cell? ⟨w1.heap.size, 1, none⟩ = some (.int .i64 cl')))
        obtain ⟨⟨x0, x1, x2, x3, x4⟩, ⟨y0, y1⟩, v0, v1⟩ := KS.out w2 (Below.refl _ _)
        replace HS := Lib.hid HS.out
        replace HRW := Lib.hid HRW
        replace HCL := Lib.hid HCL
        clear HRW HCL B1 f0 f1 f2 f3 dr0 dr1 dc0 dc1
        generalize (k : Int) / (C : Int) = Fr at *
        generalize (k : Int) % (C : Int) = Fc at *
        have hYY := Lib.hid hY
        clear hY
        have hq1 : qt < w2.heap.size := (K0.out _ B2.out).te.lt
        have hq2 : qf < w2.heap.size := (K0.out _ B2.out).fr.lt
        have m1 : qt ≠ w2.heap.size := by omega
        have m2 : qf ≠ w2.heap.size := by omega
        have m3 : w1.heap.size ≠ w2.heap.size := by omega
        have KN : Hid (∀ W', Below w2.heap.size w2 W' → qt ≠ W'.heap.size ∧ qf ≠ W'.heap.size ∧ w1.heap.size ≠ W'.heap.size) := Lib.hid (fun W' h => by have := h.size; exact ⟨by omega, by omega, by omega⟩)
        have BD : Hid (Below w2.heap.size w2 w2.drew) := Lib.hid (below_drewW w2 1)
        have BDZ : Hid (Below w2.heap.size w2 ((w2.alloc (.cells #[.int .i64 0, .int .i64 0, .int .i64 0, .int .i64 0, .int .i64 0] 74)).drew)) := Lib.hid (below_drewN ((Below.refl _ w2).alloc (Nat.le_refl _) _) 1)
        have NT7 : Hid (Whole ((w2.alloc (.cells #[.int .i64 0, .int .i64 0, .int .i64 0, .int .i64 0, .int .i64 0] 74)).drew) w2.heap.size 74 #[.int .i64 0, .int .i64 0, .int .i64 0, .int .i64 0, .int .i64 0]) := Lib.hid (Whole.drewN (Whole.new w2 74 #[.int .i64 0, .int .i64 0, .int .i64 0, .int .i64 0, .int .i64 0]) 1)
        gi_wp2_with fail
        refine wpIn_wide.2 ?_
        go_region_held3 (fun w' => (w'.cell? ⟨qt, 0, none⟩ = some (.int .i64 R) ∧ w'.cell? ⟨qt, 1, none⟩ = some (.int .i64 C) ∧ w'.cell? ⟨qt, 2, none⟩ = some (.int .i64 s) ∧ w'.cell? ⟨qt, 3, none⟩ = some (.slice (some ⟨hb, ho, none⟩) L cap) ∧ w'.cell? ⟨qt, 4, none⟩ = some (.slice (some ⟨g, 0, none⟩) R cap')) ∧ (w'.cell? ⟨qf, 0, none⟩ = some (.int .i64 Fr) ∧ w'.cell? ⟨qf, 1, none⟩ = some (.int .i64 Fc)) ∧ w'.cell? ⟨w1.heap.size, 0, none⟩ = some (.int .i64 rw') ∧ w'.cell? ⟨w1.heap.size, 1, none⟩ = some (.int .i64 cl')) (first | go_keep | (refine ⟨⟨?_, ?_, ?_, ?_, ?_⟩, ⟨?_, ?_⟩, ?_, ?_⟩ <;> (with_reducible refine far5 ?_ ?_ <;> assumption)))
          (first
            | (go_at_call 99; with_reducible refine Calls.mono (CH1.out w2.drew BD.out) ?_; rintro e wA ⟨rfl, bA⟩; have BZ := Lib.hid (bt BD.out bA); clear bA; obtain ⟨⟨x0, x1, x2, x3, x4⟩, ⟨y0, y1⟩, v0, v1⟩ := KS.out _ BZ.out; obtain ⟨n1, n2, n3⟩ := KN.out _ BZ.out)
            | (go_at_call 99; with_reducible refine Calls.mono (CH2.out wA BZ.out) ?_; rintro e wB ⟨rfl, bB⟩; have BY := Lib.hid (bt BZ.out bB); have T8 := Lib.hid (Whole.all T7.out bB); clear bB; obtain ⟨⟨x0, x1, x2, x3, x4⟩, ⟨y0, y1⟩, v0, v1⟩ := KS.out _ BY.out; obtain ⟨o1, o2, o3⟩ := KN.out _ BY.out; have e0 := T8.out.at_ 0; have e1 := T8.out.at_ 1; have e2 := T8.out.at_ 2; have e3 := T8.out.at_ 3; have e4 := T8.out.at_ 4; have g0 := T8.out.free 0; have g1 := T8.out.free 1; have g2 := T8.out.free 2; have g3 := T8.out.free 3; have g4 := T8.out.free 4)
            | (go_at_call 99; with_reducible refine Calls.mono (CH2.out wA BZ.out) ?_; rintro e wB ⟨rfl, bB⟩; have BY := Lib.hid (bt BZ.out bB); clear bB; obtain ⟨⟨x0, x1, x2, x3, x4⟩, ⟨y0, y1⟩, v0, v1⟩ := KS.out _ BY.out; obtain ⟨o1, o2, o3⟩ := KN.out _ BY.out)
            | (go_at_call 99; with_reducible refine Calls.mono (CH2.out (wA.alloc (.cells #[.int .i64 0, .int .i64 0, .int .i64 0, .int .i64 0, .int .i64 0] 74)) (BZ.out.alloc BZ.out.size _)) ?_; rintro e wB ⟨rfl, bB⟩; have BY := Lib.hid (bt (BZ.out.alloc BZ.out.size (.cells #[.int .i64 0, .int .i64 0, .int .i64 0, .int .i64 0, .int .i64 0] 74)) bB); have T8 := Lib.hid (Whole.all (Whole.new wA 74 #[.int .i64 0, .int .i64 0, .int .i64 0, .int .i64 0, .int .i64 0]) bB); clear bB; obtain ⟨⟨x0, x1, x2, x3, x4⟩, ⟨y0, y1⟩, v0, v1⟩ := KS.out _ BY.out; obtain ⟨o1, o2, o3⟩ := KN.out _ BY.out; have e0 := T8.out.at_ 0; have e1 := T8.out.at_ 1; have e2 := T8.out.at_ 2; have e3 := T8.out.at_ 3; have e4 := T8.out.at_ 4; have g0 := T8.out.free 0; have g1 := T8.out.free 1; have g2 := T8.out.free 2; have g3 := T8.out.free 3; have g4 := T8.out.free 4)
            | (go_at_call 99; with_reducible refine Calls.mono (CH1.out ((w2.alloc (.cells #[.int .i64 0, .int .i64 0, .int .i64 0, .int .i64 0, .int .i64 0] 74)).drew) BDZ.out) ?_; rintro e wA ⟨rfl, bA⟩; have BZ := Lib.hid (bt BDZ.out bA); have T7 := Lib.hid (Whole.all NT7.out bA); clear bA; obtain ⟨⟨x0, x1, x2, x3, x4⟩, ⟨y0, y1⟩, v0, v1⟩ := KS.out _ BZ.out; obtain ⟨n1, n2, n3⟩ := KN.out _ BZ.out))
        all_goals (first
          | (with_reducible have P8 : Hid (Whole (((((wB.setCell ⟨wA.heap.size, 0, none⟩ (.int .i64 a)).setCell ⟨wA.heap.size, 1, none⟩ (.int .i64 rw')).setCell ⟨wA.heap.size, 2, none⟩ (.int .i64 cl')).setCell ⟨wA.heap.size, 3, none⟩ (.int .i64 d)).setCell ⟨wA.heap.size, 4, none⟩ (.int .i64 0)) wA.heap.size 74 #[.int .i64 a, .int .i64 rw', .int .i64 cl', .int .i64 d, .int .i64 0]) := Lib.hid (put5 T8.out _ _ _ _ _)
             with_reducible have B8 : Hid (Below w2.heap.size w2 (((((wB.setCell ⟨wA.heap.size, 0, none⟩ (.int .i64 a)).setCell ⟨wA.heap.size, 1, none⟩ (.int .i64 rw')).setCell ⟨wA.heap.size, 2, none⟩ (.int .i64 cl')).setCell ⟨wA.heap.size, 3, none⟩ (.int .i64 d)).setCell ⟨wA.heap.size, 4, none⟩ (.int .i64 0))) := Lib.hid (below5 BY.out BZ.out.size _ _ _ _ _)
             generalize (((((wB.setCell ⟨wA.heap.size, 0, none⟩ (.int .i64 a)).setCell ⟨wA.heap.size, 1, none⟩ (.int .i64 rw')).setCell ⟨wA.heap.size, 2, none⟩ (.int .i64 cl')).setCell ⟨wA.heap.size, 3, none⟩ (.int .i64 d)).setCell ⟨wA.heap.size, 4, none⟩ (.int .i64 0)) = W7 at *
             obtain ⟨⟨x0, x1, x2, x3, x4⟩, -, -, -⟩ := KS.out W7 B8.out
             have c0 := P8.out.at_ 0; have c1 := P8.out.at_ 1; have c2 := P8.out.at_ 2; have c3 := P8.out.at_ 3; have c4 := P8.out.at_ 4
             gi_wp2_with fail
             refine ⟨trivial, (callsIn_wide.2 (CS.out _ 0)).mono ?_⟩
             rintro e w6 ⟨rfl, b6⟩
             have P9 := Lib.hid (P8.out.all b6)
             have B9 := Lib.hid (bt B8.out b6)
             have P10 : Hid (Whole (w6.setCell ⟨wA.heap.size, 4, none⟩ (.int .i64 f)) wA.heap.size 74 #[.int .i64 a, .int .i64 rw', .int .i64 cl', .int .i64 d, .int .i64 f]) := Lib.hid (by have := P9.out.put 4 (.int .i64 f); simpa using this)
             have B10 : Hid (Below wr.heap.size wr (w6.setCell ⟨wA.heap.size, 4, none⟩ (.int .i64 f))) := Lib.hid (Below.setCell (p := ⟨wA.heap.size, 4, none⟩) (bt B2.out B9.out) (Nat.le_trans B2.out.size (by first | exact BY.out.size | exact BZ.out.size | exact Nat.le_refl _)) _)
             clear b6 x0 x1 x2 x3 x4 c0 c1 c2 c3 c4 P8 B8 CS
             obtain ⟨fn, tmps, assign, body, hy, hR⟩ := hYY.out pre ⟨a, hlt, hg⟩ (w6.setCell ⟨wA.heap.size, 4, none⟩ (.int .i64 f)) (hJd _ _ _ hJs.out B10.out) (by have := Gw.upTo_len hp.out; omega)
             dsimp only at hy
             rw [HS.out] at hy
             have c0 := P9.out.at_ 0; have c1 := P9.out.at_ 1; have c2 := P9.out.at_ 2; have c3 := P9.out.at_ 3; have c4 := P9.out.at_ 4
             have q4 := P9.out.free 4
             gi_wp2_with fail
             refine hR.mono ?_
             rintro e W9 (⟨rfl, hJ9, hk9⟩ | ⟨rfl, hJx9⟩)
             · gi_wp2
               go_roundw
               case rel => exact ⟨a + 1, pre ++ [⟨a, hlt, hg⟩], by omega, by simp, Lib.hid (Gw.upTo_yes hp.out hlt hg), Lib.hid hJ9, Lib.hid ((hnx.out.trans (B10.out.mono hw0)).trans hk9)⟩
               case measure => simp [intOf]; omega
             · gi_wp2
               refine bodyPost_ret (results_none rfl _ _ _) rfl ?_
               exact ⟨⟨_, rfl⟩, .inr ⟨a + 1, pre ++ [⟨a, hlt, hg⟩], by omega, Gw.upTo_yes hp.out hlt hg, hJx9⟩⟩)
          | (with_reducible have P8 : Hid (Whole (((((wB.setCell ⟨w2.heap.size, 0, none⟩ (.int .i64 a)).setCell ⟨w2.heap.size, 1, none⟩ (.int .i64 rw')).setCell ⟨w2.heap.size, 2, none⟩ (.int .i64 cl')).setCell ⟨w2.heap.size, 3, none⟩ (.int .i64 d)).setCell ⟨w2.heap.size, 4, none⟩ (.int .i64 0)) w2.heap.size 74 #[.int .i64 a, .int .i64 rw', .int .i64 cl', .int .i64 d, .int .i64 0]) := Lib.hid (put5 T8.out _ _ _ _ _)
             with_reducible have B8 : Hid (Below w2.heap.size w2 (((((wB.setCell ⟨w2.heap.size, 0, none⟩ (.int .i64 a)).setCell ⟨w2.heap.size, 1, none⟩ (.int .i64 rw')).setCell ⟨w2.heap.size, 2, none⟩ (.int .i64 cl')).setCell ⟨w2.heap.size, 3, none⟩ (.int .i64 d)).setCell ⟨w2.heap.size, 4, none⟩ (.int .i64 0))) := Lib.hid (below5 BY.out (Nat.le_refl _) _ _ _ _ _)
             generalize (((((wB.setCell ⟨w2.heap.size, 0, none⟩ (.int .i64 a)).setCell ⟨w2.heap.size, 1, none⟩ (.int .i64 rw')).setCell ⟨w2.heap.size, 2, none⟩ (.int .i64 cl')).setCell ⟨w2.heap.size, 3, none⟩ (.int .i64 d)).setCell ⟨w2.heap.size, 4, none⟩ (.int .i64 0)) = W7 at *
             obtain ⟨⟨x0, x1, x2, x3, x4⟩, -, -, -⟩ := KS.out W7 B8.out
             have c0 := P8.out.at_ 0; have c1 := P8.out.at_ 1; have c2 := P8.out.at_ 2; have c3 := P8.out.at_ 3; have c4 := P8.out.at_ 4
             gi_wp2_with fail
             refine ⟨trivial, (callsIn_wide.2 (CS.out _ 0)).mono ?_⟩
             rintro e w6 ⟨rfl, b6⟩
             have P9 := Lib.hid (P8.out.all b6)
             have B9 := Lib.hid (bt B8.out b6)
             have P10 : Hid (Whole (w6.setCell ⟨w2.heap.size, 4, none⟩ (.int .i64 f)) w2.heap.size 74 #[.int .i64 a, .int .i64 rw', .int .i64 cl', .int .i64 d, .int .i64 f]) := Lib.hid (by have := P9.out.put 4 (.int .i64 f); simpa using this)
             have B10 : Hid (Below wr.heap.size wr (w6.setCell ⟨w2.heap.size, 4, none⟩ (.int .i64 f))) := Lib.hid (Below.setCell (p := ⟨w2.heap.size, 4, none⟩) (bt B2.out B9.out) (Nat.le_trans B2.out.size (by first | exact BY.out.size | exact BZ.out.size | exact Nat.le_refl _)) _)
             clear b6 x0 x1 x2 x3 x4 c0 c1 c2 c3 c4 P8 B8 CS
             obtain ⟨fn, tmps, assign, body, hy, hR⟩ := hYY.out pre ⟨a, hlt, hg⟩ (w6.setCell ⟨w2.heap.size, 4, none⟩ (.int .i64 f)) (hJd _ _ _ hJs.out B10.out) (by have := Gw.upTo_len hp.out; omega)
             dsimp only at hy
             rw [HS.out] at hy
             have c0 := P9.out.at_ 0; have c1 := P9.out.at_ 1; have c2 := P9.out.at_ 2; have c3 := P9.out.at_ 3; have c4 := P9.out.at_ 4
             have q4 := P9.out.free 4
             gi_wp2_with fail
             refine hR.mono ?_
             rintro e W9 (⟨rfl, hJ9, hk9⟩ | ⟨rfl, hJx9⟩)
             · gi_wp2
               go_roundw
               case rel => exact ⟨a + 1, pre ++ [⟨a, hlt, hg⟩], by omega, by simp, Lib.hid (Gw.upTo_yes hp.out hlt hg), Lib.hid hJ9, Lib.hid ((hnx.out.trans (B10.out.mono hw0)).trans hk9)⟩
               case measure => simp [intOf]; omega
             · gi_wp2
               refine bodyPost_ret (results_none rfl _ _ _) rfl ?_
               exact ⟨⟨_, rfl⟩, .inr ⟨a + 1, pre ++ [⟨a, hlt, hg⟩], by omega, Gw.upTo_yes hp.out hlt hg, hJx9⟩⟩)
          | (have P8 := Lib.hid (Whole.new wB 74 #[.int .i64 a, .int .i64 rw', .int .i64 cl', .int .i64 d, .int .i64 0])
             have B8 := Lib.hid (BY.out.alloc BY.out.size (.cells #[.int .i64 a, .int .i64 rw', .int .i64 cl', .int .i64 d, .int .i64 0] 74))
             generalize wB.alloc (.cells #[.int .i64 a, .int .i64 rw', .int .i64 cl', .int .i64 d, .int .i64 0] 74) = W7 at *
             obtain ⟨⟨x0, x1, x2, x3, x4⟩, -, -, -⟩ := KS.out W7 B8.out
             have c0 := P8.out.at_ 0; have c1 := P8.out.at_ 1; have c2 := P8.out.at_ 2; have c3 := P8.out.at_ 3; have c4 := P8.out.at_ 4
             gi_wp2_with fail
             refine ⟨trivial, (callsIn_wide.2 (CS.out _ 0)).mono ?_⟩
             rintro e w6 ⟨rfl, b6⟩
             have P9 := Lib.hid (P8.out.all b6)
             have B9 := Lib.hid (bt B8.out b6)
             have P10 : Hid (Whole (w6.setCell ⟨wB.heap.size, 4, none⟩ (.int .i64 f)) wB.heap.size 74 #[.int .i64 a, .int .i64 rw', .int .i64 cl', .int .i64 d, .int .i64 f]) := Lib.hid (by have := P9.out.put 4 (.int .i64 f); simpa using this)
             have B10 : Hid (Below wr.heap.size wr (w6.setCell ⟨wB.heap.size, 4, none⟩ (.int .i64 f))) := Lib.hid (Below.setCell (p := ⟨wB.heap.size, 4, none⟩) (bt B2.out B9.out) (Nat.le_trans B2.out.size (by first | exact BY.out.size | exact BZ.out.size | exact Nat.le_refl _)) _)
             clear b6 x0 x1 x2 x3 x4 c0 c1 c2 c3 c4 P8 B8 CS
             obtain ⟨fn, tmps, assign, body, hy, hR⟩ := hYY.out pre ⟨a, hlt, hg⟩ (w6.setCell ⟨wB.heap.size, 4, none⟩ (.int .i64 f)) (hJd _ _ _ hJs.out B10.out) (by have := Gw.upTo_len hp.out; omega)
             dsimp only at hy
             rw [HS.out] at hy
             have c0 := P9.out.at_ 0; have c1 := P9.out.at_ 1; have c2 := P9.out.at_ 2; have c3 := P9.out.at_ 3; have c4 := P9.out.at_ 4
             have q4 := P9.out.free 4
             gi_wp2_with fail
             refine hR.mono ?_
             rintro e W9 (⟨rfl, hJ9, hk9⟩ | ⟨rfl, hJx9⟩)
             · gi_wp2
               go_roundw
               case rel => exact ⟨a + 1, pre ++ [⟨a, hlt, hg⟩], by omega, by simp, Lib.hid (Gw.upTo_yes hp.out hlt hg), Lib.hid hJ9, Lib.hid ((hnx.out.trans (B10.out.mono hw0)).trans hk9)⟩
               case measure => simp [intOf]; omega
             · gi_wp2
               refine bodyPost_ret (results_none rfl _ _ _) rfl ?_
               exact ⟨⟨_, rfl⟩, .inr ⟨a + 1, pre ++ [⟨a, hlt, hg⟩], by omega, Gw.upTo_yes hp.out hlt hg, hJx9⟩⟩))
    · have hltz : ¬ (a : Int) < 8 := by omega
      gi_wp2
      go_end0
      exact ⟨⟨_, rfl⟩, .inl ⟨pre, by have := hp.out; rwa [show a = 8 by omega] at this, hJs.out⟩⟩
end Go.Proofs.YthcmpalbhaefbaaDoor
