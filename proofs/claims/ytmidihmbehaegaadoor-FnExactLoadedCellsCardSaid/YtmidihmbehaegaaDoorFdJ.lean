/-
  The cell on the other side of the wind, by the program (chapter 6). Its condition: impl.leeWays holds what the program's text lays.
-/
import Derived.Test.YtmidihmbehaegaaDoorFdI
import Derived.Test.YtmidihmbehaegaaDoorGRow
import Derived.Test.YtmidihmbehaegaaDoorPl
import Derived.Deep.RegionHeld3
namespace Go.Proofs.YtmidihmbehaegaaDoor
open Go.RowKit Go.Shelf Go.Deep
set_option linter.unusedVariables false
set_option maxRecDepth 100000

def ways : List (List Int) := [[1, 0], [0, -1], [-1, 0], [0, 1]]
def WaysAt (w : World) : Prop := ∀ (i : Nat) (r : List Int), ways[i]? = some r → ∀ (j : Nat) (z : Int), r[j]? = some z → w.cell? ⟨0, i * 2 + j, none⟩ = some (.int .i64 z)
theorem WaysAt.below {w w1 : World} (h : WaysAt w) (hb : Below w.heap.size w w1) : WaysAt w1 := by
  intro i r hr j z hz
  have e := h i r hr j z hz
  exact (hb.cell (p := ⟨0, i * 2 + j, none⟩) (World.block_lt_of_cell? w _ e)).trans e
theorem gWays : Tryd.prog.globalNamed "loop.example/g01013/impl.leeWays" = some 0 := by kernel_rfl
theorem tWays : (Tryd.prog.globals[0]?).map (·.type) = some 76 := by kernel_rfl
theorem ways_of {l : List (String × DataW Unit)} {w : World} (h : laidMet Tryd.prog l w) (hf : (l.filter fun x => x.1 == "loop.example/g01013/impl.leeWays") = [("loop.example/g01013/impl.leeWays", rowsData [[1, 0], [0, -1], [-1, 0], [0, 1]])]) : WaysAt w := by
  have h' := laidMet.filter (fun x => x.1 == "loop.example/g01013/impl.leeWays") h
  rw [hf] at h'
  exact rowsAt_of_head (rest := []) gWays tWays Tryd.underlying76 Tryd.underlying73 (by as_aux_lemma => kernel_rfl) (by as_aux_lemma => kernel_rfl) (by as_aux_lemma => kernel_rfl) Tryd.underlying2 h'
theorem WaysAt.eight {w : World} (h : WaysAt w) : (w.cell? ⟨0, 0, none⟩ = some (.int .i64 1) ∧ w.cell? ⟨0, 1, none⟩ = some (.int .i64 0)) ∧ (w.cell? ⟨0, 2, none⟩ = some (.int .i64 0) ∧ w.cell? ⟨0, 3, none⟩ = some (.int .i64 (-1))) ∧
    (w.cell? ⟨0, 4, none⟩ = some (.int .i64 (-1)) ∧ w.cell? ⟨0, 5, none⟩ = some (.int .i64 0)) ∧ (w.cell? ⟨0, 6, none⟩ = some (.int .i64 0) ∧ w.cell? ⟨0, 7, none⟩ = some (.int .i64 1)) :=
  ⟨⟨h 0 _ rfl 0 _ rfl, h 0 _ rfl 1 _ rfl⟩, ⟨h 1 _ rfl 0 _ rfl, h 1 _ rfl 1 _ rfl⟩, ⟨h 2 _ rfl 0 _ rfl, h 2 _ rfl 1 _ rfl⟩, ⟨h 3 _ rfl 0 _ rfl, h 3 _ rfl 1 _ rfl⟩⟩
theorem within_t (x l h : Int) (w : World) (h1 : l ≤ x) (h2 : x ≤ h) : Calls Tryd.prog 56 #[.int .i64 x, .int .i64 l, .int .i64 h] w fun e w' => e = .returned (.bool true) ∧ w = w' := by
  have := within_any x l h w
  rwa [Ar.inB_t h1 h2] at this
theorem within_f (x l h : Int) (w : World) (h1 : ¬ (l ≤ x ∧ x ≤ h)) : Calls Tryd.prog 56 #[.int .i64 x, .int .i64 l, .int .i64 h] w fun e w' => e = .returned (.bool false) ∧ w = w' := by
  have := within_any x l h w
  rwa [Ar.inB_f h1] at this
theorem ret_ib {a b : Int} {x y : Bool} (h : a = b) (h' : x = y) : Ending.returned (.tuple #[.int .i64 a, .bool x]) = .returned (.tuple #[.int .i64 b, .bool y]) := by rw [h, h']
/-- what leeOf answers -/
def leV (t : Int) : Int := if t < 0 then 0 else t
def leB (t : Int) : Bool := !decide (t < 0)
theorem le_no : leV (-1) = 0 ∧ leB (-1) = false := ⟨rfl, rfl⟩
theorem le_yes {t : Int} (h : 0 ≤ t) : leV t = t ∧ leB t = true := by unfold leV leB; rw [if_neg (by omega), decide_eq_false (by omega)]; exact ⟨rfl, rfl⟩
def setP (w : World) (g : Nat) (a b : Int) : World := (w.setCell ⟨g, 0, none⟩ (.int .i64 a)).setCell ⟨g, 1, none⟩ (.int .i64 b)
theorem setP_whole {w : World} {g : Nat} {t : TypeId} {x y : Value} (h : Whole w g t #[x, y]) (a b : Int) : Whole (setP w g a b) g t #[.int .i64 a, .int .i64 b] := by
  have := (h.put 0 (.int .i64 a)).put 1 (.int .i64 b)
  simpa [setP] using this
theorem setP_below {B : Nat} {w0 w : World} {g : Nat} (h : Below B w0 w) (hg : B ≤ g) (a b : Int) : Below B w0 (setP w g a b) := (h.setCell (p := ⟨g, 0, none⟩) hg _).setCell (p := ⟨g, 1, none⟩) hg _
/-- what leeOf answers, out of the place behind the way -/
theorem lee_facts {r c : Int} {k : Nat} {d dr dc : Int} (hd : Fw.wr d = dr) (hc : Fw.wc d = dc) (r1 : 1 ≤ r) (r2 : r ≤ 8) (c1 : 1 ≤ c) (c2 : c ≤ 8) (hk : (k : Int) < r * c) :
    (Ar.inB 0 ((k : Int) / c + dr) (wrap64 (r - 1)) && Ar.inB 0 ((k : Int) % c + dc) (wrap64 (c - 1))) = leB (Fw.nx r c k d) ∧
    (leB (Fw.nx r c k d) = false → leV (Fw.nx r c k d) = 0) ∧
    (leB (Fw.nx r c k d) = true → leV (Fw.nx r c k d) = ((k : Int) / c + dr) * c + ((k : Int) % c + dc) ∧ wrap64 (((k : Int) / c + dr) * c) = ((k : Int) / c + dr) * c ∧ wrap64 (((k : Int) / c + dr) * c + ((k : Int) % c + dc)) = ((k : Int) / c + dr) * c + ((k : Int) % c + dc)) := by
  rw [IntWalk.wrap64_in _ ⟨by omega, by omega⟩, IntWalk.wrap64_in _ ⟨by omega, by omega⟩]
  unfold Fw.nx
  rw [hd, hc]
  generalize (k : Int) / c + dr = q
  generalize (k : Int) % c + dc = m
  by_cases h : 0 ≤ q ∧ q < r ∧ 0 ≤ m ∧ m < c
  · obtain ⟨p0, p1⟩ := Fw.rows_bd (q := q) h.1 (by omega) c1 c2
    rw [if_pos h]
    have hq : 0 ≤ q * c + m := by omega
    obtain ⟨y1, y2⟩ := le_yes hq
    rw [y2]
    refine ⟨?_, (fun h => by cases h), fun _ => ⟨y1, IntWalk.wrap64_in _ ⟨by omega, by omega⟩, IntWalk.wrap64_in _ ⟨by omega, by omega⟩⟩⟩
    unfold Ar.inB
    simp only [Bool.and_eq_true, decide_eq_true_eq]
    omega
  · rw [if_neg h]
    obtain ⟨y1, y2⟩ := le_no
    rw [y2]
    refine ⟨?_, fun _ => y1, (fun h => by cases h)⟩
    rw [Bool.eq_false_iff]
    intro h'
    unfold Ar.inB at h'
    simp only [Bool.and_eq_true, decide_eq_true_eq] at h'
    omega
set_option maxHeartbeats 6400000 in
theorem leeOf_0 (w : World) (r c : Int) (v : Value) (k : Nat) (hw : WaysAt w) (r1 : 1 ≤ r) (r2 : r ≤ 8) (c1 : 1 ≤ c) (c2 : c ≤ 8) (hk : (k : Int) < r * c) :
    Calls Tryd.prog 58 #[.agg #[.int .i64 r, .int .i64 c, v], .int .i64 k, .int .i64 0] w fun e w' => e = .returned (.tuple #[.int .i64 (leV (Fw.nx r c k 0)), .bool (leB (Fw.nx r c k 0))]) ∧ Below w.heap.size w w' := by
  have hkb : (k : Int) ≤ 64 := by have := Fw.prod_le r1 r2 c1 c2; omega
  obtain ⟨q0, q1, m0, m1⟩ := Fw.place c1 (Int.natCast_nonneg k) hk
  obtain ⟨hin, hno, hyes⟩ := lee_facts (d := 0) (dr := 1) (dc := 0) rfl rfl r1 r2 c1 c2 hk
  have q2 : (k : Int) / c ≤ 64 := by omega
  have CP := Lib.hid (fun W => placeOf_any (k : Int) c W (by omega) (by omega) c1 (by omega))
  have CA := Lib.hid (fun W => after_any ((k : Int) / c) ((k : Int) % c) 1 0 W (by omega) (by omega) (by omega) (by omega) (by omega) (by omega) (by omega) (by omega))
  have CI := Lib.hid (fun W => placeIn_any ((k : Int) / c + 1) ((k : Int) % c + 0) r c W)
  have CC := Lib.hid (fun W h1 h2 => placeCell_any ((k : Int) / c + 1) ((k : Int) % c + 0) c W h1 h2)
  rw [hin] at CI
  generalize leV (Fw.nx r c k 0) = lv at *
  generalize leB (Fw.nx r c k 0) = lb at *
  have HN := Lib.hid hno
  have HY := Lib.hid hyes
  clear hin hno hyes
  generalize (k : Int) / c + 1 = rw' at *
  generalize (k : Int) % c + 0 = cl' at *
  generalize (k : Int) / c = fr at *
  generalize (k : Int) % c = fc at *
  obtain ⟨W1, hW1⟩ : ∃ W, boxF w r c v 26 = W := ⟨_, rfl⟩
  have HB : Hid (Below w.heap.size w W1) := Lib.hid (by rw [← hW1]; exact boxF_below ..)
  have KF : Hid (FC W1 w.heap.size r c v) := Lib.hid (by rw [← hW1]; exact boxF_cells ..)
  have HW1 := Lib.hid (hw.below HB.out)
  have K0 := Lib.hid (fun W (h : Below W1.heap.size W1 W) => (show (W.cell? ⟨w.heap.size, 0, none⟩ = some (.int .i64 r) ∧ W.cell? ⟨w.heap.size, 1, none⟩ = some (.int .i64 c)) ∧ W.cell? ⟨0, 0, none⟩ = some (.int .i64 1) ∧ W.cell? ⟨0, 1, none⟩ = some (.int .i64 0) from by
    obtain ⟨⟨a0, a1⟩, -, -, -⟩ := (HW1.out.below h).eight
    exact ⟨⟨(KF.out.all h).c0, (KF.out.all h).c1⟩, a0, a1⟩))
  obtain ⟨⟨x0, x1⟩, a0, a1⟩ := K0.out W1 (Below.refl _ _)
  have hwl := KF.out.lt
  have nx := World.new_ne W1 ⟨w.heap.size, 1, none⟩ x1
  have na := World.new_ne W1 ⟨0, 0, none⟩ a0
  have h0 : 0 < w.heap.size := Nat.lt_of_le_of_lt (Nat.zero_le _) (World.block_lt_of_cell? w _ hw.eight.1.1)
  clear hw HW1 KF
  have BD : Hid (Below W1.heap.size W1 W1.drew) := Lib.hid (below_drewW W1 1)
  have BE : Hid (Below W1.heap.size W1 (W1.alloc (.cells #[.int .i64 0, .int .i64 0] 73)).drew) := Lib.hid (below_drewN ((Below.refl _ _).alloc (Nat.le_refl _) _) 1)
  have ZE : Hid (Whole (W1.alloc (.cells #[.int .i64 0, .int .i64 0] 73)).drew W1.heap.size 73 #[.int .i64 0, .int .i64 0]) := Lib.hid ((Whole.new W1 _ _).drewN 1)
  unfold boxF at hW1
  go_enter Tryd.func58, Tryd.ntmps58
  go_wp2_with fail
  try rw [hW1]
  go_region_held3 (fun w' => w'.cell? ⟨w.heap.size, 1, none⟩ = some (.int .i64 c) ∧ w'.cell? ⟨0, 0, none⟩ = some (.int .i64 1) ∧ w'.cell? ⟨0, 1, none⟩ = some (.int .i64 0)) (go_keep)
    (first
      | (go_at_call 65; with_reducible refine Calls.mono (CP.out _) ?_; rintro e wA ⟨rfl, bA⟩; have BA : Hid (Below W1.heap.size W1 wA) := Lib.hid (by first | exact bt BD.out bA | exact bt BE.out bA); (try have ZA : Hid (Whole wA W1.heap.size 73 #[.int .i64 0, .int .i64 0]) := Lib.hid (ZE.out.all bA)); clear bA; obtain ⟨⟨y0, y1⟩, e0, e1⟩ := K0.out wA BA.out; have ny := World.new_ne wA ⟨w.heap.size, 1, none⟩ y1; have ne := World.new_ne wA ⟨0, 0, none⟩ e0)
      | (go_at_call 66; with_reducible refine Calls.mono (CA.out _) ?_; rintro e wB ⟨rfl, bB⟩; have BB : Hid (Below W1.heap.size W1 wB) := Lib.hid (by first | exact bt BA.out bB | exact bt (BA.out.alloc BA.out.size _) bB)
         (first
           | (have ZB : Hid (Whole wB wA.heap.size 73 #[.int .i64 0, .int .i64 0]) := Lib.hid ((Whole.new wA 73 #[.int .i64 0, .int .i64 0]).all bB); have g0 := ZB.out.at_ 0; have g1 := ZB.out.at_ 1; have g2 := ZB.out.free 0; have g3 := ZB.out.free 1; have hge : Hid (W1.heap.size ≤ wA.heap.size) := Lib.hid BA.out.size)
           | (have ZB : Hid (Whole wB W1.heap.size 73 #[.int .i64 0, .int .i64 0]) := Lib.hid (ZA.out.all bB); have g0 := ZB.out.at_ 0; have g1 := ZB.out.at_ 1; have g2 := ZB.out.free 0; have g3 := ZB.out.free 1)
           | skip)
         clear bB; obtain ⟨⟨z0, z1⟩, u0, u1⟩ := K0.out wB BB.out; have nz := World.new_ne wB ⟨w.heap.size, 1, none⟩ z1; have nu := World.new_ne wB ⟨0, 0, none⟩ u0))
  all_goals (
    first
    | (change Exit.then _ _ _ _ (wB.alloc (.cells #[.int .i64 rw', .int .i64 cl'] 73))
       have P4 : Hid (Whole (wB.alloc (.cells #[.int .i64 rw', .int .i64 cl'] 73)) wB.heap.size 73 #[.int .i64 rw', .int .i64 cl']) := Lib.hid (Whole.new wB _ _)
       have B4 : Hid (Below W1.heap.size W1 (wB.alloc (.cells #[.int .i64 rw', .int .i64 cl'] 73))) := Lib.hid (BB.out.alloc BB.out.size _)
       generalize wB.alloc (.cells #[.int .i64 rw', .int .i64 cl'] 73) = W4 at *)
    | (change Exit.then _ _ _ _ (setP wB wA.heap.size rw' cl')
       have P4 := Lib.hid (setP_whole ZB.out rw' cl')
       have B4 := Lib.hid (setP_below BB.out hge.out rw' cl')
       generalize setP wB wA.heap.size rw' cl' = W4 at *)
    | (change Exit.then _ _ _ _ (setP wB W1.heap.size rw' cl')
       have P4 := Lib.hid (setP_whole ZB.out rw' cl')
       have B4 := Lib.hid (setP_below BB.out (Nat.le_refl _) rw' cl')
       generalize setP wB W1.heap.size rw' cl' = W4 at *)
    try clear g0 g1 g2 g3
    clear x0 x1 a0 a1 y0 y1 e0 e1 z0 z1 u0 u1
    obtain ⟨⟨x0, x1⟩, -, -⟩ := K0.out W4 B4.out
    have v0 := P4.out.at_ 0
    have v1 := P4.out.at_ 1
    cases lb with
    | false =>
      have hv := Lib.hid (HN.out rfl)
      go_wp2_with fail
      refine (CI.out _).mono ?_
      rintro e w5 ⟨rfl, b5⟩
      have B5 := Lib.hid (bt HB.out (bt B4.out b5))
      clear b5
      go_wp2_with fail
      go_ret2
      exact ⟨ret_ib hv.out.symm rfl, B5.out⟩
    | true =>
      have hv := Lib.hid (HY.out rfl).1
      have CD := Lib.hid (fun W => CC.out W (HY.out rfl).2.1 (HY.out rfl).2.2)
      go_wp2_with fail
      refine (CI.out _).mono ?_
      rintro e w5 ⟨rfl, b5⟩
      have B5 := Lib.hid (bt B4.out b5)
      have P5 := Lib.hid (P4.out.all b5)
      clear b5 x0 x1 v0 v1
      obtain ⟨⟨x0, x1⟩, -, -⟩ := K0.out w5 B5.out
      have v0 := P5.out.at_ 0
      have v1 := P5.out.at_ 1
      go_wp2_with fail
      refine (CD.out _).mono ?_
      rintro e w6 ⟨rfl, b6⟩
      have B6 := Lib.hid (bt HB.out (bt B5.out b6))
      clear b6
      go_wp2_with fail
      go_ret2
      exact ⟨ret_ib hv.out.symm rfl, B6.out⟩)
set_option maxHeartbeats 6400000 in
theorem leeOf_1 (w : World) (r c : Int) (v : Value) (k : Nat) (hw : WaysAt w) (r1 : 1 ≤ r) (r2 : r ≤ 8) (c1 : 1 ≤ c) (c2 : c ≤ 8) (hk : (k : Int) < r * c) :
    Calls Tryd.prog 58 #[.agg #[.int .i64 r, .int .i64 c, v], .int .i64 k, .int .i64 1] w fun e w' => e = .returned (.tuple #[.int .i64 (leV (Fw.nx r c k 1)), .bool (leB (Fw.nx r c k 1))]) ∧ Below w.heap.size w w' := by
  have hkb : (k : Int) ≤ 64 := by have := Fw.prod_le r1 r2 c1 c2; omega
  obtain ⟨q0, q1, m0, m1⟩ := Fw.place c1 (Int.natCast_nonneg k) hk
  obtain ⟨hin, hno, hyes⟩ := lee_facts (d := 1) (dr := 0) (dc := (-1)) rfl rfl r1 r2 c1 c2 hk
  have q2 : (k : Int) / c ≤ 64 := by omega
  have CP := Lib.hid (fun W => placeOf_any (k : Int) c W (by omega) (by omega) c1 (by omega))
  have CA := Lib.hid (fun W => after_any ((k : Int) / c) ((k : Int) % c) 0 (-1) W (by omega) (by omega) (by omega) (by omega) (by omega) (by omega) (by omega) (by omega))
  have CI := Lib.hid (fun W => placeIn_any ((k : Int) / c + 0) ((k : Int) % c + (-1)) r c W)
  have CC := Lib.hid (fun W h1 h2 => placeCell_any ((k : Int) / c + 0) ((k : Int) % c + (-1)) c W h1 h2)
  rw [hin] at CI
  generalize leV (Fw.nx r c k 1) = lv at *
  generalize leB (Fw.nx r c k 1) = lb at *
  have HN := Lib.hid hno
  have HY := Lib.hid hyes
  clear hin hno hyes
  generalize (k : Int) / c + 0 = rw' at *
  generalize (k : Int) % c + (-1) = cl' at *
  generalize (k : Int) / c = fr at *
  generalize (k : Int) % c = fc at *
  obtain ⟨W1, hW1⟩ : ∃ W, boxF w r c v 26 = W := ⟨_, rfl⟩
  have HB : Hid (Below w.heap.size w W1) := Lib.hid (by rw [← hW1]; exact boxF_below ..)
  have KF : Hid (FC W1 w.heap.size r c v) := Lib.hid (by rw [← hW1]; exact boxF_cells ..)
  have HW1 := Lib.hid (hw.below HB.out)
  have K0 := Lib.hid (fun W (h : Below W1.heap.size W1 W) => (show (W.cell? ⟨w.heap.size, 0, none⟩ = some (.int .i64 r) ∧ W.cell? ⟨w.heap.size, 1, none⟩ = some (.int .i64 c)) ∧ W.cell? ⟨0, 2, none⟩ = some (.int .i64 0) ∧ W.cell? ⟨0, 3, none⟩ = some (.int .i64 (-1)) from by
    obtain ⟨-, ⟨a0, a1⟩, -, -⟩ := (HW1.out.below h).eight
    exact ⟨⟨(KF.out.all h).c0, (KF.out.all h).c1⟩, a0, a1⟩))
  obtain ⟨⟨x0, x1⟩, a0, a1⟩ := K0.out W1 (Below.refl _ _)
  have hwl := KF.out.lt
  have nx := World.new_ne W1 ⟨w.heap.size, 1, none⟩ x1
  have na := World.new_ne W1 ⟨0, 2, none⟩ a0
  have h0 : 0 < w.heap.size := Nat.lt_of_le_of_lt (Nat.zero_le _) (World.block_lt_of_cell? w _ hw.eight.1.1)
  clear hw HW1 KF
  have BD : Hid (Below W1.heap.size W1 W1.drew) := Lib.hid (below_drewW W1 1)
  have BE : Hid (Below W1.heap.size W1 (W1.alloc (.cells #[.int .i64 0, .int .i64 0] 73)).drew) := Lib.hid (below_drewN ((Below.refl _ _).alloc (Nat.le_refl _) _) 1)
  have ZE : Hid (Whole (W1.alloc (.cells #[.int .i64 0, .int .i64 0] 73)).drew W1.heap.size 73 #[.int .i64 0, .int .i64 0]) := Lib.hid ((Whole.new W1 _ _).drewN 1)
  unfold boxF at hW1
  go_enter Tryd.func58, Tryd.ntmps58
  go_wp2_with fail
  try rw [hW1]
  go_region_held3 (fun w' => w'.cell? ⟨w.heap.size, 1, none⟩ = some (.int .i64 c) ∧ w'.cell? ⟨0, 2, none⟩ = some (.int .i64 0) ∧ w'.cell? ⟨0, 3, none⟩ = some (.int .i64 (-1))) (go_keep)
    (first
      | (go_at_call 65; with_reducible refine Calls.mono (CP.out _) ?_; rintro e wA ⟨rfl, bA⟩; have BA : Hid (Below W1.heap.size W1 wA) := Lib.hid (by first | exact bt BD.out bA | exact bt BE.out bA); (try have ZA : Hid (Whole wA W1.heap.size 73 #[.int .i64 0, .int .i64 0]) := Lib.hid (ZE.out.all bA)); clear bA; obtain ⟨⟨y0, y1⟩, e0, e1⟩ := K0.out wA BA.out; have ny := World.new_ne wA ⟨w.heap.size, 1, none⟩ y1; have ne := World.new_ne wA ⟨0, 2, none⟩ e0)
      | (go_at_call 66; with_reducible refine Calls.mono (CA.out _) ?_; rintro e wB ⟨rfl, bB⟩; have BB : Hid (Below W1.heap.size W1 wB) := Lib.hid (by first | exact bt BA.out bB | exact bt (BA.out.alloc BA.out.size _) bB)
         (first
           | (have ZB : Hid (Whole wB wA.heap.size 73 #[.int .i64 0, .int .i64 0]) := Lib.hid ((Whole.new wA 73 #[.int .i64 0, .int .i64 0]).all bB); have g0 := ZB.out.at_ 0; have g1 := ZB.out.at_ 1; have g2 := ZB.out.free 0; have g3 := ZB.out.free 1; have hge : Hid (W1.heap.size ≤ wA.heap.size) := Lib.hid BA.out.size)
           | (have ZB : Hid (Whole wB W1.heap.size 73 #[.int .i64 0, .int .i64 0]) := Lib.hid (ZA.out.all bB); have g0 := ZB.out.at_ 0; have g1 := ZB.out.at_ 1; have g2 := ZB.out.free 0; have g3 := ZB.out.free 1)
           | skip)
         clear bB; obtain ⟨⟨z0, z1⟩, u0, u1⟩ := K0.out wB BB.out; have nz := World.new_ne wB ⟨w.heap.size, 1, none⟩ z1; have nu := World.new_ne wB ⟨0, 2, none⟩ u0))
  all_goals (
    first
    | (change Exit.then _ _ _ _ (wB.alloc (.cells #[.int .i64 rw', .int .i64 cl'] 73))
       have P4 : Hid (Whole (wB.alloc (.cells #[.int .i64 rw', .int .i64 cl'] 73)) wB.heap.size 73 #[.int .i64 rw', .int .i64 cl']) := Lib.hid (Whole.new wB _ _)
       have B4 : Hid (Below W1.heap.size W1 (wB.alloc (.cells #[.int .i64 rw', .int .i64 cl'] 73))) := Lib.hid (BB.out.alloc BB.out.size _)
       generalize wB.alloc (.cells #[.int .i64 rw', .int .i64 cl'] 73) = W4 at *)
    | (change Exit.then _ _ _ _ (setP wB wA.heap.size rw' cl')
       have P4 := Lib.hid (setP_whole ZB.out rw' cl')
       have B4 := Lib.hid (setP_below BB.out hge.out rw' cl')
       generalize setP wB wA.heap.size rw' cl' = W4 at *)
    | (change Exit.then _ _ _ _ (setP wB W1.heap.size rw' cl')
       have P4 := Lib.hid (setP_whole ZB.out rw' cl')
       have B4 := Lib.hid (setP_below BB.out (Nat.le_refl _) rw' cl')
       generalize setP wB W1.heap.size rw' cl' = W4 at *)
    try clear g0 g1 g2 g3
    clear x0 x1 a0 a1 y0 y1 e0 e1 z0 z1 u0 u1
    obtain ⟨⟨x0, x1⟩, -, -⟩ := K0.out W4 B4.out
    have v0 := P4.out.at_ 0
    have v1 := P4.out.at_ 1
    cases lb with
    | false =>
      have hv := Lib.hid (HN.out rfl)
      go_wp2_with fail
      refine (CI.out _).mono ?_
      rintro e w5 ⟨rfl, b5⟩
      have B5 := Lib.hid (bt HB.out (bt B4.out b5))
      clear b5
      go_wp2_with fail
      go_ret2
      exact ⟨ret_ib hv.out.symm rfl, B5.out⟩
    | true =>
      have hv := Lib.hid (HY.out rfl).1
      have CD := Lib.hid (fun W => CC.out W (HY.out rfl).2.1 (HY.out rfl).2.2)
      go_wp2_with fail
      refine (CI.out _).mono ?_
      rintro e w5 ⟨rfl, b5⟩
      have B5 := Lib.hid (bt B4.out b5)
      have P5 := Lib.hid (P4.out.all b5)
      clear b5 x0 x1 v0 v1
      obtain ⟨⟨x0, x1⟩, -, -⟩ := K0.out w5 B5.out
      have v0 := P5.out.at_ 0
      have v1 := P5.out.at_ 1
      go_wp2_with fail
      refine (CD.out _).mono ?_
      rintro e w6 ⟨rfl, b6⟩
      have B6 := Lib.hid (bt HB.out (bt B5.out b6))
      clear b6
      go_wp2_with fail
      go_ret2
      exact ⟨ret_ib hv.out.symm rfl, B6.out⟩)
set_option maxHeartbeats 6400000 in
theorem leeOf_2 (w : World) (r c : Int) (v : Value) (k : Nat) (hw : WaysAt w) (r1 : 1 ≤ r) (r2 : r ≤ 8) (c1 : 1 ≤ c) (c2 : c ≤ 8) (hk : (k : Int) < r * c) :
    Calls Tryd.prog 58 #[.agg #[.int .i64 r, .int .i64 c, v], .int .i64 k, .int .i64 2] w fun e w' => e = .returned (.tuple #[.int .i64 (leV (Fw.nx r c k 2)), .bool (leB (Fw.nx r c k 2))]) ∧ Below w.heap.size w w' := by
  have hkb : (k : Int) ≤ 64 := by have := Fw.prod_le r1 r2 c1 c2; omega
  obtain ⟨q0, q1, m0, m1⟩ := Fw.place c1 (Int.natCast_nonneg k) hk
  obtain ⟨hin, hno, hyes⟩ := lee_facts (d := 2) (dr := (-1)) (dc := 0) rfl rfl r1 r2 c1 c2 hk
  have q2 : (k : Int) / c ≤ 64 := by omega
  have CP := Lib.hid (fun W => placeOf_any (k : Int) c W (by omega) (by omega) c1 (by omega))
  have CA := Lib.hid (fun W => after_any ((k : Int) / c) ((k : Int) % c) (-1) 0 W (by omega) (by omega) (by omega) (by omega) (by omega) (by omega) (by omega) (by omega))
  have CI := Lib.hid (fun W => placeIn_any ((k : Int) / c + (-1)) ((k : Int) % c + 0) r c W)
  have CC := Lib.hid (fun W h1 h2 => placeCell_any ((k : Int) / c + (-1)) ((k : Int) % c + 0) c W h1 h2)
  rw [hin] at CI
  generalize leV (Fw.nx r c k 2) = lv at *
  generalize leB (Fw.nx r c k 2) = lb at *
  have HN := Lib.hid hno
  have HY := Lib.hid hyes
  clear hin hno hyes
  generalize (k : Int) / c + (-1) = rw' at *
  generalize (k : Int) % c + 0 = cl' at *
  generalize (k : Int) / c = fr at *
  generalize (k : Int) % c = fc at *
  obtain ⟨W1, hW1⟩ : ∃ W, boxF w r c v 26 = W := ⟨_, rfl⟩
  have HB : Hid (Below w.heap.size w W1) := Lib.hid (by rw [← hW1]; exact boxF_below ..)
  have KF : Hid (FC W1 w.heap.size r c v) := Lib.hid (by rw [← hW1]; exact boxF_cells ..)
  have HW1 := Lib.hid (hw.below HB.out)
  have K0 := Lib.hid (fun W (h : Below W1.heap.size W1 W) => (show (W.cell? ⟨w.heap.size, 0, none⟩ = some (.int .i64 r) ∧ W.cell? ⟨w.heap.size, 1, none⟩ = some (.int .i64 c)) ∧ W.cell? ⟨0, 4, none⟩ = some (.int .i64 (-1)) ∧ W.cell? ⟨0, 5, none⟩ = some (.int .i64 0) from by
    obtain ⟨-, -, ⟨a0, a1⟩, -⟩ := (HW1.out.below h).eight
    exact ⟨⟨(KF.out.all h).c0, (KF.out.all h).c1⟩, a0, a1⟩))
  obtain ⟨⟨x0, x1⟩, a0, a1⟩ := K0.out W1 (Below.refl _ _)
  have hwl := KF.out.lt
  have nx := World.new_ne W1 ⟨w.heap.size, 1, none⟩ x1
  have na := World.new_ne W1 ⟨0, 4, none⟩ a0
  have h0 : 0 < w.heap.size := Nat.lt_of_le_of_lt (Nat.zero_le _) (World.block_lt_of_cell? w _ hw.eight.1.1)
  clear hw HW1 KF
  have BD : Hid (Below W1.heap.size W1 W1.drew) := Lib.hid (below_drewW W1 1)
  have BE : Hid (Below W1.heap.size W1 (W1.alloc (.cells #[.int .i64 0, .int .i64 0] 73)).drew) := Lib.hid (below_drewN ((Below.refl _ _).alloc (Nat.le_refl _) _) 1)
  have ZE : Hid (Whole (W1.alloc (.cells #[.int .i64 0, .int .i64 0] 73)).drew W1.heap.size 73 #[.int .i64 0, .int .i64 0]) := Lib.hid ((Whole.new W1 _ _).drewN 1)
  unfold boxF at hW1
  go_enter Tryd.func58, Tryd.ntmps58
  go_wp2_with fail
  try rw [hW1]
  go_region_held3 (fun w' => w'.cell? ⟨w.heap.size, 1, none⟩ = some (.int .i64 c) ∧ w'.cell? ⟨0, 4, none⟩ = some (.int .i64 (-1)) ∧ w'.cell? ⟨0, 5, none⟩ = some (.int .i64 0)) (go_keep)
    (first
      | (go_at_call 65; with_reducible refine Calls.mono (CP.out _) ?_; rintro e wA ⟨rfl, bA⟩; have BA : Hid (Below W1.heap.size W1 wA) := Lib.hid (by first | exact bt BD.out bA | exact bt BE.out bA); (try have ZA : Hid (Whole wA W1.heap.size 73 #[.int .i64 0, .int .i64 0]) := Lib.hid (ZE.out.all bA)); clear bA; obtain ⟨⟨y0, y1⟩, e0, e1⟩ := K0.out wA BA.out; have ny := World.new_ne wA ⟨w.heap.size, 1, none⟩ y1; have ne := World.new_ne wA ⟨0, 4, none⟩ e0)
      | (go_at_call 66; with_reducible refine Calls.mono (CA.out _) ?_; rintro e wB ⟨rfl, bB⟩; have BB : Hid (Below W1.heap.size W1 wB) := Lib.hid (by first | exact bt BA.out bB | exact bt (BA.out.alloc BA.out.size _) bB)
         (first
           | (have ZB : Hid (Whole wB wA.heap.size 73 #[.int .i64 0, .int .i64 0]) := Lib.hid ((Whole.new wA 73 #[.int .i64 0, .int .i64 0]).all bB); have g0 := ZB.out.at_ 0; have g1 := ZB.out.at_ 1; have g2 := ZB.out.free 0; have g3 := ZB.out.free 1; have hge : Hid (W1.heap.size ≤ wA.heap.size) := Lib.hid BA.out.size)
           | (have ZB : Hid (Whole wB W1.heap.size 73 #[.int .i64 0, .int .i64 0]) := Lib.hid (ZA.out.all bB); have g0 := ZB.out.at_ 0; have g1 := ZB.out.at_ 1; have g2 := ZB.out.free 0; have g3 := ZB.out.free 1)
           | skip)
         clear bB; obtain ⟨⟨z0, z1⟩, u0, u1⟩ := K0.out wB BB.out; have nz := World.new_ne wB ⟨w.heap.size, 1, none⟩ z1; have nu := World.new_ne wB ⟨0, 4, none⟩ u0))
  all_goals (
    first
    | (change Exit.then _ _ _ _ (wB.alloc (.cells #[.int .i64 rw', .int .i64 cl'] 73))
       have P4 : Hid (Whole (wB.alloc (.cells #[.int .i64 rw', .int .i64 cl'] 73)) wB.heap.size 73 #[.int .i64 rw', .int .i64 cl']) := Lib.hid (Whole.new wB _ _)
       have B4 : Hid (Below W1.heap.size W1 (wB.alloc (.cells #[.int .i64 rw', .int .i64 cl'] 73))) := Lib.hid (BB.out.alloc BB.out.size _)
       generalize wB.alloc (.cells #[.int .i64 rw', .int .i64 cl'] 73) = W4 at *)
    | (change Exit.then _ _ _ _ (setP wB wA.heap.size rw' cl')
       have P4 := Lib.hid (setP_whole ZB.out rw' cl')
       have B4 := Lib.hid (setP_below BB.out hge.out rw' cl')
       generalize setP wB wA.heap.size rw' cl' = W4 at *)
    | (change Exit.then _ _ _ _ (setP wB W1.heap.size rw' cl')
       have P4 := Lib.hid (setP_whole ZB.out rw' cl')
       have B4 := Lib.hid (setP_below BB.out (Nat.le_refl _) rw' cl')
       generalize setP wB W1.heap.size rw' cl' = W4 at *)
    try clear g0 g1 g2 g3
    clear x0 x1 a0 a1 y0 y1 e0 e1 z0 z1 u0 u1
    obtain ⟨⟨x0, x1⟩, -, -⟩ := K0.out W4 B4.out
    have v0 := P4.out.at_ 0
    have v1 := P4.out.at_ 1
    cases lb with
    | false =>
      have hv := Lib.hid (HN.out rfl)
      go_wp2_with fail
      refine (CI.out _).mono ?_
      rintro e w5 ⟨rfl, b5⟩
      have B5 := Lib.hid (bt HB.out (bt B4.out b5))
      clear b5
      go_wp2_with fail
      go_ret2
      exact ⟨ret_ib hv.out.symm rfl, B5.out⟩
    | true =>
      have hv := Lib.hid (HY.out rfl).1
      have CD := Lib.hid (fun W => CC.out W (HY.out rfl).2.1 (HY.out rfl).2.2)
      go_wp2_with fail
      refine (CI.out _).mono ?_
      rintro e w5 ⟨rfl, b5⟩
      have B5 := Lib.hid (bt B4.out b5)
      have P5 := Lib.hid (P4.out.all b5)
      clear b5 x0 x1 v0 v1
      obtain ⟨⟨x0, x1⟩, -, -⟩ := K0.out w5 B5.out
      have v0 := P5.out.at_ 0
      have v1 := P5.out.at_ 1
      go_wp2_with fail
      refine (CD.out _).mono ?_
      rintro e w6 ⟨rfl, b6⟩
      have B6 := Lib.hid (bt HB.out (bt B5.out b6))
      clear b6
      go_wp2_with fail
      go_ret2
      exact ⟨ret_ib hv.out.symm rfl, B6.out⟩)
set_option maxHeartbeats 6400000 in
theorem leeOf_3 (w : World) (r c : Int) (v : Value) (k : Nat) (hw : WaysAt w) (r1 : 1 ≤ r) (r2 : r ≤ 8) (c1 : 1 ≤ c) (c2 : c ≤ 8) (hk : (k : Int) < r * c) :
    Calls Tryd.prog 58 #[.agg #[.int .i64 r, .int .i64 c, v], .int .i64 k, .int .i64 3] w fun e w' => e = .returned (.tuple #[.int .i64 (leV (Fw.nx r c k 3)), .bool (leB (Fw.nx r c k 3))]) ∧ Below w.heap.size w w' := by
  have hkb : (k : Int) ≤ 64 := by have := Fw.prod_le r1 r2 c1 c2; omega
  obtain ⟨q0, q1, m0, m1⟩ := Fw.place c1 (Int.natCast_nonneg k) hk
  obtain ⟨hin, hno, hyes⟩ := lee_facts (d := 3) (dr := 0) (dc := 1) rfl rfl r1 r2 c1 c2 hk
  have q2 : (k : Int) / c ≤ 64 := by omega
  have CP := Lib.hid (fun W => placeOf_any (k : Int) c W (by omega) (by omega) c1 (by omega))
  have CA := Lib.hid (fun W => after_any ((k : Int) / c) ((k : Int) % c) 0 1 W (by omega) (by omega) (by omega) (by omega) (by omega) (by omega) (by omega) (by omega))
  have CI := Lib.hid (fun W => placeIn_any ((k : Int) / c + 0) ((k : Int) % c + 1) r c W)
  have CC := Lib.hid (fun W h1 h2 => placeCell_any ((k : Int) / c + 0) ((k : Int) % c + 1) c W h1 h2)
  rw [hin] at CI
  generalize leV (Fw.nx r c k 3) = lv at *
  generalize leB (Fw.nx r c k 3) = lb at *
  have HN := Lib.hid hno
  have HY := Lib.hid hyes
  clear hin hno hyes
  generalize (k : Int) / c + 0 = rw' at *
  generalize (k : Int) % c + 1 = cl' at *
  generalize (k : Int) / c = fr at *
  generalize (k : Int) % c = fc at *
  obtain ⟨W1, hW1⟩ : ∃ W, boxF w r c v 26 = W := ⟨_, rfl⟩
  have HB : Hid (Below w.heap.size w W1) := Lib.hid (by rw [← hW1]; exact boxF_below ..)
  have KF : Hid (FC W1 w.heap.size r c v) := Lib.hid (by rw [← hW1]; exact boxF_cells ..)
  have HW1 := Lib.hid (hw.below HB.out)
  have K0 := Lib.hid (fun W (h : Below W1.heap.size W1 W) => (show (W.cell? ⟨w.heap.size, 0, none⟩ = some (.int .i64 r) ∧ W.cell? ⟨w.heap.size, 1, none⟩ = some (.int .i64 c)) ∧ W.cell? ⟨0, 6, none⟩ = some (.int .i64 0) ∧ W.cell? ⟨0, 7, none⟩ = some (.int .i64 1) from by
    obtain ⟨-, -, -, ⟨a0, a1⟩⟩ := (HW1.out.below h).eight
    exact ⟨⟨(KF.out.all h).c0, (KF.out.all h).c1⟩, a0, a1⟩))
  obtain ⟨⟨x0, x1⟩, a0, a1⟩ := K0.out W1 (Below.refl _ _)
  have hwl := KF.out.lt
  have nx := World.new_ne W1 ⟨w.heap.size, 1, none⟩ x1
  have na := World.new_ne W1 ⟨0, 6, none⟩ a0
  have h0 : 0 < w.heap.size := Nat.lt_of_le_of_lt (Nat.zero_le _) (World.block_lt_of_cell? w _ hw.eight.1.1)
  clear hw HW1 KF
  have BD : Hid (Below W1.heap.size W1 W1.drew) := Lib.hid (below_drewW W1 1)
  have BE : Hid (Below W1.heap.size W1 (W1.alloc (.cells #[.int .i64 0, .int .i64 0] 73)).drew) := Lib.hid (below_drewN ((Below.refl _ _).alloc (Nat.le_refl _) _) 1)
  have ZE : Hid (Whole (W1.alloc (.cells #[.int .i64 0, .int .i64 0] 73)).drew W1.heap.size 73 #[.int .i64 0, .int .i64 0]) := Lib.hid ((Whole.new W1 _ _).drewN 1)
  unfold boxF at hW1
  go_enter Tryd.func58, Tryd.ntmps58
  go_wp2_with fail
  try rw [hW1]
  go_region_held3 (fun w' => w'.cell? ⟨w.heap.size, 1, none⟩ = some (.int .i64 c) ∧ w'.cell? ⟨0, 6, none⟩ = some (.int .i64 0) ∧ w'.cell? ⟨0, 7, none⟩ = some (.int .i64 1)) (go_keep)
    (first
      | (go_at_call 65; with_reducible refine Calls.mono (CP.out _) ?_; rintro e wA ⟨rfl, bA⟩; have BA : Hid (Below W1.heap.size W1 wA) := Lib.hid (by first | exact bt BD.out bA | exact bt BE.out bA); (try have ZA : Hid (Whole wA W1.heap.size 73 #[.int .i64 0, .int .i64 0]) := Lib.hid (ZE.out.all bA)); clear bA; obtain ⟨⟨y0, y1⟩, e0, e1⟩ := K0.out wA BA.out; have ny := World.new_ne wA ⟨w.heap.size, 1, none⟩ y1; have ne := World.new_ne wA ⟨0, 6, none⟩ e0)
      | (go_at_call 66; with_reducible refine Calls.mono (CA.out _) ?_; rintro e wB ⟨rfl, bB⟩; have BB : Hid (Below W1.heap.size W1 wB) := Lib.hid (by first | exact bt BA.out bB | exact bt (BA.out.alloc BA.out.size _) bB)
         (first
           | (have ZB : Hid (Whole wB wA.heap.size 73 #[.int .i64 0, .int .i64 0]) := Lib.hid ((Whole.new wA 73 #[.int .i64 0, .int .i64 0]).all bB); have g0 := ZB.out.at_ 0; have g1 := ZB.out.at_ 1; have g2 := ZB.out.free 0; have g3 := ZB.out.free 1; have hge : Hid (W1.heap.size ≤ wA.heap.size) := Lib.hid BA.out.size)
           | (have ZB : Hid (Whole wB W1.heap.size 73 #[.int .i64 0, .int .i64 0]) := Lib.hid (ZA.out.all bB); have g0 := ZB.out.at_ 0; have g1 := ZB.out.at_ 1; have g2 := ZB.out.free 0; have g3 := ZB.out.free 1)
           | skip)
         clear bB; obtain ⟨⟨z0, z1⟩, u0, u1⟩ := K0.out wB BB.out; have nz := World.new_ne wB ⟨w.heap.size, 1, none⟩ z1; have nu := World.new_ne wB ⟨0, 6, none⟩ u0))
  all_goals (
    first
    | (change Exit.then _ _ _ _ (wB.alloc (.cells #[.int .i64 rw', .int .i64 cl'] 73))
       have P4 : Hid (Whole (wB.alloc (.cells #[.int .i64 rw', .int .i64 cl'] 73)) wB.heap.size 73 #[.int .i64 rw', .int .i64 cl']) := Lib.hid (Whole.new wB _ _)
       have B4 : Hid (Below W1.heap.size W1 (wB.alloc (.cells #[.int .i64 rw', .int .i64 cl'] 73))) := Lib.hid (BB.out.alloc BB.out.size _)
       generalize wB.alloc (.cells #[.int .i64 rw', .int .i64 cl'] 73) = W4 at *)
    | (change Exit.then _ _ _ _ (setP wB wA.heap.size rw' cl')
       have P4 := Lib.hid (setP_whole ZB.out rw' cl')
       have B4 := Lib.hid (setP_below BB.out hge.out rw' cl')
       generalize setP wB wA.heap.size rw' cl' = W4 at *)
    | (change Exit.then _ _ _ _ (setP wB W1.heap.size rw' cl')
       have P4 := Lib.hid (setP_whole ZB.out rw' cl')
       have B4 := Lib.hid (setP_below BB.out (Nat.le_refl _) rw' cl')
       generalize setP wB W1.heap.size rw' cl' = W4 at *)
    try clear g0 g1 g2 g3
    clear x0 x1 a0 a1 y0 y1 e0 e1 z0 z1 u0 u1
    obtain ⟨⟨x0, x1⟩, -, -⟩ := K0.out W4 B4.out
    have v0 := P4.out.at_ 0
    have v1 := P4.out.at_ 1
    cases lb with
    | false =>
      have hv := Lib.hid (HN.out rfl)
      go_wp2_with fail
      refine (CI.out _).mono ?_
      rintro e w5 ⟨rfl, b5⟩
      have B5 := Lib.hid (bt HB.out (bt B4.out b5))
      clear b5
      go_wp2_with fail
      go_ret2
      exact ⟨ret_ib hv.out.symm rfl, B5.out⟩
    | true =>
      have hv := Lib.hid (HY.out rfl).1
      have CD := Lib.hid (fun W => CC.out W (HY.out rfl).2.1 (HY.out rfl).2.2)
      go_wp2_with fail
      refine (CI.out _).mono ?_
      rintro e w5 ⟨rfl, b5⟩
      have B5 := Lib.hid (bt B4.out b5)
      have P5 := Lib.hid (P4.out.all b5)
      clear b5 x0 x1 v0 v1
      obtain ⟨⟨x0, x1⟩, -, -⟩ := K0.out w5 B5.out
      have v0 := P5.out.at_ 0
      have v1 := P5.out.at_ 1
      go_wp2_with fail
      refine (CD.out _).mono ?_
      rintro e w6 ⟨rfl, b6⟩
      have B6 := Lib.hid (bt HB.out (bt B5.out b6))
      clear b6
      go_wp2_with fail
      go_ret2
      exact ⟨ret_ib hv.out.symm rfl, B6.out⟩)
theorem leeOf_any (w : World) (r c : Int) (v : Value) (k : Nat) (d : Int) (hw : WaysAt w) (r1 : 1 ≤ r) (r2 : r ≤ 8) (c1 : 1 ≤ c) (c2 : c ≤ 8) (hk : (k : Int) < r * c) (d1 : 0 ≤ d) (d2 : d ≤ 3) :
    Calls Tryd.prog 58 #[.agg #[.int .i64 r, .int .i64 c, v], .int .i64 k, .int .i64 d] w fun e w' => e = .returned (.tuple #[.int .i64 (leV (Fw.nx r c k d)), .bool (leB (Fw.nx r c k d))]) ∧ Below w.heap.size w w' := by
  have hd : d = 0 ∨ d = 1 ∨ d = 2 ∨ d = 3 := by omega
  rcases hd with rfl | rfl | rfl | rfl
  · exact leeOf_0 w r c v k hw r1 r2 c1 c2 hk
  · exact leeOf_1 w r c v k hw r1 r2 c1 c2 hk
  · exact leeOf_2 w r c v k hw r1 r2 c1 c2 hk
  · exact leeOf_3 w r c v k hw r1 r2 c1 c2 hk
end Go.Proofs.YtmidihmbehaegaaDoor
