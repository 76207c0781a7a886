/-
  The cell on the other side of the wind, by the program (chapter 6). Its condition: impl.leeWays holds what the program's text lays.
-/
import Derived.Test.YteikghppebiibabDoorFdI
import Derived.Test.YteikghppebiibabDoorGRow
namespace Go.Proofs.YteikghppebiibabDoor
open Go.RowKit Go.Shelf Go.Deep
set_option linter.unusedVariables false
set_option maxRecDepth 100000

def ways : List (List Int) := [[1, 0], [0, -1], [-1, 0], [0, 1]]
def WaysAt (w : World) : Prop := ∀ (i : Nat) (r : List Int), ways[i]? = some r → ∀ (j : Nat) (z : Int), r[j]? = some z → w.cell? ⟨0, i * 2 + j, none⟩ = some (.int .i64 z)
theorem WaysAt.below {w w1 : World} (h : WaysAt w) (hb : Below w.heap.size w w1) : WaysAt w1 := by
  intro i r hr j z hz
  have e := h i r hr j z hz
  exact (hb.cell (p := ⟨0, i * 2 + j, none⟩) (World.block_lt_of_cell? w _ e)).trans e
theorem gWays : Tryd.prog.globalNamed "loop.example/g01013/impl.leeWays" = some 0 := by kernel_rfl
theorem tWays : (Tryd.prog.globals[0]?).map (·.type) = some 114 := by kernel_rfl
theorem ways_of {l : List (String × DataW Unit)} {w : World} (h : laidMet Tryd.prog l w) (hf : (l.filter fun x => x.1 == "loop.example/g01013/impl.leeWays") = [("loop.example/g01013/impl.leeWays", rowsData [[1, 0], [0, -1], [-1, 0], [0, 1]])]) : WaysAt w := by
  have h' := laidMet.filter (fun x => x.1 == "loop.example/g01013/impl.leeWays") h
  rw [hf] at h'
  exact rowsAt_of_head (rest := []) gWays tWays Tryd.underlying114 Tryd.underlying113 (by as_aux_lemma => kernel_rfl) (by as_aux_lemma => kernel_rfl) (by as_aux_lemma => kernel_rfl) Tryd.underlying2 h'
theorem WaysAt.eight {w : World} (h : WaysAt w) : (w.cell? ⟨0, 0, none⟩ = some (.int .i64 1) ∧ w.cell? ⟨0, 1, none⟩ = some (.int .i64 0)) ∧ (w.cell? ⟨0, 2, none⟩ = some (.int .i64 0) ∧ w.cell? ⟨0, 3, none⟩ = some (.int .i64 (-1))) ∧
    (w.cell? ⟨0, 4, none⟩ = some (.int .i64 (-1)) ∧ w.cell? ⟨0, 5, none⟩ = some (.int .i64 0)) ∧ (w.cell? ⟨0, 6, none⟩ = some (.int .i64 0) ∧ w.cell? ⟨0, 7, none⟩ = some (.int .i64 1)) :=
  ⟨⟨h 0 _ rfl 0 _ rfl, h 0 _ rfl 1 _ rfl⟩, ⟨h 1 _ rfl 0 _ rfl, h 1 _ rfl 1 _ rfl⟩, ⟨h 2 _ rfl 0 _ rfl, h 2 _ rfl 1 _ rfl⟩, ⟨h 3 _ rfl 0 _ rfl, h 3 _ rfl 1 _ rfl⟩⟩
theorem within_t (x l h : Int) (w : World) (h1 : l ≤ x) (h2 : x ≤ h) : Calls Tryd.prog 77 #[.int .i64 x, .int .i64 l, .int .i64 h] w fun e w' => e = .returned (.bool true) ∧ w = w' := by
  have := within_any x l h w
  rwa [Ar.inB_t h1 h2] at this
theorem within_f (x l h : Int) (w : World) (h1 : ¬ (l ≤ x ∧ x ≤ h)) : Calls Tryd.prog 77 #[.int .i64 x, .int .i64 l, .int .i64 h] w fun e w' => e = .returned (.bool false) ∧ w = w' := by
  have := within_any x l h w
  rwa [Ar.inB_f h1] at this
theorem ret_ib {a b : Int} {x y : Bool} (h : a = b) (h' : x = y) : Ending.returned (.tuple #[.int .i64 a, .bool x]) = .returned (.tuple #[.int .i64 b, .bool y]) := by rw [h, h']
/-- what leeOf answers -/
def leV (t : Int) : Int := if t < 0 then 0 else t
def leB (t : Int) : Bool := !decide (t < 0)
theorem le_no : leV (-1) = 0 ∧ leB (-1) = false := ⟨rfl, rfl⟩
theorem le_yes {t : Int} (h : 0 ≤ t) : leV t = t ∧ leB t = true := by unfold leV leB; rw [if_neg (by omega), decide_eq_false (by omega)]; exact ⟨rfl, rfl⟩
set_option maxHeartbeats 6400000 in
theorem leeOf_0 (w : World) (r c : Int) (v : Value) (k : Nat) (hw : WaysAt w) (r1 : 1 ≤ r) (r2 : r ≤ 8) (c1 : 1 ≤ c) (c2 : c ≤ 8) (hk : (k : Int) < r * c) :
    Calls Tryd.prog 81 #[.agg #[.int .i64 r, .int .i64 c, v], .int .i64 k, .int .i64 0] w fun e w' => e = .returned (.tuple #[.int .i64 (leV (Fw.nx r c k 0)), .bool (leB (Fw.nx r c k 0))]) ∧ Below w.heap.size w w' := by
  obtain ⟨q0, q1, m0, m1⟩ := Fw.place c1 (Int.natCast_nonneg k) hk
  obtain ⟨⟨a0, a1⟩, -, -, -⟩ := hw.eight
  have hc0 : (c == 0) = false := by simp; omega
  have hn := Lib.hid (Fw.nx_0 (r := r) q0 m0 m1)
  have ht1 : (k : Int).tdiv c = (k : Int) / c := Int.tdiv_eq_ediv_of_nonneg (Int.natCast_nonneg k)
  have ht2 : (k : Int).tmod c = (k : Int) % c := Int.tmod_eq_emod_of_nonneg (Int.natCast_nonneg k)
  have hkb : (k : Int) ≤ 64 := by have := Fw.prod_le r1 r2 c1 c2; omega
  have hB : Hid (Below w.heap.size w ((w.alloc (.cells #[.int .i64 r, .int .i64 c, v] 28)).alloc (.cells #[.int .i64 1, .int .i64 0] 113))) := Lib.hid (((Below.refl _ _).alloc (Nat.le_refl _) _).alloc (by simp) _)
  have h0 : 0 < w.heap.size := Nat.lt_of_le_of_lt (Nat.zero_le _) (World.block_lt_of_cell? w _ a0)
  clear hk hw
  by_cases h : (k : Int) / c + 1 < r
  · obtain ⟨p0, p1⟩ := Fw.rows_bd (q := (k : Int) / c + 1) (by omega) (by omega) c1 c2
    have hn2 : Hid (Fw.nx r c k 0 = ((k : Int) / c + 1) * c + (k : Int) % c) := Lib.hid (by rw [hn.out, if_pos h])
    have hy := Lib.hid (le_yes (t := Fw.nx r c k 0) (by rw [hn2.out]; omega))
    clear hn
    go_enter Tryd.func81, Tryd.ntmps81
    go_wp2_with fail
    go_quiet (fail)
    go_wp2_with fail
    refine (within_t _ _ _ _ (by omega) (by omega)).mono ?_
    rintro e w' ⟨rfl, rfl⟩
    go_wp2_with fail
    refine (within_t _ _ _ _ (by omega) (by omega)).mono ?_
    rintro e w' ⟨rfl, rfl⟩
    go_wp2_with fail
    go_ret2
    exact ⟨ret_ib (by rw [hy.out.1, hn2.out]; first | done | omega | (rw [Int.sub_eq_add_neg])) hy.out.2.symm, below_drewN hB.out _⟩
  · have hn2 : Hid (Fw.nx r c k 0 = -1) := Lib.hid (by rw [hn.out, if_neg h])
    clear hn
    go_enter Tryd.func81, Tryd.ntmps81
    go_wp2_with fail
    go_quiet (fail)
    go_wp2_with fail
    refine (within_f _ _ _ _ (by omega)).mono ?_
    rintro e w' ⟨rfl, rfl⟩
    go_wp2_with fail
    go_ret2
    exact ⟨ret_ib (by rw [hn2.out]; rfl) (by rw [hn2.out]; rfl), below_drewN hB.out _⟩
set_option maxHeartbeats 6400000 in
theorem leeOf_1 (w : World) (r c : Int) (v : Value) (k : Nat) (hw : WaysAt w) (r1 : 1 ≤ r) (r2 : r ≤ 8) (c1 : 1 ≤ c) (c2 : c ≤ 8) (hk : (k : Int) < r * c) :
    Calls Tryd.prog 81 #[.agg #[.int .i64 r, .int .i64 c, v], .int .i64 k, .int .i64 1] w fun e w' => e = .returned (.tuple #[.int .i64 (leV (Fw.nx r c k 1)), .bool (leB (Fw.nx r c k 1))]) ∧ Below w.heap.size w w' := by
  obtain ⟨q0, q1, m0, m1⟩ := Fw.place c1 (Int.natCast_nonneg k) hk
  obtain ⟨-, ⟨a0, a1⟩, -, -⟩ := hw.eight
  have hc0 : (c == 0) = false := by simp; omega
  have hn := Lib.hid (Fw.nx_1 (r := r) q0 q1 m1)
  have ht1 : (k : Int).tdiv c = (k : Int) / c := Int.tdiv_eq_ediv_of_nonneg (Int.natCast_nonneg k)
  have ht2 : (k : Int).tmod c = (k : Int) % c := Int.tmod_eq_emod_of_nonneg (Int.natCast_nonneg k)
  have hkb : (k : Int) ≤ 64 := by have := Fw.prod_le r1 r2 c1 c2; omega
  have hB : Hid (Below w.heap.size w ((w.alloc (.cells #[.int .i64 r, .int .i64 c, v] 28)).alloc (.cells #[.int .i64 0, .int .i64 (-1)] 113))) := Lib.hid (((Below.refl _ _).alloc (Nat.le_refl _) _).alloc (by simp) _)
  have h0 : 0 < w.heap.size := Nat.lt_of_le_of_lt (Nat.zero_le _) (World.block_lt_of_cell? w _ a0)
  clear hk hw
  by_cases h : 0 ≤ (k : Int) % c - 1
  · obtain ⟨p0, p1⟩ := Fw.rows_bd (q := (k : Int) / c) (by omega) (by omega) c1 c2
    have hn2 : Hid (Fw.nx r c k 1 = (k : Int) / c * c + ((k : Int) % c - 1)) := Lib.hid (by rw [hn.out, if_pos h])
    have hy := Lib.hid (le_yes (t := Fw.nx r c k 1) (by rw [hn2.out]; omega))
    clear hn
    go_enter Tryd.func81, Tryd.ntmps81
    go_wp2_with fail
    go_quiet (fail)
    go_wp2_with fail
    refine (within_t _ _ _ _ (by omega) (by omega)).mono ?_
    rintro e w' ⟨rfl, rfl⟩
    go_wp2_with fail
    refine (within_t _ _ _ _ (by omega) (by omega)).mono ?_
    rintro e w' ⟨rfl, rfl⟩
    go_wp2_with fail
    go_ret2
    exact ⟨ret_ib (by rw [hy.out.1, hn2.out]; first | done | omega | (rw [Int.sub_eq_add_neg])) hy.out.2.symm, below_drewN hB.out _⟩
  · have hn2 : Hid (Fw.nx r c k 1 = -1) := Lib.hid (by rw [hn.out, if_neg h])
    clear hn
    go_enter Tryd.func81, Tryd.ntmps81
    go_wp2_with fail
    go_quiet (fail)
    go_wp2_with fail
    refine (within_t _ _ _ _ (by omega) (by omega)).mono ?_
    rintro e w' ⟨rfl, rfl⟩
    go_wp2_with fail
    refine (within_f _ _ _ _ (by omega)).mono ?_
    rintro e w' ⟨rfl, rfl⟩
    go_wp2_with fail
    go_ret2
    exact ⟨ret_ib (by rw [hn2.out]; rfl) (by rw [hn2.out]; rfl), below_drewN hB.out _⟩
set_option maxHeartbeats 6400000 in
theorem leeOf_2 (w : World) (r c : Int) (v : Value) (k : Nat) (hw : WaysAt w) (r1 : 1 ≤ r) (r2 : r ≤ 8) (c1 : 1 ≤ c) (c2 : c ≤ 8) (hk : (k : Int) < r * c) :
    Calls Tryd.prog 81 #[.agg #[.int .i64 r, .int .i64 c, v], .int .i64 k, .int .i64 2] w fun e w' => e = .returned (.tuple #[.int .i64 (leV (Fw.nx r c k 2)), .bool (leB (Fw.nx r c k 2))]) ∧ Below w.heap.size w w' := by
  obtain ⟨q0, q1, m0, m1⟩ := Fw.place c1 (Int.natCast_nonneg k) hk
  obtain ⟨-, -, ⟨a0, a1⟩, -⟩ := hw.eight
  have hc0 : (c == 0) = false := by simp; omega
  have hn := Lib.hid (Fw.nx_2 (r := r) q1 m0 m1)
  have ht1 : (k : Int).tdiv c = (k : Int) / c := Int.tdiv_eq_ediv_of_nonneg (Int.natCast_nonneg k)
  have ht2 : (k : Int).tmod c = (k : Int) % c := Int.tmod_eq_emod_of_nonneg (Int.natCast_nonneg k)
  have hkb : (k : Int) ≤ 64 := by have := Fw.prod_le r1 r2 c1 c2; omega
  have hB : Hid (Below w.heap.size w ((w.alloc (.cells #[.int .i64 r, .int .i64 c, v] 28)).alloc (.cells #[.int .i64 (-1), .int .i64 0] 113))) := Lib.hid (((Below.refl _ _).alloc (Nat.le_refl _) _).alloc (by simp) _)
  have h0 : 0 < w.heap.size := Nat.lt_of_le_of_lt (Nat.zero_le _) (World.block_lt_of_cell? w _ a0)
  clear hk hw
  by_cases h : 0 ≤ (k : Int) / c - 1
  · obtain ⟨p0, p1⟩ := Fw.rows_bd (q := (k : Int) / c - 1) (by omega) (by omega) c1 c2
    obtain ⟨p2, p3⟩ := Fw.rows_bd (q := (k : Int) / c + -1) (by omega) (by omega) c1 c2
    have hn2 : Hid (Fw.nx r c k 2 = ((k : Int) / c - 1) * c + (k : Int) % c) := Lib.hid (by rw [hn.out, if_pos h])
    have hy := Lib.hid (le_yes (t := Fw.nx r c k 2) (by rw [hn2.out]; omega))
    clear hn
    go_enter Tryd.func81, Tryd.ntmps81
    go_wp2_with fail
    go_quiet (fail)
    go_wp2_with fail
    refine (within_t _ _ _ _ (by omega) (by omega)).mono ?_
    rintro e w' ⟨rfl, rfl⟩
    go_wp2_with fail
    refine (within_t _ _ _ _ (by omega) (by omega)).mono ?_
    rintro e w' ⟨rfl, rfl⟩
    go_wp2_with fail
    go_ret2
    exact ⟨ret_ib (by rw [hy.out.1, hn2.out]; first | done | omega | (rw [Int.sub_eq_add_neg])) hy.out.2.symm, below_drewN hB.out _⟩
  · have hn2 : Hid (Fw.nx r c k 2 = -1) := Lib.hid (by rw [hn.out, if_neg h])
    clear hn
    go_enter Tryd.func81, Tryd.ntmps81
    go_wp2_with fail
    go_quiet (fail)
    go_wp2_with fail
    refine (within_f _ _ _ _ (by omega)).mono ?_
    rintro e w' ⟨rfl, rfl⟩
    go_wp2_with fail
    go_ret2
    exact ⟨ret_ib (by rw [hn2.out]; rfl) (by rw [hn2.out]; rfl), below_drewN hB.out _⟩
set_option maxHeartbeats 6400000 in
theorem leeOf_3 (w : World) (r c : Int) (v : Value) (k : Nat) (hw : WaysAt w) (r1 : 1 ≤ r) (r2 : r ≤ 8) (c1 : 1 ≤ c) (c2 : c ≤ 8) (hk : (k : Int) < r * c) :
    Calls Tryd.prog 81 #[.agg #[.int .i64 r, .int .i64 c, v], .int .i64 k, .int .i64 3] w fun e w' => e = .returned (.tuple #[.int .i64 (leV (Fw.nx r c k 3)), .bool (leB (Fw.nx r c k 3))]) ∧ Below w.heap.size w w' := by
  obtain ⟨q0, q1, m0, m1⟩ := Fw.place c1 (Int.natCast_nonneg k) hk
  obtain ⟨-, -, -, ⟨a0, a1⟩⟩ := hw.eight
  have hc0 : (c == 0) = false := by simp; omega
  have hn := Lib.hid (Fw.nx_3 (r := r) q0 q1 m0)
  have ht1 : (k : Int).tdiv c = (k : Int) / c := Int.tdiv_eq_ediv_of_nonneg (Int.natCast_nonneg k)
  have ht2 : (k : Int).tmod c = (k : Int) % c := Int.tmod_eq_emod_of_nonneg (Int.natCast_nonneg k)
  have hkb : (k : Int) ≤ 64 := by have := Fw.prod_le r1 r2 c1 c2; omega
  have hB : Hid (Below w.heap.size w ((w.alloc (.cells #[.int .i64 r, .int .i64 c, v] 28)).alloc (.cells #[.int .i64 0, .int .i64 1] 113))) := Lib.hid (((Below.refl _ _).alloc (Nat.le_refl _) _).alloc (by simp) _)
  have h0 : 0 < w.heap.size := Nat.lt_of_le_of_lt (Nat.zero_le _) (World.block_lt_of_cell? w _ a0)
  clear hk hw
  by_cases h : (k : Int) % c + 1 < c
  · obtain ⟨p0, p1⟩ := Fw.rows_bd (q := (k : Int) / c) (by omega) (by omega) c1 c2
    have hn2 : Hid (Fw.nx r c k 3 = (k : Int) / c * c + ((k : Int) % c + 1)) := Lib.hid (by rw [hn.out, if_pos h])
    have hy := Lib.hid (le_yes (t := Fw.nx r c k 3) (by rw [hn2.out]; omega))
    clear hn
    go_enter Tryd.func81, Tryd.ntmps81
    go_wp2_with fail
    go_quiet (fail)
    go_wp2_with fail
    refine (within_t _ _ _ _ (by omega) (by omega)).mono ?_
    rintro e w' ⟨rfl, rfl⟩
    go_wp2_with fail
    refine (within_t _ _ _ _ (by omega) (by omega)).mono ?_
    rintro e w' ⟨rfl, rfl⟩
    go_wp2_with fail
    go_ret2
    exact ⟨ret_ib (by rw [hy.out.1, hn2.out]; first | done | omega | (rw [Int.sub_eq_add_neg])) hy.out.2.symm, below_drewN hB.out _⟩
  · have hn2 : Hid (Fw.nx r c k 3 = -1) := Lib.hid (by rw [hn.out, if_neg h])
    clear hn
    go_enter Tryd.func81, Tryd.ntmps81
    go_wp2_with fail
    go_quiet (fail)
    go_wp2_with fail
    refine (within_t _ _ _ _ (by omega) (by omega)).mono ?_
    rintro e w' ⟨rfl, rfl⟩
    go_wp2_with fail
    refine (within_f _ _ _ _ (by omega)).mono ?_
    rintro e w' ⟨rfl, rfl⟩
    go_wp2_with fail
    go_ret2
    exact ⟨ret_ib (by rw [hn2.out]; rfl) (by rw [hn2.out]; rfl), below_drewN hB.out _⟩
theorem leeOf_any (w : World) (r c : Int) (v : Value) (k : Nat) (d : Int) (hw : WaysAt w) (r1 : 1 ≤ r) (r2 : r ≤ 8) (c1 : 1 ≤ c) (c2 : c ≤ 8) (hk : (k : Int) < r * c) (d1 : 0 ≤ d) (d2 : d ≤ 3) :
    Calls Tryd.prog 81 #[.agg #[.int .i64 r, .int .i64 c, v], .int .i64 k, .int .i64 d] w fun e w' => e = .returned (.tuple #[.int .i64 (leV (Fw.nx r c k d)), .bool (leB (Fw.nx r c k d))]) ∧ Below w.heap.size w w' := by
  have hd : d = 0 ∨ d = 1 ∨ d = 2 ∨ d = 3 := by omega
  rcases hd with rfl | rfl | rfl | rfl
  · exact leeOf_0 w r c v k hw r1 r2 c1 c2 hk
  · exact leeOf_1 w r c v k hw r1 r2 c1 c2 hk
  · exact leeOf_2 w r c v k hw r1 r2 c1 c2 hk
  · exact leeOf_3 w r c v k hw r1 r2 c1 c2 hk
end Go.Proofs.YteikghppebiibabDoor
