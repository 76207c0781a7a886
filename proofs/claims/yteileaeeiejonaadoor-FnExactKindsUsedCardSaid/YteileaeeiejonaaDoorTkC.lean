/-
  The class of a test by the program. Its condition: impl.testRules holds what the program's text lays.
-/
import Derived.Test.YteileaeeiejonaaDoorTkB
namespace Go.Proofs.YteileaeeiejonaaDoor
open Go.RowKit Go.ChangeShapes Go.WideShapes Go.Deep
set_option linter.unusedVariables false
set_option maxRecDepth 100000

theorem idx4_0 (a b c d : Int) (w : World) : (Instr.index 91 (.agg #[.int .i64 a, .int .i64 b, .int .i64 c, .int .i64 d]) (.int .i64 0)).run Tryd.prog w = .ok (.int .i64 a) w := by kernel_rfl
theorem idx4_1 (a b c d : Int) (w : World) : (Instr.index 91 (.agg #[.int .i64 a, .int .i64 b, .int .i64 c, .int .i64 d]) (.int .i64 1)).run Tryd.prog w = .ok (.int .i64 b) w := by kernel_rfl
theorem idx4_2 (a b c d : Int) (w : World) : (Instr.index 91 (.agg #[.int .i64 a, .int .i64 b, .int .i64 c, .int .i64 d]) (.int .i64 2)).run Tryd.prog w = .ok (.int .i64 c) w := by kernel_rfl
theorem idx4_3 (a b c d : Int) (w : World) : (Instr.index 91 (.agg #[.int .i64 a, .int .i64 b, .int .i64 c, .int .i64 d]) (.int .i64 3)).run Tryd.prog w = .ok (.int .i64 d) w := by kernel_rfl
theorem cnt_4 (s a b c d : Int) (k : Nat) : Tq.cnt s ([a, b, c, d].take 0) = 0 ∧ Tq.cnt s ([a, b, c, d].take 1) = Tq.cnt s ([a, b, c, d].take 0) + (if a < s then 1 else 0) ∧ Tq.cnt s ([a, b, c, d].take 2) = Tq.cnt s ([a, b, c, d].take 1) + (if b < s then 1 else 0) ∧
    Tq.cnt s ([a, b, c, d].take 3) = Tq.cnt s ([a, b, c, d].take 2) + (if c < s then 1 else 0) ∧ Tq.cnt s ([a, b, c, d].take 4) = Tq.cnt s ([a, b, c, d].take 3) + (if d < s then 1 else 0) :=
  ⟨rfl, Tq.cnt_take (k := 0) (xs := [a, b, c, d]) (by simp), Tq.cnt_take (k := 1) (xs := [a, b, c, d]) (by simp), Tq.cnt_take (k := 2) (xs := [a, b, c, d]) (by simp), Tq.cnt_take (k := 3) (xs := [a, b, c, d]) (by simp)⟩
set_option maxHeartbeats 3200000 in
theorem classOfRule_any (k s : Int) (w : World) :
    Calls Tryd.prog 89 #[Tq.ruleV k, .int .i64 s] w fun e w' => e = .returned (.int .i64 (1 + Tq.cnt s (Tq.lims k ++ [Tq.top k]))) ∧ Below w.heap.size w w' := by
  rw [Tq.lims_r]
  unfold Tq.ruleV
  generalize Tq.bot k = l0
  generalize Tq.r1 k = a
  generalize Tq.r2 k = b
  generalize Tq.r3 k = c
  generalize Tq.top k = d
  generalize Tq.nmB k = nm
  have HB : Hid (Below w.heap.size w (w.alloc (.cells #[.string nm, .int .i64 l0, .int .i64 a, .int .i64 b, .int .i64 c, .int .i64 d] 93))) := Lib.hid ((Below.refl _ _).alloc (Nat.le_refl _) _)
  have HN := Lib.hid (cnt_4 s a b c d 0)
  have hl : Hid ([a, b, c] ++ [d] = [a, b, c, d].take 4) := Lib.hid rfl
  rw [hl.out]
  go_enter Tryd.func89, Tryd.ntmps89
  go_wp2
  go_loop [5, 10] (fun t i => ∃ k : Nat, k ≤ 4 ∧ t = .int .i64 (1 + Tq.cnt s ([a, b, c, d].take k)) ∧ i = .int .i64 k) (fun _ i => 4 - (intOf i).toNat)
  case atStart => exact ⟨0, by omega, by simp [Tq.cnt], rfl⟩
  case round =>
    obtain ⟨k, hk, rfl, rfl⟩ := hrel
    obtain ⟨n0, n1, n2, n3, n4⟩ := HN.out
    have hk5 : k = 0 ∨ k = 1 ∨ k = 2 ∨ k = 3 ∨ k = 4 := by omega
    have bd := Tq.cnt_bd s ([a, b, c, d].take k)
    have bl : ([a, b, c, d].take k).length ≤ 4 := by simp; omega
    have hix0 := idx4_0 a b c d
    have hix1 := idx4_1 a b c d
    have hix2 := idx4_2 a b c d
    have hix3 := idx4_3 a b c d
    rcases hk5 with rfl | rfl | rfl | rfl | rfl
    · by_cases hz : a < s
      · have hn : Hid (1 + Tq.cnt s ([a, b, c, d].take 1) = 1 + Tq.cnt s ([a, b, c, d].take 0) + 1) := Lib.hid (by rw [n1, if_pos hz]; omega)
        clear n0 n1 n2 n3 n4
        generalize Tq.cnt s ([a, b, c, d].take 0) = t at *
        go_wp2
        exact ⟨⟨1, by omega, by rw [hn.out], rfl⟩, by simp only [intOf]; omega⟩
      · have hn : Hid (1 + Tq.cnt s ([a, b, c, d].take 1) = 1 + Tq.cnt s ([a, b, c, d].take 0)) := Lib.hid (by rw [n1, if_neg hz]; omega)
        clear n0 n1 n2 n3 n4
        generalize Tq.cnt s ([a, b, c, d].take 0) = t at *
        go_wp2
        exact ⟨⟨1, by omega, by rw [hn.out], rfl⟩, by simp only [intOf]; omega⟩
    · by_cases hz : b < s
      · have hn : Hid (1 + Tq.cnt s ([a, b, c, d].take 2) = 1 + Tq.cnt s ([a, b, c, d].take 1) + 1) := Lib.hid (by rw [n2, if_pos hz]; omega)
        clear n0 n1 n2 n3 n4
        generalize Tq.cnt s ([a, b, c, d].take 1) = t at *
        go_wp2
        exact ⟨⟨2, by omega, by rw [hn.out], rfl⟩, by simp only [intOf]; omega⟩
      · have hn : Hid (1 + Tq.cnt s ([a, b, c, d].take 2) = 1 + Tq.cnt s ([a, b, c, d].take 1)) := Lib.hid (by rw [n2, if_neg hz]; omega)
        clear n0 n1 n2 n3 n4
        generalize Tq.cnt s ([a, b, c, d].take 1) = t at *
        go_wp2
        exact ⟨⟨2, by omega, by rw [hn.out], rfl⟩, by simp only [intOf]; omega⟩
    · by_cases hz : c < s
      · have hn : Hid (1 + Tq.cnt s ([a, b, c, d].take 3) = 1 + Tq.cnt s ([a, b, c, d].take 2) + 1) := Lib.hid (by rw [n3, if_pos hz]; omega)
        clear n0 n1 n2 n3 n4
        generalize Tq.cnt s ([a, b, c, d].take 2) = t at *
        go_wp2
        exact ⟨⟨3, by omega, by rw [hn.out], rfl⟩, by simp only [intOf]; omega⟩
      · have hn : Hid (1 + Tq.cnt s ([a, b, c, d].take 3) = 1 + Tq.cnt s ([a, b, c, d].take 2)) := Lib.hid (by rw [n3, if_neg hz]; omega)
        clear n0 n1 n2 n3 n4
        generalize Tq.cnt s ([a, b, c, d].take 2) = t at *
        go_wp2
        exact ⟨⟨3, by omega, by rw [hn.out], rfl⟩, by simp only [intOf]; omega⟩
    · by_cases hz : d < s
      · have hn : Hid (1 + Tq.cnt s ([a, b, c, d].take 4) = 1 + Tq.cnt s ([a, b, c, d].take 3) + 1) := Lib.hid (by rw [n4, if_pos hz]; omega)
        clear n0 n1 n2 n3 n4
        generalize Tq.cnt s ([a, b, c, d].take 3) = t at *
        go_wp2
        exact ⟨⟨4, by omega, by rw [hn.out], rfl⟩, by simp only [intOf]; omega⟩
      · have hn : Hid (1 + Tq.cnt s ([a, b, c, d].take 4) = 1 + Tq.cnt s ([a, b, c, d].take 3)) := Lib.hid (by rw [n4, if_neg hz]; omega)
        clear n0 n1 n2 n3 n4
        generalize Tq.cnt s ([a, b, c, d].take 3) = t at *
        go_wp2
        exact ⟨⟨4, by omega, by rw [hn.out], rfl⟩, by simp only [intOf]; omega⟩
    · clear n0 n1 n2 n3 n4 bd bl
      go_wp2
      go_ret
      exact ⟨rfl, HB.out⟩
set_option maxHeartbeats 6400000 in
theorem class_any (x : Tst) (w : World) (hF : Tq.Fits x) (hR : RulesT w) :
    Calls Tryd.prog 55 #[.agg #[.int .i64 x.ki, .int .i64 x.sc, .int .i64 x.qu, .int .i64 x.de, .int .i64 x.ho]] w fun e w' => e = .returned (.int .i64 (Tq.cls x)) ∧ Below w.heap.size w w' := by
  have HB := Lib.hid (boxTst_below w x 35)
  have hbx : boxTst w x 35 = w.alloc (.cells #[.int .i64 x.ki, .int .i64 x.sc, .int .i64 x.qu, .int .i64 x.de, .int .i64 x.ho] 35) := rfl
  have K := Lib.hid (boxTst_cells w x 35)
  have hlt : w.heap.size < (boxTst w x 35).heap.size := by rw [boxTst_size]; omega
  generalize boxTst w x 35 = W1 at *
  have K0 := Lib.hid (fun W (h : Below W1.heap.size W1 W) => (K.out.below h hlt).zero)
  have HR := Lib.hid (hR.below HB.out)
  have CR := Lib.hid (fun W (h : Below W1.heap.size W1 W) => rule_any x.ki W hF.k1 hF.k2 (HR.out.below h))
  have CC := Lib.hid (fun W => classOfRule_any x.ki x.sc W)
  rw [Tq.cls_last hF] at CC
  have bd := Tq.cnt_bd x.sc (Tq.lims x.ki)
  rw [Tq.lims_len] at bd
  have q1 := hF.q1
  have q2 := hF.q2
  have hr : Hid (Tq.cls x = max 1 (min 4 (1 + Tq.cnt x.sc (Tq.lims x.ki) + x.qu - 2))) := Lib.hid rfl
  generalize Tq.cnt x.sc (Tq.lims x.ki) = t at *
  have hw1 : IntKind.i64.wrap (1 + t + x.qu) = 1 + t + x.qu := IntWalk.i64_in _ (by omega)
  have hw2 : IntKind.i64.wrap (1 + t + x.qu - 2) = 1 + t + x.qu - 2 := IntWalk.i64_in _ (by omega)
  have hw3 : wrap64 (1 + t + x.qu) = 1 + t + x.qu := IntWalk.wrap64_in _ ⟨by omega, by omega⟩
  have hw4 : wrap64 (1 + t + x.qu - 2) = 1 + t + x.qu - 2 := IntWalk.wrap64_in _ ⟨by omega, by omega⟩
  generalize Tq.ruleV x.ki = V at *
  obtain ⟨x0, x1, x2, x3, x4⟩ := K0.out _ (Below.refl _ _)
  clear hR hlt hF HR
  go_enter Tryd.func55, Tryd.ntmps55
  go_wp2_with fail
  rw [← hbx]
  clear hbx
  (go_region_held3 (fun w' => w'.cell? ⟨w.heap.size, 0, none⟩ = some (.int .i64 x.ki) ∧ w'.cell? ⟨w.heap.size, 1, none⟩ = some (.int .i64 x.sc) ∧ w'.cell? ⟨w.heap.size, 2, none⟩ = some (.int .i64 x.qu) ∧ w'.cell? ⟨w.heap.size, 3, none⟩ = some (.int .i64 x.de) ∧ w'.cell? ⟨w.heap.size, 4, none⟩ = some (.int .i64 x.ho)) (go_keep)
    (first
      | (go_at_call 82; refine (CR.out _ (bdr1T _)).mono ?_; rintro e wR ⟨rfl, bR⟩; have bR0 := bt (bdr1T _) bR; obtain ⟨z0, z1, z2, z3, z4⟩ := K0.out wR bR0)
      | (go_at_call 89; refine (CC.out _).mono ?_; rintro e wA ⟨rfl, bA⟩; have bA0 := bt bR0 bA; obtain ⟨y0, y1, y2, y3, y4⟩ := K0.out wA bA0)))
  have B3 := Lib.hid (bt HB.out bA0)
  clear bA bA0 bR bR0
  generalize 1 + t + x.qu - 2 = z at *
  by_cases hlo : z < 1
  · have hm : Hid (Tq.cls x = 1) := Lib.hid (by rw [hr.out]; omega)
    have hx1 : max z 1 = 1 := by omega
    have hx2 : min (1 : Int) 4 = 1 := by omega
    go_wp2_with fail
    go_ret
    exact ⟨ret_int hm.out.symm, B3.out⟩
  · by_cases hhi : 4 < z
    · have hm : Hid (Tq.cls x = 4) := Lib.hid (by rw [hr.out]; omega)
      have hx1 : max z 1 = z := by omega
      have hx2 : min z 4 = 4 := by omega
      go_wp2_with fail
      go_ret
      exact ⟨ret_int hm.out.symm, B3.out⟩
    · have hm : Hid (Tq.cls x = z) := Lib.hid (by rw [hr.out]; omega)
      have hx1 : max z 1 = z := by omega
      have hx2 : min z 4 = z := by omega
      go_wp2_with fail
      go_ret
      exact ⟨ret_int hm.out.symm, B3.out⟩
set_option maxHeartbeats 1600000 in
theorem implClassOf_any (x : Tst) (w : World) (hR : RulesT w) :
    Calls Tryd.prog 22 #[.agg #[.int .i64 x.ki, .int .i64 x.sc, .int .i64 x.qu, .int .i64 x.de, .int .i64 x.ho]] w fun e w' => e = .returned (.tuple #[.int .i64 (rv (Tq.okT x) (Tq.cls x)), .int .i64 (rc (Tq.okT x) 1)]) ∧ Below w.heap.size w w' := by
  have HB := Lib.hid (boxTst_below w x 35)
  have C := Lib.hid (testWrong_any x (boxTst w x 35) (hR.below HB.out))
  have HR := Lib.hid (hR.below HB.out)
  have HK := Lib.hid (fun W (h : Below (boxTst w x 35).heap.size (boxTst w x 35) W) => boxTst_kept h)
  clear hR
  cases hq : Tq.okT x with
  | false =>
    rw [hq] at C
    rw [rv_f, rc_f]
    clear hq
    unfold boxTst at C HB
    go_enter Tryd.func22, Tryd.ntmps22
    go_wp2_with fail
    refine C.out.mono ?_
    rintro e w1 ⟨rfl, b1⟩
    have B1 := Lib.hid (bt HB.out b1)
    clear b1
    go_wp2_with fail
    go_ret2
    exact ⟨rfl, B1.out⟩
  | true =>
    have HF := Lib.hid ((Tq.okT_iff x).1 hq)
    rw [hq] at C
    rw [rv_t, rc_t]
    clear hq
    go_enter Tryd.func22, Tryd.ntmps22
    go_wp2_with fail
    refine C.out.mono ?_
    rintro e w1 ⟨rfl, b1⟩
    have B1 := Lib.hid (bt HB.out b1)
    have CC := Lib.hid (class_any x w1 HF.out (HR.out.below b1))
    obtain ⟨c0, c1, c2, c3, c4⟩ := (HK.out w1 b1).zero
    clear b1
    go_wp2_with fail
    refine CC.out.mono ?_
    rintro e w2 ⟨rfl, b2⟩
    have B2 := Lib.hid (bt B1.out b2)
    clear b2
    go_wp2_with fail
    go_ret2
    exact ⟨rfl, B2.out⟩
end Go.Proofs.YteileaeeiejonaaDoor
