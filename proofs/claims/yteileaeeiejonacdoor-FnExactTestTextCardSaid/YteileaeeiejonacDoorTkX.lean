/-
  A test's text (chapter 8), by the model and by the program. The conditions of the program's side: the library's table of powers of ten and impl.testRules hold what their texts lay.
-/
import Derived.Test.YteileaeeiejonacDoorList
import Derived.Test.YteileaeeiejonacDoorTkA
import Derived.Test.YteileaeeiejonacDoorTkN
import Derived.Test.YteileaeeiejonacDoorSlN
namespace Go.Proofs.YteileaeeiejonacDoor
open Go.RowKit Go.Shelf Go.Deep Go.WideShapes
set_option linter.unusedVariables false
set_option maxRecDepth 100000

namespace Tq
/-- what TestText answers -/
def ttx (x : Tst) : ByteArray := if okT x = true then (nmB x.ki ++ ⟨#[32]⟩ : ByteArray) ++ ⟨(lt [x.sc, x.qu, x.de, x.ho]).toArray⟩ else ⟨#[]⟩
theorem fit_t {x : Tst} (h : Fits x) : fitB [x.sc, x.qu, x.de, x.ho] = true := by
  have h1 := h.s1; have h2 := h.s2; have h3 := h.q1; have h4 := h.q2; have h5 := h.d1; have h6 := h.d2; have h7 := h.h1; have h8 := h.h2
  have b1 : 0 ≤ bot x.ki ∧ top x.ki ≤ 31 := by unfold bot top; split <;> omega
  unfold fitB okV Ar.inB
  simp
  omega
theorem nm_size (k : Int) : (nmB k).size ≤ 8 := by unfold nmB; split <;> (try split) <;> (try split) <;> decide
end Tq
theorem lt_lenT {zs : List Int} (hf : fitB zs = true) : (lt zs).length ≤ 1344 := by
  have hl := fit_len hf
  unfold lt
  split
  · simp
  · have := pre_len (fit_bd hf) zs.length (Nat.le_refl _); omega
theorem ltext_fitT {zs : List Int} (hf : fitB zs = true) : ltext zs = lt zs := by unfold ltext; rw [if_pos hf]

set_option maxHeartbeats 6400000 in
theorem l08Text_any (w : World) (b : Nat) (x : Tst) (hc : TeCells w b 0 x) (hk : Tq.Fits x) :
    Calls Tryd.prog 60 #[.pointer (some ⟨b, 0, none⟩)] w fun e w' => e = .returned (.string ((Tq.nmB x.ki ++ ⟨#[32]⟩ : ByteArray) ++ ⟨(lt [x.sc, x.qu, x.de, x.ho]).toArray⟩)) ∧ Below w.heap.size w w' := by
  have hf := Tq.fit_t hk
  have hbl := World.block_lt_of_cell? w _ hc.c0
  have K0 := Lib.hid (fun W (h : Below w.heap.size w W) => (hc.below h hbl).zero)
  have C1 := Lib.hid (fun W => l08Name_any x.ki W)
  have C2 := Lib.hid (fun W u (h : Sl W u [x.sc, x.qu, x.de, x.ho]) => l01List_any W u [x.sc, x.qu, x.de, x.ho] h (by simp) (fit_bd hf))
  have L2 := lt_lenT hf
  have S1 := Tq.nm_size x.ki
  have S2 : (⟨(lt [x.sc, x.qu, x.de, x.ho]).toArray⟩ : ByteArray).size ≤ 1344 := by rw [sz_mk]; exact L2
  generalize (⟨(lt [x.sc, x.qu, x.de, x.ho]).toArray⟩ : ByteArray) = t2 at *
  generalize Tq.nmB x.ki = t1 at *
  have n1 : ¬ 9223372036854775807 < t1.size + 1 := by omega
  have n2 : ¬ 9223372036854775807 < t1.size + 1 + t2.size := by omega
  clear S1 S2 L2 hf hk
  obtain ⟨x0, x1, x2, x3, x4⟩ := K0.out _ (Below.refl _ _)
  clear hc
  go_enter Tryd.func60, Tryd.ntmps60
  go_wp2_with fail
  (go_region_held3 (fun w' => w'.cell? ⟨b, 0, none⟩ = some (.int .i64 x.ki) ∧ w'.cell? ⟨b, 1, none⟩ = some (.int .i64 x.sc) ∧ w'.cell? ⟨b, 2, none⟩ = some (.int .i64 x.qu) ∧ w'.cell? ⟨b, 3, none⟩ = some (.int .i64 x.de) ∧ w'.cell? ⟨b, 4, none⟩ = some (.int .i64 x.ho)) (go_keep)
    (first
      | (go_at_call 99; refine (C1.out _).mono ?_; rintro e w' ⟨rfl, rfl⟩)
      | (go_at_call 87; refine (C2.out _ _ (sl4d _ _ _ _ _ _)).mono ?_; rintro e wA ⟨rfl, bA⟩; have bA0 := bt (bdA3 _ _) bA; obtain ⟨z0, z1, z2, z3, z4⟩ := K0.out wA bA0)))
  all_goals (
    go_wp2_with fail
    go_ret
    exact ⟨rfl, bA0⟩)
theorem specTestText_any (x : Tst) (w : World) :
    Calls Tryd.prog 21 #[.agg #[.int .i64 x.ki, .int .i64 x.sc, .int .i64 x.qu, .int .i64 x.de, .int .i64 x.ho]] w fun e w' => e = .returned (.string (Tq.ttx x)) ∧ Below w.heap.size w w' := by
  have HB := Lib.hid (boxTst_below w x 40)
  have hK := boxTst_cells w x 40
  have C := Lib.hid (l08One_any x w.heap.size 0 _ hK)
  cases hq : Tq.okT x with
  | false =>
    have hr : Hid (Tq.ttx x = ⟨#[]⟩) := Lib.hid (by unfold Tq.ttx; rw [if_neg (by rw [hq]; decide)])
    rw [hr.out]
    rw [hq] at C
    clear hq hr hK
    unfold boxTst at C HB
    go_enter Tryd.func21, Tryd.ntmps21
    go_wp2_with fail
    refine C.out.mono ?_
    rintro e w' ⟨rfl, rfl⟩
    go_wp2_with fail
    go_ret
    exact ⟨rfl, HB.out⟩
  | true =>
    have hr : Hid (Tq.ttx x = (Tq.nmB x.ki ++ ⟨#[32]⟩ : ByteArray) ++ ⟨(lt [x.sc, x.qu, x.de, x.ho]).toArray⟩) := Lib.hid (by unfold Tq.ttx; rw [if_pos hq])
    have D := Lib.hid (l08Text_any _ w.heap.size x hK ((Tq.okT_iff x).1 hq))
    rw [hr.out]
    rw [hq] at C
    clear hq hr hK
    unfold boxTst at C HB D
    go_enter Tryd.func21, Tryd.ntmps21
    go_wp2_with fail
    refine C.out.mono ?_
    rintro e w' ⟨rfl, rfl⟩
    go_wp2_with fail
    refine D.out.mono ?_
    rintro e w1 ⟨rfl, b1⟩
    have B1 := Lib.hid (bt HB.out b1)
    clear b1
    go_wp2_with fail
    go_ret
    exact ⟨rfl, B1.out⟩
set_option maxHeartbeats 6400000 in
theorem implTestText_any (x : Tst) (w : World) (hR : RulesT w) (hp : Pow w) :
    Calls Tryd.prog 23 #[.agg #[.int .i64 x.ki, .int .i64 x.sc, .int .i64 x.qu, .int .i64 x.de, .int .i64 x.ho]] w fun e w' => e = .returned (.string (Tq.ttx x)) ∧ Below w.heap.size w w' := by
  have HB := Lib.hid (boxTst_below w x 40)
  have hbx : boxTst w x 40 = w.alloc (.cells #[.int .i64 x.ki, .int .i64 x.sc, .int .i64 x.qu, .int .i64 x.de, .int .i64 x.ho] 40) := rfl
  have K := Lib.hid (boxTst_cells w x 40)
  have hlt : w.heap.size < (boxTst w x 40).heap.size := by rw [boxTst_size]; omega
  generalize boxTst w x 40 = W1 at *
  have K0 := Lib.hid (fun W (h : Below W1.heap.size W1 W) => (K.out.below h hlt).zero)
  have HR := Lib.hid (hR.below HB.out)
  have HP := Lib.hid (hp.below HB.out)
  have C := Lib.hid (testWrong_any x W1 HR.out)
  clear hR hp hlt
  obtain ⟨x0, x1, x2, x3, x4⟩ := K0.out _ (Below.refl _ _)
  cases hq : Tq.okT x with
  | false =>
    have hr : Hid (Tq.ttx x = ⟨#[]⟩) := Lib.hid (by unfold Tq.ttx; rw [if_neg (by rw [hq]; decide)])
    rw [hr.out]
    rw [hq] at C
    clear hq hr HR HP
    go_enter Tryd.func23, Tryd.ntmps23
    go_wp2_with fail
    rw [← hbx]
    clear hbx
    go_wp2_with fail
    refine C.out.mono ?_
    rintro e w1 ⟨rfl, b1⟩
    have B1 := Lib.hid (bt HB.out b1)
    clear b1
    go_wp2_with fail
    go_ret
    exact ⟨rfl, B1.out⟩
  | true =>
    have hr : Hid (Tq.ttx x = (Tq.nmB x.ki ++ ⟨#[32]⟩ : ByteArray) ++ ⟨(lt [x.sc, x.qu, x.de, x.ho]).toArray⟩) := Lib.hid (by unfold Tq.ttx; rw [if_pos hq])
    have hf := Tq.fit_t ((Tq.okT_iff x).1 hq)
    have C1 := Lib.hid (fun W (h : Below W1.heap.size W1 W) => implTestName_any x.ki W (HR.out.below h))
    have C2 := Lib.hid (fun W u (h : Sl W u [x.sc, x.qu, x.de, x.ho]) (hb : Below W1.heap.size W1 W) => implListText_any W u [x.sc, x.qu, x.de, x.ho] h (by simp) (HP.out.below hb))
    rw [ltext_fitT hf] at C2
    have L2 := lt_lenT hf
    have S1 := Tq.nm_size x.ki
    rw [hr.out]
    rw [hq] at C
    have S2 : (⟨(lt [x.sc, x.qu, x.de, x.ho]).toArray⟩ : ByteArray).size ≤ 1344 := by rw [sz_mk]; exact L2
    generalize (⟨(lt [x.sc, x.qu, x.de, x.ho]).toArray⟩ : ByteArray) = t2 at *
    generalize Tq.nmB x.ki = t1 at *
    have n1 : ¬ 9223372036854775807 < t1.size + 1 := by omega
    have n2 : ¬ 9223372036854775807 < t1.size + 1 + t2.size := by omega
    clear S1 S2 L2 hf hq hr HR HP
    go_enter Tryd.func23, Tryd.ntmps23
    go_wp2_with fail
    rw [← hbx]
    clear hbx
    go_wp2_with fail
    refine C.out.mono ?_
    rintro e w1 ⟨rfl, b1⟩
    have B1 := Lib.hid b1
    obtain ⟨y0, y1, y2, y3, y4⟩ := K0.out w1 b1
    clear b1 x0 x1 x2 x3 x4
    go_wp2_with fail
    (go_region_held3 (fun w' => w'.cell? ⟨w.heap.size, 0, none⟩ = some (.int .i64 x.ki) ∧ w'.cell? ⟨w.heap.size, 1, none⟩ = some (.int .i64 x.sc) ∧ w'.cell? ⟨w.heap.size, 2, none⟩ = some (.int .i64 x.qu) ∧ w'.cell? ⟨w.heap.size, 3, none⟩ = some (.int .i64 x.de) ∧ w'.cell? ⟨w.heap.size, 4, none⟩ = some (.int .i64 x.ho)) (go_keep)
      (first
        | (go_at_call 62; first | (refine (C1.out _ (bt B1.out (bdA3 _ _))).mono ?_; rintro e wA ⟨rfl, bA⟩; have bA0 := bt (bt B1.out (bdA3 _ _)) bA; have rowA := (sl4d _ _ _ _ _ _).below bA; obtain ⟨z0, z1, z2, z3, z4⟩ := K0.out wA bA0) | (refine (C1.out _ (bt B1.out (bdA1 _))).mono ?_; rintro e wA ⟨rfl, bA⟩; have bA0 := bt (bt B1.out (bdA1 _)) bA; obtain ⟨z0, z1, z2, z3, z4⟩ := K0.out wA bA0))
        | (go_at_call 51; first | (refine (C2.out _ _ rowA bA0).mono ?_; rintro e wB ⟨rfl, bB⟩; have bB0 := bt bA0 bB; obtain ⟨v0, v1, v2, v3, v4⟩ := K0.out wB bB0) | (refine (C2.out _ _ (sl4 _ _ _ _ _ _) (bt bA0 (bdA2 _ _))).mono ?_; rintro e wB ⟨rfl, bB⟩; have bB0 := bt (bt bA0 (bdA2 _ _)) bB; obtain ⟨v0, v1, v2, v3, v4⟩ := K0.out wB bB0))))
    all_goals (
      go_wp2_with fail
      go_ret
      exact ⟨rfl, bt HB.out bB0⟩)
end Go.Proofs.YteileaeeiejonacDoor
