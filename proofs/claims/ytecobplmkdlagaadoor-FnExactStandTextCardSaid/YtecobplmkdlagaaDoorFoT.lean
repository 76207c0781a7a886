/-
  A stand's text (chapter 10), by the model and by the program. The conditions: the name is not longer than 2^20; of the program's side, the library's table of powers of ten holds what its text lays. (Written by wip/gen/gentext.py.)
-/
import Derived.Test.YtecobplmkdlagaaDoorList
import Derived.Test.YtecobplmkdlagaaDoorFoB
import Derived.Test.YtecobplmkdlagaaDoorSlN
namespace Go.Proofs.YtecobplmkdlagaaDoor
open Go.RowKit Go.Shelf Go.Deep Go.WideShapes
set_option linter.unusedVariables false
set_option maxRecDepth 100000

theorem lt_lenF {zs : List Int} (hf : fitB zs = true) : (lt zs).length ≤ 1344 := by
  have hl := fit_len hf
  unfold lt
  split
  · simp
  · have := pre_len (fit_bd hf) zs.length (Nat.le_refl _); omega
theorem ltext_fitF {zs : List Int} (hf : fitB zs = true) : ltext zs = lt zs := by unfold ltext; rw [if_pos hf]
namespace Fo
/-- what StandText answers -/
def stx (x : Std) : ByteArray := if ok1 x = true then (⟨x.id.toArray⟩ ++ ⟨#[32]⟩ : ByteArray) ++ ⟨(lt [x.tr, x.he, x.co, x.ga]).toArray⟩ else ⟨#[]⟩
theorem fit_x {x : Std} (h : Fits x) : fitB [x.tr, x.he, x.co, x.ga] = true := by
  have h1 := h.t1; have h2 := h.t2; have h3 := h.h1; have h4 := h.h2; have h5 := h.c1; have h6 := h.c2; have h7 := h.g1; have h8 := h.g2
  unfold fitB okV Ar.inB
  simp
  omega
theorem ok1_len {x : Std} (h : ok1 x = true) : x.id.length ≤ 10 := by
  unfold ok1 at h
  rw [Bool.and_eq_true] at h
  by_cases hl : 1 ≤ x.id.length ∧ x.id.length ≤ 10
  · exact hl.2
  · have := nm_len hl; rw [h.1] at this; cases this
end Fo
set_option maxHeartbeats 6400000 in
theorem l10Text_any (w : World) (b : Nat) (x : Std) (hc : SnCells w b 0 x) (hk : Fo.ok1 x = true) :
    Calls Tryd.prog 40 #[.pointer (some ⟨b, 0, none⟩)] w fun e w' => e = .returned (.string ((⟨x.id.toArray⟩ ++ ⟨#[32]⟩ : ByteArray) ++ ⟨(lt [x.tr, x.he, x.co, x.ga]).toArray⟩)) ∧ Below w.heap.size w w' := by
  have hf := Fo.fit_x (Fo.ok1_fits hk)
  have hbl := World.block_lt_of_cell? w _ hc.c0
  have K0 := Lib.hid (fun W (h : Below w.heap.size w W) => (hc.below h hbl).zero)
  have C2 := Lib.hid (fun W u (h : Sl W u [x.tr, x.he, x.co, x.ga]) => l01List_any W u [x.tr, x.he, x.co, x.ga] h (by simp) (fit_bd hf))
  have L2 := lt_lenF hf
  have S1 : (⟨x.id.toArray⟩ : ByteArray).size ≤ 10 := by rw [sz_mk]; exact Fo.ok1_len hk
  have S2 : (⟨(lt [x.tr, x.he, x.co, x.ga]).toArray⟩ : ByteArray).size ≤ 1344 := by rw [sz_mk]; exact L2
  generalize (⟨(lt [x.tr, x.he, x.co, x.ga]).toArray⟩ : ByteArray) = t2 at *
  obtain ⟨x0, x1, x2, x3, x4⟩ := K0.out _ (Below.refl _ _)
  clear hc
  generalize (⟨x.id.toArray⟩ : ByteArray) = t1 at *
  have n1 : ¬ 9223372036854775807 < t1.size + 1 := by omega
  have n2 : ¬ 9223372036854775807 < t1.size + 1 + t2.size := by omega
  clear S1 S2 L2 hf hk
  go_enter Tryd.func40, Tryd.ntmps40
  go_wp2_with fail
  (go_region_held3 (fun w' => w'.cell? ⟨b, 0, none⟩ = some (.string t1) ∧ w'.cell? ⟨b, 1, none⟩ = some (.int .i64 x.tr) ∧ w'.cell? ⟨b, 2, none⟩ = some (.int .i64 x.he) ∧ w'.cell? ⟨b, 3, none⟩ = some (.int .i64 x.co) ∧ w'.cell? ⟨b, 4, none⟩ = some (.int .i64 x.ga)) (go_keep)
    (first
      | (go_at_call 67; refine (C2.out _ _ (sl4d _ _ _ _ _ _)).mono ?_; rintro e wA ⟨rfl, bA⟩; have bA0 := bt (bdA3 _ _) bA; obtain ⟨z0, z1, z2, z3, z4⟩ := K0.out wA bA0)))
  all_goals (
    go_wp2_with fail
    go_ret
    exact ⟨rfl, bA0⟩)
theorem specStandText_any (x : Std) (w : World) (hx : x.id.length ≤ 1048576) :
    Calls Tryd.prog 17 #[.agg #[.string ⟨x.id.toArray⟩, .int .i64 x.tr, .int .i64 x.he, .int .i64 x.co, .int .i64 x.ga]] w fun e w' => e = .returned (.string (Fo.stx x)) ∧ Below w.heap.size w w' := by
  have HB := Lib.hid (boxStd_below w x 39)
  have hK := boxStd_cells w x 39
  have C := Lib.hid (l10One_any x w.heap.size 0 _ hK hx)
  cases hq : Fo.ok1 x with
  | false =>
    have hr : Hid (Fo.stx x = ⟨#[]⟩) := Lib.hid (by unfold Fo.stx; rw [if_neg (by rw [hq]; decide)])
    rw [hr.out]
    rw [hq] at C
    clear hq hr hK
    unfold boxStd at C HB
    go_enter Tryd.func17, Tryd.ntmps17
    go_wp2_with fail
    refine C.out.mono ?_
    rintro e w' ⟨rfl, rfl⟩
    go_wp2_with fail
    go_ret
    exact ⟨rfl, HB.out⟩
  | true =>
    have hr : Hid (Fo.stx x = (⟨x.id.toArray⟩ ++ ⟨#[32]⟩ : ByteArray) ++ ⟨(lt [x.tr, x.he, x.co, x.ga]).toArray⟩) := Lib.hid (by unfold Fo.stx; rw [if_pos hq])
    have D := Lib.hid (l10Text_any _ w.heap.size x hK hq)
    rw [hr.out]
    rw [hq] at C
    clear hq hr hK
    unfold boxStd at C HB D
    go_enter Tryd.func17, Tryd.ntmps17
    go_wp2_with fail
    refine C.out.mono ?_
    rintro e w' ⟨rfl, rfl⟩
    go_wp2_with fail
    refine D.out.mono ?_
    rintro e w1 ⟨rfl, b1⟩
    have B1 := Lib.hid (bt HB.out b1)
    clear b1
    go_wp2_with fail
    go_ret
    exact ⟨rfl, B1.out⟩
set_option maxHeartbeats 6400000 in
theorem implStandText_any (x : Std) (w : World) (hx : x.id.length ≤ 1048576) (hp : Pow w) :
    Calls Tryd.prog 19 #[.agg #[.string ⟨x.id.toArray⟩, .int .i64 x.tr, .int .i64 x.he, .int .i64 x.co, .int .i64 x.ga]] w fun e w' => e = .returned (.string (Fo.stx x)) ∧ Below w.heap.size w w' := by
  have HB := Lib.hid (boxStd_below w x 39)
  have hbx : boxStd w x 39 = w.alloc (.cells #[.string ⟨x.id.toArray⟩, .int .i64 x.tr, .int .i64 x.he, .int .i64 x.co, .int .i64 x.ga] 39) := rfl
  have K := Lib.hid (boxStd_cells w x 39)
  have hlt : w.heap.size < (boxStd w x 39).heap.size := by rw [boxStd_size]; omega
  generalize boxStd w x 39 = W1 at *
  have K0 := Lib.hid (fun W (h : Below W1.heap.size W1 W) => (K.out.below h hlt).zero)
  have HP := Lib.hid (hp.below HB.out)
  have C := Lib.hid (isWrongStd_any x W1 hx)
  clear hp hlt hx
  obtain ⟨x0, x1, x2, x3, x4⟩ := K0.out _ (Below.refl _ _)
  cases hq : Fo.ok1 x with
  | false =>
    have hr : Hid (Fo.stx x = ⟨#[]⟩) := Lib.hid (by unfold Fo.stx; rw [if_neg (by rw [hq]; decide)])
    rw [hr.out]
    rw [hq] at C
    clear hq hr HP
    go_enter Tryd.func19, Tryd.ntmps19
    go_wp2_with fail
    rw [← hbx]
    clear hbx
    go_wp2_with fail
    refine C.out.mono ?_
    rintro e w1 ⟨rfl, b1⟩
    have B1 := Lib.hid (bt HB.out b1)
    clear b1
    go_wp2_with fail
    go_ret
    exact ⟨rfl, B1.out⟩
  | true =>
    have hr : Hid (Fo.stx x = (⟨x.id.toArray⟩ ++ ⟨#[32]⟩ : ByteArray) ++ ⟨(lt [x.tr, x.he, x.co, x.ga]).toArray⟩) := Lib.hid (by unfold Fo.stx; rw [if_pos hq])
    have hf := Fo.fit_x (Fo.ok1_fits hq)
    have C2 := Lib.hid (fun W u (h : Sl W u [x.tr, x.he, x.co, x.ga]) (hb : Below W1.heap.size W1 W) => implListText_any W u [x.tr, x.he, x.co, x.ga] h (by simp) (HP.out.below hb))
    rw [ltext_fitF hf] at C2
    have L2 := lt_lenF hf
    rw [hr.out]
    rw [hq] at C
    have S1 : (⟨x.id.toArray⟩ : ByteArray).size ≤ 10 := by rw [sz_mk]; exact Fo.ok1_len hq
    have S2 : (⟨(lt [x.tr, x.he, x.co, x.ga]).toArray⟩ : ByteArray).size ≤ 1344 := by rw [sz_mk]; exact L2
    generalize (⟨(lt [x.tr, x.he, x.co, x.ga]).toArray⟩ : ByteArray) = t2 at *
    clear K
    generalize (⟨x.id.toArray⟩ : ByteArray) = t1 at *
    have n1 : ¬ 9223372036854775807 < t1.size + 1 := by omega
    have n2 : ¬ 9223372036854775807 < t1.size + 1 + t2.size := by omega
    clear S1 S2 L2 hf hq hr HP
    go_enter Tryd.func19, Tryd.ntmps19
    go_wp2_with fail
    rw [← hbx]
    clear hbx
    go_wp2_with fail
    refine C.out.mono ?_
    rintro e w1 ⟨rfl, b1⟩
    have B1 := Lib.hid b1
    obtain ⟨y0, y1, y2, y3, y4⟩ := K0.out w1 b1
    clear b1 x0 x1 x2 x3 x4
    go_wp2_with fail
    (go_region_held3 (fun w' => w'.cell? ⟨w.heap.size, 0, none⟩ = some (.string t1) ∧ w'.cell? ⟨w.heap.size, 1, none⟩ = some (.int .i64 x.tr) ∧ w'.cell? ⟨w.heap.size, 2, none⟩ = some (.int .i64 x.he) ∧ w'.cell? ⟨w.heap.size, 3, none⟩ = some (.int .i64 x.co) ∧ w'.cell? ⟨w.heap.size, 4, none⟩ = some (.int .i64 x.ga)) (go_keep)
      (first
        | (go_at_call 42; refine (C2.out _ _ (sl4d _ _ _ _ _ _) (bt B1.out (bdA3 _ _))).mono ?_; rintro e wB ⟨rfl, bB⟩; have bB0 := bt (bt B1.out (bdA3 _ _)) bB; obtain ⟨v0, v1, v2, v3, v4⟩ := K0.out wB bB0)))
    all_goals (
      go_wp2_with fail
      go_ret
      exact ⟨rfl, bt HB.out bB0⟩)
end Go.Proofs.YtecobplmkdlagaaDoor
