/-
  One layer's part of a profile's text, by the program. No condition of its own but what ReadList asks.
-/
import Derived.Test.YtmieckchppfogaaDoorPrR
namespace Go.Proofs.YtmieckchppfogaaDoor
open Go.RowKit Go.ChangeShapes Go.WideShapes Go.Deep
set_option linter.unusedVariables false
set_option maxRecDepth 100000

theorem whole_drew {w : World} {g : Nat} {t : TypeId} {cs : Array Value} (h : Whole w g t cs) : Whole w.drew g t cs := h.drewN 1
theorem below_drew1 (w : World) : Below w.heap.size w w.drew := below_drewW w 1

set_option maxHeartbeats 3200000 in
theorem readLayer_any (s : ByteArray) (w : World) (hs : s.size ≤ 1048576) (hpw : Pow w) (her : Errs w) (hml : MaxL w) :
    Calls Tryd.prog 44 #[.string s] w (RY w (La.ry s.data.toList)) := by
  have HB := Lib.hid (boxed_below w La.lz 56)
  have C := Lib.hid (implReadList_any s (boxed w La.lz 56) hs (hpw.below HB.out) (her.below HB.out) (hml.below HB.out))
  clear hpw her hml
  have HK : Hid (∀ w1, Below (boxed w La.lz 56).heap.size (boxed w La.lz 56) w1 → Whole w1 w.heap.size 56 #[.int .i64 0, .int .i64 0, .int .i64 0, .int .i64 0, .int .i64 0, .int .i64 0, .int .i64 0]) := Lib.hid (fun w1 h => (Whole.new w _ _).all h)
  generalize hl : rl s.data.toList = l at *
  cases l with
  | none =>
    have hr := Lib.hid (La.ry_n hl)
    clear hl
    unfold boxed La.lz at C HB HK
    go_enter Tryd.func44, Tryd.ntmps44
    go_wp2_with fail
    refine C.out.mono ?_
    rintro e w1 ⟨u, rfl, ho, b1⟩
    have k := HK.out w1 b1
    have R := Lib.hid (setY_cells k La.lz)
    have B1 := Lib.hid (setY_below (bt HB.out b1) (Nat.le_refl _) La.lz)
    have c0 : w1.cell? ⟨w.heap.size, 0, none⟩ = some (.int .i64 0) := k.at_ 0
    have c1 : w1.cell? ⟨w.heap.size, 1, none⟩ = some (.int .i64 0) := k.at_ 1
    have c2 : w1.cell? ⟨w.heap.size, 2, none⟩ = some (.int .i64 0) := k.at_ 2
    have c3 : w1.cell? ⟨w.heap.size, 3, none⟩ = some (.int .i64 0) := k.at_ 3
    have c4 : w1.cell? ⟨w.heap.size, 4, none⟩ = some (.int .i64 0) := k.at_ 4
    have c5 : w1.cell? ⟨w.heap.size, 5, none⟩ = some (.int .i64 0) := k.at_ 5
    have c6 : w1.cell? ⟨w.heap.size, 6, none⟩ = some (.int .i64 0) := k.at_ 6
    have f0 := k.free 0
    have f1 := k.free 1
    have f2 := k.free 2
    have f3 := k.free 3
    have f4 := k.free 4
    have f5 := k.free 5
    have f6 := k.free 6
    clear ho b1 k
    go_wp2_with fail
    change bodyPost _ _ _ _ _ (setY w1 w.heap.size La.lz)
    have d0 : (setY w1 w.heap.size La.lz).cell? ⟨w.heap.size, 0, none⟩ = some (.int .i64 0) := R.out.at_ 0
    have d1 : (setY w1 w.heap.size La.lz).cell? ⟨w.heap.size, 1, none⟩ = some (.int .i64 0) := R.out.at_ 1
    have d2 : (setY w1 w.heap.size La.lz).cell? ⟨w.heap.size, 2, none⟩ = some (.int .i64 0) := R.out.at_ 2
    have d3 : (setY w1 w.heap.size La.lz).cell? ⟨w.heap.size, 3, none⟩ = some (.int .i64 0) := R.out.at_ 3
    have d4 : (setY w1 w.heap.size La.lz).cell? ⟨w.heap.size, 4, none⟩ = some (.int .i64 0) := R.out.at_ 4
    have d5 : (setY w1 w.heap.size La.lz).cell? ⟨w.heap.size, 5, none⟩ = some (.int .i64 0) := R.out.at_ 5
    have d6 : (setY w1 w.heap.size La.lz).cell? ⟨w.heap.size, 6, none⟩ = some (.int .i64 0) := R.out.at_ 6
    generalize setY w1 w.heap.size La.lz = W at *
    exact bodyPost_ret (v := .tuple #[.agg #[.int .i64 0, .int .i64 0, .int .i64 0, .int .i64 0, .int .i64 0, .int .i64 0, .int .i64 0], .bool false]) (by simp [results, Tryd.results44, go_sem, d0, d1, d2, d3, d4, d5, d6]) rfl (RY.no hr.out B1.out)
  | some zs =>
    by_cases hz : zs.length = 7
    · obtain ⟨a, b, c, d, e, f, g, rfl⟩ := La.seven hz
      clear hz
      have hr := Lib.hid (La.ry_y hl)
      clear hl
      unfold boxed La.lz at C HB HK
      go_enter Tryd.func44, Tryd.ntmps44
      go_wp2_with fail
      refine C.out.mono ?_
      rintro e' w1 ⟨u, rfl, ho, b1⟩
      have k := HK.out w1 b1
      have R := Lib.hid (setY_cells k ⟨a, b, c, d, e, f, g⟩)
      have B1 := Lib.hid (setY_below (bt HB.out b1) (Nat.le_refl _) ⟨a, b, c, d, e, f, g⟩)
      have c0 : w1.cell? ⟨w.heap.size, 0, none⟩ = some (.int .i64 0) := k.at_ 0
      have c1 : w1.cell? ⟨w.heap.size, 1, none⟩ = some (.int .i64 0) := k.at_ 1
      have c2 : w1.cell? ⟨w.heap.size, 2, none⟩ = some (.int .i64 0) := k.at_ 2
      have c3 : w1.cell? ⟨w.heap.size, 3, none⟩ = some (.int .i64 0) := k.at_ 3
      have c4 : w1.cell? ⟨w.heap.size, 4, none⟩ = some (.int .i64 0) := k.at_ 4
      have c5 : w1.cell? ⟨w.heap.size, 5, none⟩ = some (.int .i64 0) := k.at_ 5
      have c6 : w1.cell? ⟨w.heap.size, 6, none⟩ = some (.int .i64 0) := k.at_ 6
      have f0 := k.free 0
      have f1 := k.free 1
      have f2 := k.free 2
      have f3 := k.free 3
      have f4 := k.free 4
      have f5 := k.free 5
      have f6 := k.free 6
      obtain ⟨g0, cap, rfl, hc⟩ := own_nums ho (by simp)
      have hg0 : w.heap.size < g0 := by have := (World.ownsRow.lt ho g0 rfl).1; simp at this; omega
      have hg1 : ¬ g0 = w.heap.size := by omega
      have hg2 : ¬ w.heap.size = g0 := by omega
      have e0 : w1.cell? ⟨g0, 0, none⟩ = some (.int .i64 a) := hc 0 _ rfl
      have e1 : w1.cell? ⟨g0, 1, none⟩ = some (.int .i64 b) := hc 1 _ rfl
      have e2 : w1.cell? ⟨g0, 2, none⟩ = some (.int .i64 c) := hc 2 _ rfl
      have e3 : w1.cell? ⟨g0, 3, none⟩ = some (.int .i64 d) := hc 3 _ rfl
      have e4 : w1.cell? ⟨g0, 4, none⟩ = some (.int .i64 e) := hc 4 _ rfl
      have e5 : w1.cell? ⟨g0, 5, none⟩ = some (.int .i64 f) := hc 5 _ rfl
      have e6 : w1.cell? ⟨g0, 6, none⟩ = some (.int .i64 g) := hc 6 _ rfl
      have hln : ((some [a, b, c, d, e, f, g]).getD []).length = 7 := rfl
      rw [hln]
      clear ho b1 k hc hln
      go_wp2_with fail
      go_region_held3 (fun w' => w'.cell? ⟨g0, 0, none⟩ = some (.int .i64 a) ∧ w'.cell? ⟨g0, 1, none⟩ = some (.int .i64 b) ∧ w'.cell? ⟨g0, 2, none⟩ = some (.int .i64 c) ∧ w'.cell? ⟨g0, 3, none⟩ = some (.int .i64 d) ∧ w'.cell? ⟨g0, 4, none⟩ = some (.int .i64 e) ∧ w'.cell? ⟨g0, 5, none⟩ = some (.int .i64 f) ∧ w'.cell? ⟨g0, 6, none⟩ = some (.int .i64 g)) (go_keep) (fail)
      go_wp2_with fail
      have R2 := Lib.hid (whole_drew R.out)
      have B2 := Lib.hid (bt B1.out (below_drew1 (setY w1 w.heap.size ⟨a, b, c, d, e, f, g⟩)))
      change bodyPost _ _ _ _ _ (setY w1 w.heap.size ⟨a, b, c, d, e, f, g⟩).drew
      have d0 : (setY w1 w.heap.size ⟨a, b, c, d, e, f, g⟩).drew.cell? ⟨w.heap.size, 0, none⟩ = some (.int .i64 a) := R2.out.at_ 0
      have d1 : (setY w1 w.heap.size ⟨a, b, c, d, e, f, g⟩).drew.cell? ⟨w.heap.size, 1, none⟩ = some (.int .i64 b) := R2.out.at_ 1
      have d2 : (setY w1 w.heap.size ⟨a, b, c, d, e, f, g⟩).drew.cell? ⟨w.heap.size, 2, none⟩ = some (.int .i64 c) := R2.out.at_ 2
      have d3 : (setY w1 w.heap.size ⟨a, b, c, d, e, f, g⟩).drew.cell? ⟨w.heap.size, 3, none⟩ = some (.int .i64 d) := R2.out.at_ 3
      have d4 : (setY w1 w.heap.size ⟨a, b, c, d, e, f, g⟩).drew.cell? ⟨w.heap.size, 4, none⟩ = some (.int .i64 e) := R2.out.at_ 4
      have d5 : (setY w1 w.heap.size ⟨a, b, c, d, e, f, g⟩).drew.cell? ⟨w.heap.size, 5, none⟩ = some (.int .i64 f) := R2.out.at_ 5
      have d6 : (setY w1 w.heap.size ⟨a, b, c, d, e, f, g⟩).drew.cell? ⟨w.heap.size, 6, none⟩ = some (.int .i64 g) := R2.out.at_ 6
      generalize (setY w1 w.heap.size ⟨a, b, c, d, e, f, g⟩).drew = W at *
      exact bodyPost_ret (v := .tuple #[.agg #[.int .i64 a, .int .i64 b, .int .i64 c, .int .i64 d, .int .i64 e, .int .i64 f, .int .i64 g], .bool true]) (by simp [results, Tryd.results44, go_sem, d0, d1, d2, d3, d4, d5, d6]) rfl (RY.yes hr.out B2.out)
    · have hr := Lib.hid (La.ry_len hl hz)
      have hne : ((zs.length : Int) == 7) = false := beq_eq_false_iff_ne.2 (by omega)
      have hne2 : ((zs.length : Int) != 7) = true := by rw [bne, hne]; rfl
      clear hl hz
      unfold boxed La.lz at C HB HK
      go_enter Tryd.func44, Tryd.ntmps44
      go_wp2_with fail
      refine C.out.mono ?_
      rintro e w1 ⟨u, rfl, ho, b1⟩
      have k := HK.out w1 b1
      have R := Lib.hid (setY_cells k La.lz)
      have B1 := Lib.hid (setY_below (bt HB.out b1) (Nat.le_refl _) La.lz)
      have c0 : w1.cell? ⟨w.heap.size, 0, none⟩ = some (.int .i64 0) := k.at_ 0
      have c1 : w1.cell? ⟨w.heap.size, 1, none⟩ = some (.int .i64 0) := k.at_ 1
      have c2 : w1.cell? ⟨w.heap.size, 2, none⟩ = some (.int .i64 0) := k.at_ 2
      have c3 : w1.cell? ⟨w.heap.size, 3, none⟩ = some (.int .i64 0) := k.at_ 3
      have c4 : w1.cell? ⟨w.heap.size, 4, none⟩ = some (.int .i64 0) := k.at_ 4
      have c5 : w1.cell? ⟨w.heap.size, 5, none⟩ = some (.int .i64 0) := k.at_ 5
      have c6 : w1.cell? ⟨w.heap.size, 6, none⟩ = some (.int .i64 0) := k.at_ 6
      have f0 := k.free 0
      have f1 := k.free 1
      have f2 := k.free 2
      have f3 := k.free 3
      have f4 := k.free 4
      have f5 := k.free 5
      have f6 := k.free 6
      obtain ⟨aa, cap, rfl⟩ := ho.sl.form
      simp only [Option.getD_some] at *
      clear ho b1 k
      go_wp2_with fail
      change bodyPost _ _ _ _ _ (setY w1 w.heap.size La.lz)
      have d0 : (setY w1 w.heap.size La.lz).cell? ⟨w.heap.size, 0, none⟩ = some (.int .i64 0) := R.out.at_ 0
      have d1 : (setY w1 w.heap.size La.lz).cell? ⟨w.heap.size, 1, none⟩ = some (.int .i64 0) := R.out.at_ 1
      have d2 : (setY w1 w.heap.size La.lz).cell? ⟨w.heap.size, 2, none⟩ = some (.int .i64 0) := R.out.at_ 2
      have d3 : (setY w1 w.heap.size La.lz).cell? ⟨w.heap.size, 3, none⟩ = some (.int .i64 0) := R.out.at_ 3
      have d4 : (setY w1 w.heap.size La.lz).cell? ⟨w.heap.size, 4, none⟩ = some (.int .i64 0) := R.out.at_ 4
      have d5 : (setY w1 w.heap.size La.lz).cell? ⟨w.heap.size, 5, none⟩ = some (.int .i64 0) := R.out.at_ 5
      have d6 : (setY w1 w.heap.size La.lz).cell? ⟨w.heap.size, 6, none⟩ = some (.int .i64 0) := R.out.at_ 6
      generalize setY w1 w.heap.size La.lz = W at *
      exact bodyPost_ret (v := .tuple #[.agg #[.int .i64 0, .int .i64 0, .int .i64 0, .int .i64 0, .int .i64 0, .int .i64 0, .int .i64 0], .bool false]) (by simp [results, Tryd.results44, go_sem, d0, d1, d2, d3, d4, d5, d6]) rfl (RY.no hr.out B1.out)
end Go.Proofs.YtmieckchppfogaaDoor
