/-
  A step of drift (chapter 6), by the program. Its condition: impl.leeWays holds what the program's text lays.
-/
import Derived.Test.YtmidihmbehaegaaDoorFdW
namespace Go.Proofs.YtmidihmbehaegaaDoor
open Go.RowKit Go.Shelf Go.Deep Go.Maps Go.WideShapes
set_option linter.unusedVariables false
set_option maxRecDepth 100000

theorem one_sl (w : World) (r c : Int) (v : Value) (d : Int) : Sl ((twoF w r c v 26 26).alloc (.cells #[.int .i64 d] 2)) (.slice (some ⟨w.heap.size + 1 + 1, 0, none⟩) 1 1) [d] := by
  refine Or.inr ⟨w.heap.size + 1 + 1, 0, 1, rfl, by simp [twoF], fun j z hj => ?_⟩
  have h := (Whole.new (twoF w r c v 26 26) 2 #[.int .i64 d]).at_ 0
  rw [twoF_size] at h
  cases j with
  | zero => simp only [List.getElem?_cons_zero, Option.some.injEq] at hj; subst hj; simpa using h
  | succ j => simp at hj
set_option maxHeartbeats 6400000 in
theorem implDriftStep_any (w : World) (r c : Int) (v : Value) (zs : List Int) (d s : Int) (ho : IAt w v zs) (hl : zs.length ≤ 1048576) (hw : WaysAt w) :
    Calls Tryd.prog 12 #[.agg #[.int .i64 r, .int .i64 c, v], .int .i64 d, .int .i64 s] w (RFC w (Fw.drR r c zs [d] s) (Fw.drK r c zs [d] s) (Fw.drZ r c zs [d] s) (Fw.drC r c zs [d] s)) := by
  have HB := Lib.hid (twoF_below w r c v 26 26)
  have HO := Lib.hid ho
  have HW := Lib.hid hw
  have BA : Hid (Below (twoF w r c v 26 26).heap.size (twoF w r c v 26 26) ((twoF w r c v 26 26).alloc (.cells #[.int .i64 d] 2))) := Lib.hid ((Below.refl _ _).alloc (Nat.le_refl _) _)
  have C := Lib.hid (implDriftRun_any ((twoF w r c v 26 26).alloc (.cells #[.int .i64 d] 2)) r c v zs _ [d] s (ho.all (bt HB.out BA.out)) hl (one_sl w r c v d) (by simp) (hw.below (bt HB.out BA.out)))
  obtain ⟨x0, x1, x2⟩ := (twoF_new w r c v 26 26).1.fc.three
  clear ho hw
  generalize Fw.drR r c zs [d] s = dR at *
  generalize Fw.drK r c zs [d] s = dK at *
  generalize Fw.drZ r c zs [d] s = dZ at *
  generalize Fw.drC r c zs [d] s = dC at *
  go_enter Tryd.func12, Tryd.ntmps12
  go_wp2_with fail
  refine C.out.mono ?_
  rintro e w1 ⟨a, cap, rfl, o1, b1⟩
  have b2 := bt BA.out b1
  have KR := (twoF_kept b2).2
  have B1 := Lib.hid (bt HB.out b2)
  have l1 := BA.out.size
  obtain ⟨c0, c1, c2⟩ := KR.fc.three
  have f0 := KR.free 0
  have f1 := KR.free 1
  have f2 := KR.free 2
  have HP := Lib.hid (setF_whole KR dR dK (.slice a dZ.length cap)).fc.three
  have HS := Lib.hid (setF_below B1.out (Nat.le_succ _) dR dK (.slice a dZ.length cap))
  have HQ : Hid (Own w.heap.size (setF w1 (w.heap.size + 1) dR dK (.slice a dZ.length cap)) (.slice a dZ.length cap) dZ) := Lib.hid (Own.le (Own.otherB o1 (setF_only w1 (w.heap.size + 1) dR dK (.slice a dZ.length cap)) (by rw [twoF_size] at l1; omega)) (by rw [twoF_size] at l1; omega))
  clear KR o1 b1 b2 l1
  go_wp2_with fail
  obtain ⟨d0, d1, d2⟩ := HP.out
  unfold setF at d0 d1 d2 HS HQ
  exact bodyPost_ret (v := .tuple #[.agg #[.int .i64 dR, .int .i64 dK, .slice a dZ.length cap], .int .i64 dC]) (by simp [results, Tryd.results12, go_sem, d0, d1, d2]) rfl (RFC.mk ⟨rfl, rfl, rfl, rfl⟩ HQ.out HS.out)
end Go.Proofs.YtmidihmbehaegaaDoor
