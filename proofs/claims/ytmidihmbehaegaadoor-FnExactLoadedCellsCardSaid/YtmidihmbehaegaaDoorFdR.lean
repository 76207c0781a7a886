/-
  Steps of drift (chapter 6): which directions count, and DriftRun by the model. No condition of its own.
-/
import Derived.Test.YtmidihmbehaegaaDoorFdQ
import Derived.Test.YtmidihmbehaegaaDoorIntG
namespace Go.Proofs.YtmidihmbehaegaaDoor
open Go.RowKit Go.Shelf Go.Deep
set_option linter.unusedVariables false
set_option maxRecDepth 100000

theorem Own.otherB {B x : Nat} {w w1 : World} {v : Value} {zs : List Int} (h : Own B w v zs) (hg : w.grownBy w1 (some x)) (hx : x < B) : Own B w1 v zs := by
  rcases h.2 with ⟨hv, hn⟩ | ⟨g, cap, cur, hv, hbg, _⟩
  · exact ⟨h.1, Or.inl ⟨hv, hn⟩⟩
  · subst hv
    exact Own.other h hg (by omega)
set_option maxHeartbeats 1600000 in
theorem specDriftRun_any (w : World) (r c : Int) (v : Value) (zs : List Int) (u : Value) (ds : List Int) (s : Int) (hv : IAt w v zs) (hl : zs.length ≤ 1048576) (hu : Sl w u ds) (hl2 : ds.length ≤ 1048576) :
    Calls Tryd.prog 16 #[.agg #[.int .i64 r, .int .i64 c, v], u, .int .i64 s] w (RFC w (Fw.drR r c zs ds s) (Fw.drK r c zs ds s) (Fw.drZ r c zs ds s) (Fw.drC r c zs ds s)) := by
  have HB := Lib.hid (twoF_below w r c v 26 26)
  have C := Lib.hid (l06Run_any (twoF w r c v 26 26) w.heap.size r c v u zs ds s (twoF_new w r c v 26 26).1.fc (hv.all HB.out) hl (hu.below HB.out) hl2)
  have HU := Lib.hid hu
  obtain ⟨ua, ucap, rfl⟩ := hu.form
  clear hv hu
  generalize Fw.drR r c zs ds s = dR at *
  generalize Fw.drK r c zs ds s = dK at *
  generalize Fw.drZ r c zs ds s = dZ at *
  generalize Fw.drC r c zs ds s = dC at *
  go_enter Tryd.func16, Tryd.ntmps16
  go_wp2_with fail
  refine C.out.mono ?_
  rintro e w1 ⟨a, cap, rfl, o1, b1⟩
  have KR := (twoF_kept b1).2
  have B1 := Lib.hid (bt HB.out b1)
  obtain ⟨c0, c1, c2⟩ := KR.fc.three
  have f0 := KR.free 0
  have f1 := KR.free 1
  have f2 := KR.free 2
  have HP := Lib.hid (setF_whole KR dR dK (.slice a dZ.length cap)).fc.three
  have HS := Lib.hid (setF_below B1.out (Nat.le_succ _) dR dK (.slice a dZ.length cap))
  have HO : Hid (Own w.heap.size (setF w1 (w.heap.size + 1) dR dK (.slice a dZ.length cap)) (.slice a dZ.length cap) dZ) := Lib.hid (Own.le (Own.otherB o1 (setF_only w1 (w.heap.size + 1) dR dK (.slice a dZ.length cap)) (by rw [twoF_size]; omega)) (by rw [twoF_size]; omega))
  clear KR o1 b1
  go_wp2_with fail
  obtain ⟨d0, d1, d2⟩ := HP.out
  unfold setF at d0 d1 d2 HS HO
  exact bodyPost_ret (v := .tuple #[.agg #[.int .i64 dR, .int .i64 dK, .slice a dZ.length cap], .int .i64 dC]) (by simp [results, Tryd.results16, go_sem, d0, d1, d2]) rfl (RFC.mk ⟨rfl, rfl, rfl, rfl⟩ HO.out HS.out)
theorem isShare_any (x : Int) (w : World) : Calls Tryd.prog 39 #[.int .i64 x] w fun e w' => e = .returned (.bool (Fw.okS x)) ∧ w = w' := by
  go_enter Tryd.func39, Tryd.ntmps39
  go_wp2_with (go_at_call 56; refine (within_any _ _ _ _).mono ?_; rintro e w' ⟨rfl, rfl⟩)
  go_ret
  exact ⟨rfl, rfl⟩
theorem isNoWind_any (x : Int) (w : World) : Calls Tryd.prog 55 #[.int .i64 x] w fun e w' => e = .returned (.bool (!Fw.okD x)) ∧ w = w' := by
  have C := Lib.hid (fun W => within_any x 0 3 W)
  rw [show Ar.inB 0 x 3 = Fw.okD x from rfl] at C
  generalize Fw.okD x = q at *
  go_enter Tryd.func55, Tryd.ntmps55
  go_wp2_with fail
  refine (C.out _).mono ?_
  rintro e w' ⟨rfl, rfl⟩
  cases q
  all_goals (
    go_wp2_with fail
    go_ret
    exact ⟨rfl, rfl⟩)
theorem gusts_eq {ds : List Int} (h : ds.length ≤ 24) : Fw.okDs ds = !(ds.any fun x => !Fw.okD x) := by
  unfold Fw.okDs
  rw [decide_eq_true h, Bool.true_and, List.not_any_eq_all_not]
  simp
set_option maxHeartbeats 1600000 in
theorem areGusts_any (w : World) (u : Value) (ds : List Int) (hu : Sl w u ds) (hl : ds.length ≤ 1048576) :
    Calls Tryd.prog 38 #[u] w fun e w' => e = .returned (.bool (Fw.okDs ds)) ∧ Below w.heap.size w w' := by
  obtain ⟨a, cap, rfl⟩ := hu.form
  have CF := Lib.hid (containsFuncI_any 55 #[] (enters_of Tryd.func55 (by kernel_rfl) rfl) (fun x => !Fw.okD x) w (.slice a ds.length cap) ds hl hu (fun x W hW => (isNoWind_any x W).mono (by rintro e w' ⟨rfl, rfl⟩; exact ⟨rfl, hW⟩)))
  clear hu
  by_cases h : ds.length ≤ 24
  · have hz : (ds.length : Int) ≤ 24 := by omega
    have hr := Lib.hid (gusts_eq h)
    generalize ds.any (fun x => !Fw.okD x) = q at *
    generalize Fw.okDs ds = o at *
    go_enter Tryd.func38, Tryd.ntmps38
    go_wp2_with fail
    refine CF.out.mono ?_
    rintro e w1 ⟨rfl, b1⟩
    have B1 := Lib.hid b1
    clear b1
    go_wp2_with fail
    go_ret
    exact ⟨ret_bool (by rw [hr.out]), B1.out⟩
  · have hz : ¬ (ds.length : Int) ≤ 24 := by omega
    have hr := Lib.hid (okDs_long h)
    generalize Fw.okDs ds = o at *
    go_enter Tryd.func38, Tryd.ntmps38
    go_wp2_with fail
    go_ret
    exact ⟨ret_bool (by rw [hr.out]), Below.refl _ _⟩
end Go.Proofs.YtmidihmbehaegaaDoor
