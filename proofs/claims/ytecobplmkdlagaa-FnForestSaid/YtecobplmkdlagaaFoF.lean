/-
  A stand after some years, without some trees; the years until it protects: by the model and by the program. The condition: no name is longer than 2^20. (Written by wip/gen/genfof.py.)
-/
import Derived.Test.YtecobplmkdlagaaFoC
import Derived.Test.YtecobplmkdlagaaFoP
import Derived.Test.YtecobplmkdlagaaFoD
import Derived.Test.YtecobplmkdlagaaStdF
namespace Go.Proofs.Ytecobplmkdlagaa
open Go.RowKit Go.Shelf
set_option linter.unusedVariables false
set_option maxRecDepth 100000

/-- a block that holds a stand -/
def StdAt (w : World) (g : Nat) (x : Std) : Prop := Whole w g 34 #[.string ⟨x.id.toArray⟩, .int .i64 x.tr, .int .i64 x.he, .int .i64 x.co, .int .i64 x.ga]
theorem StdAt.five {w : World} {g : Nat} {x : Std} (h : StdAt w g x) : w.cell? ⟨g, 0, none⟩ = some (.string ⟨x.id.toArray⟩) ∧ w.cell? ⟨g, 1, none⟩ = some (.int .i64 x.tr) ∧ w.cell? ⟨g, 2, none⟩ = some (.int .i64 x.he) ∧ w.cell? ⟨g, 3, none⟩ = some (.int .i64 x.co) ∧ w.cell? ⟨g, 4, none⟩ = some (.int .i64 x.ga) := ⟨h.at_ 0, h.at_ 1, h.at_ 2, h.at_ 3, h.at_ 4⟩
theorem StdAt.cells {w : World} {g : Nat} {x : Std} (h : StdAt w g x) : SnCells w g 0 x := ⟨h.at_ 0, h.at_ 1, h.at_ 2, h.at_ 3, h.at_ 4⟩
theorem StdAt.box (w : World) (x : Std) : StdAt (boxStd w x 34) w.heap.size x := Whole.new w _ _
theorem StdAt.all {w w1 : World} {g : Nat} {x : Std} (h : StdAt w g x) (hb : Below w.heap.size w w1) : StdAt w1 g x := Whole.all h hb
theorem StdAt.free5 {w : World} {g : Nat} {x : Std} (h : StdAt w g x) (i : Nat) : w.frozen? ⟨g, i, none⟩ = false := Whole.free h i
/-- a stand written into a block -/
def putStd (w : World) (g : Nat) (y : Std) : World := ((((w.setCell ⟨g, 0, none⟩ (.string ⟨y.id.toArray⟩)).setCell ⟨g, 1, none⟩ (.int .i64 y.tr)).setCell ⟨g, 2, none⟩ (.int .i64 y.he)).setCell ⟨g, 3, none⟩ (.int .i64 y.co)).setCell ⟨g, 4, none⟩ (.int .i64 y.ga)
theorem StdAt.put {w : World} {g : Nat} {x : Std} (h : StdAt w g x) (y : Std) : StdAt (putStd w g y) g y := by
  have := ((((Whole.put h 0 (.string ⟨y.id.toArray⟩)).put 1 (.int .i64 y.tr)).put 2 (.int .i64 y.he)).put 3 (.int .i64 y.co)).put 4 (.int .i64 y.ga)
  unfold StdAt putStd
  simpa using this
theorem putStd_only (w : World) (g : Nat) (y : Std) : w.grownBy (putStd w g y) (some g) :=
  only_setCell (p := ⟨g, 4, none⟩) (only_setCell (p := ⟨g, 3, none⟩) (only_setCell (p := ⟨g, 2, none⟩) (only_setCell (p := ⟨g, 1, none⟩) (only_setCell (p := ⟨g, 0, none⟩) (World.grownBy.refl w (some g)) rfl _) rfl _) rfl _) rfl _) rfl _
theorem StdAt.far {w : World} {g h : Nat} {x y : Std} (k : StdAt w g x) (hn : g ≠ h) : StdAt (putStd w h y) g x := Whole.far k (putStd_only w h y) hn
theorem below_put {w0 w : World} {g : Nat} (h : Below w0.heap.size w0 w) (hg : w0.heap.size ≤ g) (y : Std) : Below w0.heap.size w0 (putStd w g y) := below_only h (putStd_only w g y) hg h.size
/-- the zero stand's cells -/
theorem zs_cells : (#[.string ⟨Fo.zS.id.toArray⟩, .int .i64 Fo.zS.tr, .int .i64 Fo.zS.he, .int .i64 Fo.zS.co, .int .i64 Fo.zS.ga] : Array Value) = #[.string ⟨#[]⟩, .int .i64 0, .int .i64 0, .int .i64 0, .int .i64 0] := rfl
/-- the world with a stand and the zero stand in new blocks -/
def boxSZ (w : World) (x : Std) (t : TypeId) : World := (boxStd w x t).alloc (.cells #[.string ⟨#[]⟩, .int .i64 0, .int .i64 0, .int .i64 0, .int .i64 0] t)
theorem boxSZ_below (w : World) (x : Std) (t : TypeId) : Below w.heap.size w (boxSZ w x t) := (boxStd_below w x t).alloc (by rw [boxStd_size]; omega) _
theorem boxSZ_size (w : World) (x : Std) (t : TypeId) : (boxSZ w x t).heap.size = w.heap.size + 2 := by unfold boxSZ; simp [boxStd_size]
theorem boxSZ_two (w : World) (x : Std) : StdAt (boxSZ w x 34) w.heap.size x ∧ StdAt (boxSZ w x 34) (w.heap.size + 1) Fo.zS := by
  refine ⟨Whole.alloc (StdAt.box w x) _, ?_⟩
  have := Whole.new (boxStd w x 34) 34 #[.string ⟨#[]⟩, .int .i64 0, .int .i64 0, .int .i64 0, .int .i64 0]
  rw [boxStd_size] at this
  exact this
theorem ret_sc {x y : Std} {c d : Int} (h : x = y) (h' : c = d) : Ending.returned (.tuple #[.agg #[.string ⟨x.id.toArray⟩, .int .i64 x.tr, .int .i64 x.he, .int .i64 x.co, .int .i64 x.ga], .int .i64 c]) = .returned (.tuple #[.agg #[.string ⟨y.id.toArray⟩, .int .i64 y.tr, .int .i64 y.he, .int .i64 y.co, .int .i64 y.ga], .int .i64 d]) := by rw [h, h']
set_option maxHeartbeats 3200000 in
theorem specGrowStand_any (x : Std) (y : Int) (w : World) (hx : x.id.length ≤ 1048576) :
    Calls Try.prog 32 #[.agg #[.string ⟨x.id.toArray⟩, .int .i64 x.tr, .int .i64 x.he, .int .i64 x.co, .int .i64 x.ga], .int .i64 y] w fun e w' => e = .returned (.tuple #[.agg #[.string ⟨(Fo.grS x y).id.toArray⟩, .int .i64 (Fo.grS x y).tr, .int .i64 (Fo.grS x y).he, .int .i64 (Fo.grS x y).co, .int .i64 (Fo.grS x y).ga], .int .i64 (Fo.grC x y)]) ∧ Below w.heap.size w w' := by
  have O := Lib.hid (l10One_any x w.heap.size 0 (boxSZ w x 34) (boxSZ_two w x).1.cells hx)
  have I := Lib.hid (fun W => l00In_any y 0 200 W)
  have B := Lib.hid (boxSZ_below w x 34)
  have T := Lib.hid (boxSZ_two w x)
  unfold Fo.grS Fo.grC
  unfold boxSZ boxStd at O B T
  cases hq : Fo.ok1 x with
  | false =>
    rw [hq] at O
    rw [Fo.rs_f, Cd.cd_f]
    clear hq hx
    go_enter Try.func32, Try.ntmps32
    go_wp2_with fail
    refine O.out.mono ?_
    rintro e w' ⟨rfl, rfl⟩
    go_wp2_with fail
    exact bodyPost_ret (v := .tuple #[.agg #[.string ⟨#[]⟩, .int .i64 0, .int .i64 0, .int .i64 0, .int .i64 0], .int .i64 1]) (by simp [results, Try.results32, go_sem]) rfl ⟨rfl, B.out⟩
  | true =>
    rw [hq] at O
    have hf := Lib.hid (Fo.ok1_fits hq)
    clear hq hx
    cases hs : Ar.inB 0 y 200 with
    | false =>
      rw [hs] at I
      rw [Fo.rs_tf, Cd.cd_tf]
      clear hs
      go_enter Try.func32, Try.ntmps32
      go_wp2_with fail
      refine O.out.mono ?_
      rintro e w' ⟨rfl, rfl⟩
      go_wp2_with fail
      refine (I.out _).mono ?_
      rintro e w' ⟨rfl, rfl⟩
      go_wp2_with fail
      exact bodyPost_ret (v := .tuple #[.agg #[.string ⟨#[]⟩, .int .i64 0, .int .i64 0, .int .i64 0, .int .i64 0], .int .i64 2]) (by simp [results, Try.results32, go_sem]) rfl ⟨rfl, B.out⟩
    | true =>
      obtain ⟨y1, y2⟩ := inB_of hs
      rw [hs] at I
      rw [Fo.rs_t, Cd.cd_t]
      clear hs
      obtain ⟨n, rfl⟩ : ∃ n : Nat, y = n := ⟨y.toNat, by omega⟩
      have en : ((n : Int)).toNat = n := rfl
      rw [en]
      clear en y1
      go_enter Try.func32, Try.ntmps32
      go_wp2_with fail
      refine O.out.mono ?_
      rintro e w' ⟨rfl, rfl⟩
      go_wp2_with fail
      refine (I.out _).mono ?_
      rintro e w' ⟨rfl, rfl⟩
      go_wp2_with fail
      go_loopw [6] (fun i wr => ∃ k : Nat, k ≤ n ∧ i = .int .i64 k ∧ Hid (StdAt wr w.heap.size (Fo.ys k x)) ∧ Hid (StdAt wr (w.heap.size + 1) Fo.zS) ∧ Hid (Below w.heap.size w wr)) (fun i _ => n - (intOf i).toNat)
      case atStart => exact ⟨0, Nat.zero_le _, rfl, Lib.hid T.out.1, Lib.hid T.out.2, B⟩
      case round =>
        obtain ⟨k, hk, rfl, hT, hZ, hb⟩ := hrel
        by_cases hlt : k < n
        · have G := Lib.hid (fun W => l10Year_any (Fo.ys k x) W (Fo.ys_fits hf.out k))
          have e : Fo.yr (Fo.ys k x) = Fo.ys (k + 1) x := rfl
          rw [e] at G
          obtain ⟨c0, c1, c2, c3, c4⟩ := hT.out.five
          clear e
          obtain ⟨z, ez⟩ : ∃ z, Fo.ys (k + 1) x = z := ⟨_, rfl⟩
          rw [ez] at G
          have EZ := Lib.hid ez
          clear ez
          generalize Fo.ys k x = u at *
          go_wp2_with fail
          refine (G.out _).mono ?_
          rintro e w2 ⟨rfl, b2⟩
          have T2 := Lib.hid (hT.out.all b2)
          have Z2 := Lib.hid (hZ.out.all b2)
          have B2 := Lib.hid (bt hb.out b2)
          obtain ⟨d0, d1, d2, d3, d4⟩ := T2.out.five
          have f0 := T2.out.free5 0; have f1 := T2.out.free5 1; have f2 := T2.out.free5 2; have f3 := T2.out.free5 3; have f4 := T2.out.free5 4
          have T3 := Lib.hid (T2.out.put z)
          have Z3 := Lib.hid (Z2.out.far (h := w.heap.size) (y := z) (by omega))
          have B3 := Lib.hid (below_put B2.out (Nat.le_refl _) z)
          clear b2 c0 c1 c2 c3 c4 hT hZ hb T2 Z2 B2 G
          go_wp2_with fail
          exact ⟨⟨k + 1, by omega, by go_num, Lib.hid (by rw [EZ.out]; exact T3.out), Z3, B3⟩, by simp only [intOf]; omega⟩
        · have hkn : k = n := by omega
          subst hkn
          obtain ⟨c0, c1, c2, c3, c4⟩ := hT.out.five
          obtain ⟨e0, e1, e2, e3, e4⟩ := hZ.out.five
          have f0 := hZ.out.free5 0; have f1 := hZ.out.free5 1; have f2 := hZ.out.free5 2; have f3 := hZ.out.free5 3; have f4 := hZ.out.free5 4
          have T3 := Lib.hid (hZ.out.put (Fo.ys k x))
          have HB := Lib.hid (below_put hb.out (show w.heap.size ≤ w.heap.size + 1 by omega) (Fo.ys k x))
          clear hT hZ hb
          obtain ⟨z, ez⟩ : ∃ z, Fo.ys k x = z := ⟨_, rfl⟩
          rw [ez] at c0 c1 c2 c3 c4 T3 HB
          have EZ := Lib.hid ez
          clear ez
          go_wp2_with fail
          change bodyPost _ _ _ _ _ (putStd wr (w.heap.size + 1) z)
          generalize putStd wr (w.heap.size + 1) z = W2 at *
          obtain ⟨d0, d1, d2, d3, d4⟩ := T3.out.five
          exact bodyPost_ret (v := .tuple #[.agg #[.string ⟨z.id.toArray⟩, .int .i64 z.tr, .int .i64 z.he, .int .i64 z.co, .int .i64 z.ga], .int .i64 0]) (by simp [results, Try.results32, go_sem, d0, d1, d2, d3, d4]) rfl ⟨by rw [EZ.out], HB.out⟩
theorem boxSZ_kept {w W : World} {x : Std} (h : Below (boxSZ w x 34).heap.size (boxSZ w x 34) W) : StdAt W w.heap.size x ∧ StdAt W (w.heap.size + 1) Fo.zS :=
  ⟨(boxSZ_two w x).1.all h, (boxSZ_two w x).2.all h⟩
set_option maxHeartbeats 3200000 in
theorem implGrowStand_any (x : Std) (y : Int) (w : World) (hx : x.id.length ≤ 1048576) :
    Calls Try.prog 33 #[.agg #[.string ⟨x.id.toArray⟩, .int .i64 x.tr, .int .i64 x.he, .int .i64 x.co, .int .i64 x.ga], .int .i64 y] w fun e w' => e = .returned (.tuple #[.agg #[.string ⟨(Fo.grS x y).id.toArray⟩, .int .i64 (Fo.grS x y).tr, .int .i64 (Fo.grS x y).he, .int .i64 (Fo.grS x y).co, .int .i64 (Fo.grS x y).ga], .int .i64 (Fo.grC x y)]) ∧ Below w.heap.size w w' := by
  have C := Lib.hid (fun W => standCode_any x (Ar.inB 0 y 200) W hx)
  have I := Lib.hid (fun W => within_any y 0 200 W)
  have B := Lib.hid (boxSZ_below w x 34)
  have K := Lib.hid (fun W (h : Below (boxSZ w x 34).heap.size (boxSZ w x 34) W) => boxSZ_kept h)
  have F : Hid (Fo.ok1 x = true → Fo.Fits x) := Lib.hid Fo.ok1_fits
  have FY : Hid (Ar.inB 0 y 200 = true → 0 ≤ y ∧ y ≤ 200) := Lib.hid (fun h => inB_of h)
  unfold Fo.grS Fo.grC
  unfold boxSZ boxStd at B K
  clear hx
  by_cases hg : Cd.cd (Fo.ok1 x) (Ar.inB 0 y 200) 0 = 0
  · obtain ⟨hq, hs⟩ : Fo.ok1 x = true ∧ Ar.inB 0 y 200 = true := by
      cases h1 : Fo.ok1 x <;> cases h2 : Ar.inB 0 y 200 <;> rw [h1, h2] at hg <;> first | exact ⟨rfl, rfl⟩ | (exfalso; revert hg; decide)
    obtain ⟨y1, y2⟩ := FY.out hs
    have hf := Lib.hid (F.out hq)
    rw [hq, hs] at C
    rw [hs] at I
    rw [hq, hs, Fo.rs_t, Cd.cd_t]
    simp only [Cd.cd_t] at C
    clear hg hq hs F FY
    obtain ⟨n, rfl⟩ : ∃ n : Nat, y = n := ⟨y.toNat, by omega⟩
    have en : ((n : Int)).toNat = n := rfl
    rw [en]
    clear en y1
    go_enter Try.func33, Try.ntmps33
    go_wp2_with fail
    go_region_held3 (fun w' => w'.cell? ⟨w.heap.size, 0, none⟩ = some (.string ⟨x.id.toArray⟩) ∧ w'.cell? ⟨w.heap.size, 1, none⟩ = some (.int .i64 x.tr) ∧ w'.cell? ⟨w.heap.size, 2, none⟩ = some (.int .i64 x.he) ∧ w'.cell? ⟨w.heap.size, 3, none⟩ = some (.int .i64 x.co) ∧ w'.cell? ⟨w.heap.size, 4, none⟩ = some (.int .i64 x.ga)) (go_keep)
      (first
        | (go_at_call 67; refine (I.out _).mono ?_; rintro e wA ⟨rfl, rfl⟩)
        | (go_at_call 53; refine (C.out _).mono ?_; rintro e wB ⟨rfl, bB⟩; have bB0 := bt (below_drewW _ 1) bB; obtain ⟨z0, z1, z2, z3, z4⟩ := (K.out wB bB0).1.five))
    all_goals (
      have KK := Lib.hid (K.out _ bB0)
      have BB := Lib.hid (bt B.out bB0)
      clear bB bB0 z0 z1 z2 z3 z4
      go_wp2_with fail
      go_loopw [16] (fun i wr => ∃ k : Nat, k ≤ n ∧ i = .int .i64 k ∧ Hid (StdAt wr w.heap.size (Fo.ys k x)) ∧ Hid (StdAt wr (w.heap.size + 1) Fo.zS) ∧ Hid (Below w.heap.size w wr)) (fun i _ => n - (intOf i).toNat)
      case atStart => exact ⟨0, Nat.zero_le _, rfl, Lib.hid KK.out.1, Lib.hid KK.out.2, BB⟩
      case round =>
        obtain ⟨k, hk, rfl, hT, hZ, hb⟩ := hrel
        by_cases hlt : k < n
        · have G := Lib.hid (fun W => grown_any (Fo.ys k x) W (Fo.ys_fits hf.out k))
          have e : Fo.yr (Fo.ys k x) = Fo.ys (k + 1) x := rfl
          rw [e] at G
          obtain ⟨c0, c1, c2, c3, c4⟩ := hT.out.five
          clear e
          obtain ⟨z, ez⟩ : ∃ z, Fo.ys (k + 1) x = z := ⟨_, rfl⟩
          rw [ez] at G
          have EZ := Lib.hid ez
          clear ez
          generalize Fo.ys k x = u at *
          go_wp2_with fail
          refine (G.out _).mono ?_
          rintro e w2 ⟨rfl, b2⟩
          have T2 := Lib.hid (hT.out.all b2)
          have Z2 := Lib.hid (hZ.out.all b2)
          have B2 := Lib.hid (bt hb.out b2)
          obtain ⟨d0, d1, d2, d3, d4⟩ := T2.out.five
          have f0 := T2.out.free5 0; have f1 := T2.out.free5 1; have f2 := T2.out.free5 2; have f3 := T2.out.free5 3; have f4 := T2.out.free5 4
          have T3 := Lib.hid (T2.out.put z)
          have Z3 := Lib.hid (Z2.out.far (h := w.heap.size) (y := z) (by omega))
          have B3 := Lib.hid (below_put B2.out (Nat.le_refl _) z)
          clear b2 c0 c1 c2 c3 c4 hT hZ hb T2 Z2 B2 G
          go_wp2_with fail
          exact ⟨⟨k + 1, by omega, by go_num, Lib.hid (by rw [EZ.out]; exact T3.out), Z3, B3⟩, by simp only [intOf]; omega⟩
        · have hkn : k = n := by omega
          subst hkn
          obtain ⟨c0, c1, c2, c3, c4⟩ := hT.out.five
          obtain ⟨e0, e1, e2, e3, e4⟩ := hZ.out.five
          have f0 := hZ.out.free5 0; have f1 := hZ.out.free5 1; have f2 := hZ.out.free5 2; have f3 := hZ.out.free5 3; have f4 := hZ.out.free5 4
          have T3 := Lib.hid (hZ.out.put (Fo.ys k x))
          have HB := Lib.hid (below_put hb.out (show w.heap.size ≤ w.heap.size + 1 by omega) (Fo.ys k x))
          clear hT hZ hb
          obtain ⟨z, ez⟩ : ∃ z, Fo.ys k x = z := ⟨_, rfl⟩
          rw [ez] at c0 c1 c2 c3 c4 T3 HB
          have EZ := Lib.hid ez
          clear ez
          go_wp2_with fail
          change bodyPost _ _ _ _ _ (putStd wr (w.heap.size + 1) z)
          generalize putStd wr (w.heap.size + 1) z = W2 at *
          obtain ⟨d0, d1, d2, d3, d4⟩ := T3.out.five
          exact bodyPost_ret (v := .tuple #[.agg #[.string ⟨z.id.toArray⟩, .int .i64 z.tr, .int .i64 z.he, .int .i64 z.co, .int .i64 z.ga], .int .i64 0]) (by simp [results, Try.results33, go_sem, d0, d1, d2, d3, d4]) rfl ⟨by rw [EZ.out], HB.out⟩)
  · have hz : Hid (Fo.rs (Fo.ok1 x) (Ar.inB 0 y 200) (Fo.ys y.toNat x) = Fo.zS) := Lib.hid (by
      cases h1 : Fo.ok1 x <;> cases h2 : Ar.inB 0 y 200 <;> rw [h1, h2] at hg <;> first | rfl | exact absurd rfl hg)
    rw [hz.out]
    generalize Ar.inB 0 y 200 = t at *
    generalize Cd.cd (Fo.ok1 x) t 0 = c at *
    have hc : (c != 0) = true := by simpa using hg
    clear hg hz F FY
    go_enter Try.func33, Try.ntmps33
    go_wp2_with fail
    go_region_held3 (fun w' => w'.cell? ⟨w.heap.size, 0, none⟩ = some (.string ⟨x.id.toArray⟩) ∧ w'.cell? ⟨w.heap.size, 1, none⟩ = some (.int .i64 x.tr) ∧ w'.cell? ⟨w.heap.size, 2, none⟩ = some (.int .i64 x.he) ∧ w'.cell? ⟨w.heap.size, 3, none⟩ = some (.int .i64 x.co) ∧ w'.cell? ⟨w.heap.size, 4, none⟩ = some (.int .i64 x.ga)) (go_keep)
      (first
        | (go_at_call 67; refine (I.out _).mono ?_; rintro e wA ⟨rfl, rfl⟩)
        | (go_at_call 53; refine (C.out _).mono ?_; rintro e wB ⟨rfl, bB⟩; have bB0 := bt (below_drewW _ 1) bB; obtain ⟨z0, z1, z2, z3, z4⟩ := (K.out wB bB0).1.five))
    all_goals (
      have KK := Lib.hid (K.out _ bB0)
      have BB := Lib.hid (bt B.out bB0)
      obtain ⟨e0, e1, e2, e3, e4⟩ := KK.out.2.five
      have f0 := KK.out.2.free5 0; have f1 := KK.out.2.free5 1; have f2 := KK.out.2.free5 2; have f3 := KK.out.2.free5 3; have f4 := KK.out.2.free5 4
      have T3 := Lib.hid (KK.out.2.put Fo.zS)
      have HB := Lib.hid (below_put BB.out (show w.heap.size ≤ w.heap.size + 1 by omega) Fo.zS)
      clear bB bB0 z0 z1 z2 z3 z4
      go_wp2_with fail
      change bodyPost _ _ _ _ _ (putStd wB (w.heap.size + 1) Fo.zS)
      generalize putStd wB (w.heap.size + 1) Fo.zS = W2 at *
      obtain ⟨d0, d1, d2, d3, d4⟩ := T3.out.five
      exact bodyPost_ret (v := .tuple #[.agg #[.string ⟨#[]⟩, .int .i64 0, .int .i64 0, .int .i64 0, .int .i64 0], .int .i64 c]) (by simp [results, Try.results33, go_sem, d0, d1, d2, d3, d4, Fo.zS]) rfl ⟨rfl, HB.out⟩)
set_option maxHeartbeats 3200000 in
theorem specFellTrees_any (x : Std) (y : Int) (w : World) (hx : x.id.length ≤ 1048576) :
    Calls Try.prog 37 #[.agg #[.string ⟨x.id.toArray⟩, .int .i64 x.tr, .int .i64 x.he, .int .i64 x.co, .int .i64 x.ga], .int .i64 y] w fun e w' => e = .returned (.tuple #[.agg #[.string ⟨(Fo.ftS x y).id.toArray⟩, .int .i64 (Fo.ftS x y).tr, .int .i64 (Fo.ftS x y).he, .int .i64 (Fo.ftS x y).co, .int .i64 (Fo.ftS x y).ga], .int .i64 (Fo.ftC x y)]) ∧ Below w.heap.size w w' := by
  have O := Lib.hid (l10One_any x w.heap.size 0 (boxSZ w x 34) (boxSZ_two w x).1.cells hx)
  have I := Lib.hid (fun W => l00In_any y 0 2000 W)
  have B := Lib.hid (boxSZ_below w x 34)
  have T := Lib.hid (boxSZ_two w x)
  unfold Fo.ftS Fo.ftC
  cases hq : Fo.ok1 x with
  | false =>
    unfold boxSZ boxStd at O B T
    rw [hq] at O
    rw [Fo.rs_f, Cd.cd_f]
    clear hq hx
    go_enter Try.func37, Try.ntmps37
    go_wp2_with fail
    refine O.out.mono ?_
    rintro e w' ⟨rfl, rfl⟩
    go_wp2_with fail
    exact bodyPost_ret (v := .tuple #[.agg #[.string ⟨#[]⟩, .int .i64 0, .int .i64 0, .int .i64 0, .int .i64 0], .int .i64 1]) (by simp [results, Try.results37, go_sem]) rfl ⟨rfl, B.out⟩
  | true =>
    rw [hq] at O
    have hf := Lib.hid (Fo.ok1_fits hq)
    clear hq hx
    cases hs : Ar.inB 0 y 2000 with
    | false =>
      unfold boxSZ boxStd at O B T
      rw [hs] at I
      rw [Fo.rs_tf, Cd.cd_tf]
      clear hs
      go_enter Try.func37, Try.ntmps37
      go_wp2_with fail
      refine O.out.mono ?_
      rintro e w' ⟨rfl, rfl⟩
      go_wp2_with fail
      refine (I.out _).mono ?_
      rintro e w' ⟨rfl, rfl⟩
      go_wp2_with fail
      exact bodyPost_ret (v := .tuple #[.agg #[.string ⟨#[]⟩, .int .i64 0, .int .i64 0, .int .i64 0, .int .i64 0], .int .i64 2]) (by simp [results, Try.results37, go_sem]) rfl ⟨rfl, B.out⟩
    | true =>
      obtain ⟨y1, y2⟩ := inB_of hs
      rw [hs] at I
      rw [Fo.rs_t, Cd.cd_t]
      clear hs
      by_cases ht : x.tr < y
      · have e1 : Hid ((if x.tr < y then Fo.zS else Fo.fe x y) = Fo.zS) := Lib.hid (if_pos ht)
        have e2 : Hid ((if x.tr < y then (6 : Int) else 0) = 6) := Lib.hid (if_pos ht)
        rw [e1.out, e2.out]
        unfold boxSZ boxStd at O B T
        clear e1 e2 T
        go_enter Try.func37, Try.ntmps37
        go_wp2_with fail
        refine O.out.mono ?_
        rintro e w' ⟨rfl, rfl⟩
        go_wp2_with fail
        refine (I.out _).mono ?_
        rintro e w' ⟨rfl, rfl⟩
        go_wp2_with fail
        exact bodyPost_ret (v := .tuple #[.agg #[.string ⟨#[]⟩, .int .i64 0, .int .i64 0, .int .i64 0, .int .i64 0], .int .i64 6]) (by simp [results, Try.results37, go_sem]) rfl ⟨rfl, B.out⟩
      · have e1 : Hid ((if x.tr < y then Fo.zS else Fo.fe x y) = Fo.fe x y) := Lib.hid (if_neg ht)
        have e2 : Hid ((if x.tr < y then (6 : Int) else 0) = 0) := Lib.hid (if_neg ht)
        rw [e1.out, e2.out]
        have G := Lib.hid (fun W => l10Fell_any x y W hf.out y1 (by omega))
        have Z1 : Hid (∀ w2, Below (boxSZ w x 34).heap.size (boxSZ w x 34) w2 → StdAt w2 (w.heap.size + 1) Fo.zS ∧ Below w.heap.size w w2) := Lib.hid (fun w2 b2 => ⟨T.out.2.all b2, bt B.out b2⟩)
        unfold boxSZ boxStd at O Z1
        clear e1 e2 T B
        generalize Fo.fe x y = z at *
        go_enter Try.func37, Try.ntmps37
        go_wp2_with fail
        refine O.out.mono ?_
        rintro e w' ⟨rfl, rfl⟩
        go_wp2_with fail
        refine (I.out _).mono ?_
        rintro e w' ⟨rfl, rfl⟩
        go_wp2_with fail
        refine (G.out _).mono ?_
        rintro e w2 ⟨rfl, b2⟩
        obtain ⟨Z2, B2⟩ := Z1.out w2 b2
        obtain ⟨e0, e1, e2, e3, e4⟩ := Z2.five
        have f0 := Z2.free5 0; have f1 := Z2.free5 1; have f2 := Z2.free5 2; have f3 := Z2.free5 3; have f4 := Z2.free5 4
        have T3 := Lib.hid (Z2.put z)
        have HB := Lib.hid (below_put B2 (show w.heap.size ≤ w.heap.size + 1 by omega) z)
        clear b2 Z2 B2 Z1 G
        go_wp2_with fail
        change bodyPost _ _ _ _ _ (putStd w2 (w.heap.size + 1) z)
        generalize putStd w2 (w.heap.size + 1) z = W2 at *
        obtain ⟨d0, d1, d2, d3, d4⟩ := T3.out.five
        exact bodyPost_ret (v := .tuple #[.agg #[.string ⟨z.id.toArray⟩, .int .i64 z.tr, .int .i64 z.he, .int .i64 z.co, .int .i64 z.ga], .int .i64 0]) (by simp [results, Try.results37, go_sem, d0, d1, d2, d3, d4]) rfl ⟨rfl, HB.out⟩
set_option maxHeartbeats 3200000 in
theorem implFellTrees_any (x : Std) (y : Int) (w : World) (hx : x.id.length ≤ 1048576) :
    Calls Try.prog 38 #[.agg #[.string ⟨x.id.toArray⟩, .int .i64 x.tr, .int .i64 x.he, .int .i64 x.co, .int .i64 x.ga], .int .i64 y] w fun e w' => e = .returned (.tuple #[.agg #[.string ⟨(Fo.ftS x y).id.toArray⟩, .int .i64 (Fo.ftS x y).tr, .int .i64 (Fo.ftS x y).he, .int .i64 (Fo.ftS x y).co, .int .i64 (Fo.ftS x y).ga], .int .i64 (Fo.ftC x y)]) ∧ Below w.heap.size w w' := by
  have C := Lib.hid (fun W => standCode_any x (Ar.inB 0 y 2000) W hx)
  have I := Lib.hid (fun W => within_any y 0 2000 W)
  have B := Lib.hid (boxSZ_below w x 34)
  have K := Lib.hid (fun W (h : Below (boxSZ w x 34).heap.size (boxSZ w x 34) W) => boxSZ_kept h)
  have F : Hid (Fo.ok1 x = true → Fo.Fits x) := Lib.hid Fo.ok1_fits
  have FY : Hid (Ar.inB 0 y 2000 = true → 0 ≤ y ∧ y ≤ 2000) := Lib.hid (fun h => inB_of h)
  unfold Fo.ftS Fo.ftC
  unfold boxSZ boxStd at B K
  clear hx
  by_cases hg : Cd.cd (Fo.ok1 x) (Ar.inB 0 y 2000) 0 = 0
  · obtain ⟨hq, hs⟩ : Fo.ok1 x = true ∧ Ar.inB 0 y 2000 = true := by
      cases h1 : Fo.ok1 x <;> cases h2 : Ar.inB 0 y 2000 <;> rw [h1, h2] at hg <;> first | exact ⟨rfl, rfl⟩ | (exfalso; revert hg; decide)
    obtain ⟨y1, y2⟩ := FY.out hs
    have hf := Lib.hid (F.out hq)
    rw [hq, hs] at C
    rw [hs] at I
    rw [hq, hs, Fo.rs_t, Cd.cd_t]
    simp only [Cd.cd_t] at C
    clear hg hq hs F FY
    by_cases ht : x.tr < y
    · have e1 : Hid ((if x.tr < y then Fo.zS else Fo.fe x y) = Fo.zS) := Lib.hid (if_pos ht)
      have e2 : Hid ((if x.tr < y then (6 : Int) else 0) = 6) := Lib.hid (if_pos ht)
      rw [e1.out, e2.out]
      clear e1 e2
      go_enter Try.func38, Try.ntmps38
      go_wp2_with fail
      go_region_held3 (fun w' => w'.cell? ⟨w.heap.size, 0, none⟩ = some (.string ⟨x.id.toArray⟩) ∧ w'.cell? ⟨w.heap.size, 1, none⟩ = some (.int .i64 x.tr) ∧ w'.cell? ⟨w.heap.size, 2, none⟩ = some (.int .i64 x.he) ∧ w'.cell? ⟨w.heap.size, 3, none⟩ = some (.int .i64 x.co) ∧ w'.cell? ⟨w.heap.size, 4, none⟩ = some (.int .i64 x.ga)) (go_keep)
      (first
        | (go_at_call 67; refine (I.out _).mono ?_; rintro e wA ⟨rfl, rfl⟩)
        | (go_at_call 53; refine (C.out _).mono ?_; rintro e wB ⟨rfl, bB⟩; have bB0 := bt (below_drewW _ 1) bB; obtain ⟨z0, z1, z2, z3, z4⟩ := (K.out wB bB0).1.five))
      all_goals (
        have KK := Lib.hid (K.out _ bB0)
        have BB := Lib.hid (bt B.out bB0)
        obtain ⟨e0, e1, e2, e3, e4⟩ := KK.out.2.five
        have f0 := KK.out.2.free5 0; have f1 := KK.out.2.free5 1; have f2 := KK.out.2.free5 2; have f3 := KK.out.2.free5 3; have f4 := KK.out.2.free5 4
        have T3 := Lib.hid (KK.out.2.put Fo.zS)
        have HB := Lib.hid (below_put BB.out (show w.heap.size ≤ w.heap.size + 1 by omega) Fo.zS)
        clear bB bB0
        go_wp2_with fail
        change bodyPost _ _ _ _ _ (putStd wB (w.heap.size + 1) Fo.zS)
        generalize putStd wB (w.heap.size + 1) Fo.zS = W2 at *
        obtain ⟨d0, d1, d2, d3, d4⟩ := T3.out.five
        exact bodyPost_ret (v := .tuple #[.agg #[.string ⟨#[]⟩, .int .i64 0, .int .i64 0, .int .i64 0, .int .i64 0], .int .i64 6]) (by simp [results, Try.results38, go_sem, d0, d1, d2, d3, d4, Fo.zS]) rfl ⟨rfl, HB.out⟩)
    · have e1 : Hid ((if x.tr < y then Fo.zS else Fo.fe x y) = Fo.fe x y) := Lib.hid (if_neg ht)
      have e2 : Hid ((if x.tr < y then (6 : Int) else 0) = 0) := Lib.hid (if_neg ht)
      rw [e1.out, e2.out]
      have G := Lib.hid (fun W => felled_any x y W hf.out y1 (by omega))
      clear e1 e2
      generalize Fo.fe x y = z at *
      go_enter Try.func38, Try.ntmps38
      go_wp2_with fail
      go_region_held3 (fun w' => w'.cell? ⟨w.heap.size, 0, none⟩ = some (.string ⟨x.id.toArray⟩) ∧ w'.cell? ⟨w.heap.size, 1, none⟩ = some (.int .i64 x.tr) ∧ w'.cell? ⟨w.heap.size, 2, none⟩ = some (.int .i64 x.he) ∧ w'.cell? ⟨w.heap.size, 3, none⟩ = some (.int .i64 x.co) ∧ w'.cell? ⟨w.heap.size, 4, none⟩ = some (.int .i64 x.ga)) (go_keep)
      (first
        | (go_at_call 67; refine (I.out _).mono ?_; rintro e wA ⟨rfl, rfl⟩)
        | (go_at_call 53; refine (C.out _).mono ?_; rintro e wB ⟨rfl, bB⟩; have bB0 := bt (below_drewW _ 1) bB; obtain ⟨z0, z1, z2, z3, z4⟩ := (K.out wB bB0).1.five))
      all_goals (
        have KK := Lib.hid (K.out _ bB0)
        have BB := Lib.hid (bt B.out bB0)
        clear bB bB0
        go_wp2_with fail
        refine (G.out _).mono ?_
        rintro e w2 ⟨rfl, b2⟩
        have Z2 := KK.out.2.all b2
        obtain ⟨e0, e1, e2, e3, e4⟩ := Z2.five
        have f0 := Z2.free5 0; have f1 := Z2.free5 1; have f2 := Z2.free5 2; have f3 := Z2.free5 3; have f4 := Z2.free5 4
        have T3 := Lib.hid (Z2.put z)
        have HB := Lib.hid (below_put (bt BB.out b2) (show w.heap.size ≤ w.heap.size + 1 by omega) z)
        clear b2 Z2 KK BB z0 z1 z2 z3 z4
        go_wp2_with fail
        change bodyPost _ _ _ _ _ (putStd w2 (w.heap.size + 1) z)
        generalize putStd w2 (w.heap.size + 1) z = W2 at *
        obtain ⟨d0, d1, d2, d3, d4⟩ := T3.out.five
        exact bodyPost_ret (v := .tuple #[.agg #[.string ⟨z.id.toArray⟩, .int .i64 z.tr, .int .i64 z.he, .int .i64 z.co, .int .i64 z.ga], .int .i64 0]) (by simp [results, Try.results38, go_sem, d0, d1, d2, d3, d4]) rfl ⟨rfl, HB.out⟩)
  · have hz : Hid (Fo.rs (Fo.ok1 x) (Ar.inB 0 y 2000) (if x.tr < y then Fo.zS else Fo.fe x y) = Fo.zS) := Lib.hid (by
      cases h1 : Fo.ok1 x <;> cases h2 : Ar.inB 0 y 2000 <;> rw [h1, h2] at hg <;> first | rfl | exact absurd rfl hg)
    have hc2 : Hid (Cd.cd (Fo.ok1 x) (Ar.inB 0 y 2000) (if x.tr < y then 6 else 0) = Cd.cd (Fo.ok1 x) (Ar.inB 0 y 2000) 0) := Lib.hid (by
      cases h1 : Fo.ok1 x <;> cases h2 : Ar.inB 0 y 2000 <;> rw [h1, h2] at hg <;> first | rfl | exact absurd rfl hg)
    rw [hz.out, hc2.out]
    clear hz hc2
    generalize Ar.inB 0 y 2000 = t at *
    generalize Cd.cd (Fo.ok1 x) t 0 = c at *
    have hc : (c != 0) = true := by simpa using hg
    clear hg F FY
    go_enter Try.func38, Try.ntmps38
    go_wp2_with fail
    go_region_held3 (fun w' => w'.cell? ⟨w.heap.size, 0, none⟩ = some (.string ⟨x.id.toArray⟩) ∧ w'.cell? ⟨w.heap.size, 1, none⟩ = some (.int .i64 x.tr) ∧ w'.cell? ⟨w.heap.size, 2, none⟩ = some (.int .i64 x.he) ∧ w'.cell? ⟨w.heap.size, 3, none⟩ = some (.int .i64 x.co) ∧ w'.cell? ⟨w.heap.size, 4, none⟩ = some (.int .i64 x.ga)) (go_keep)
      (first
        | (go_at_call 67; refine (I.out _).mono ?_; rintro e wA ⟨rfl, rfl⟩)
        | (go_at_call 53; refine (C.out _).mono ?_; rintro e wB ⟨rfl, bB⟩; have bB0 := bt (below_drewW _ 1) bB; obtain ⟨z0, z1, z2, z3, z4⟩ := (K.out wB bB0).1.five))
    all_goals (
      have KK := Lib.hid (K.out _ bB0)
      have BB := Lib.hid (bt B.out bB0)
      obtain ⟨e0, e1, e2, e3, e4⟩ := KK.out.2.five
      have f0 := KK.out.2.free5 0; have f1 := KK.out.2.free5 1; have f2 := KK.out.2.free5 2; have f3 := KK.out.2.free5 3; have f4 := KK.out.2.free5 4
      have T3 := Lib.hid (KK.out.2.put Fo.zS)
      have HB := Lib.hid (below_put BB.out (show w.heap.size ≤ w.heap.size + 1 by omega) Fo.zS)
      clear bB bB0 z0 z1 z2 z3 z4
      go_wp2_with fail
      change bodyPost _ _ _ _ _ (putStd wB (w.heap.size + 1) Fo.zS)
      generalize putStd wB (w.heap.size + 1) Fo.zS = W2 at *
      obtain ⟨d0, d1, d2, d3, d4⟩ := T3.out.five
      exact bodyPost_ret (v := .tuple #[.agg #[.string ⟨#[]⟩, .int .i64 0, .int .i64 0, .int .i64 0, .int .i64 0], .int .i64 c]) (by simp [results, Try.results38, go_sem, d0, d1, d2, d3, d4, Fo.zS]) rfl ⟨rfl, HB.out⟩)
end Go.Proofs.Ytecobplmkdlagaa
