/-
  The worst class of tests, by the model and by the program. The condition of the program's side: impl.testRules holds what the program's text lays.
-/
import Derived.Test.YteileaeeiejonaaDoorTkV
import Derived.Test.YteileaeeiejonaaDoorTkC
import Derived.Deep.RegionHeld3
namespace Go.Proofs.YteileaeeiejonaaDoor
open Go.RowKit Go.Shelf Go.Deep
set_option linter.unusedVariables false
set_option maxRecDepth 100000

namespace Tq
def wcV (xs : List Tst) : Int := if okS xs = true ∧ 0 < xs.length then mn xs else 0
def wcC (xs : List Tst) : Int := if okS xs = true then (if 0 < xs.length then 0 else 3) else 1
theorem wc_bad {xs : List Tst} (h : okS xs = false) : wcV xs = 0 ∧ wcC xs = 1 := by unfold wcV wcC; rw [h]; simp
theorem wc_nil {xs : List Tst} (h : okS xs = true) (h0 : xs.length = 0) : wcV xs = 0 ∧ wcC xs = 3 := by unfold wcV wcC; rw [h]; simp [h0]
theorem wc_yes {xs : List Tst} (h : okS xs = true) (h0 : 0 < xs.length) : wcV xs = mn xs ∧ wcC xs = 0 := by unfold wcV wcC; rw [h]; simp [h0]
end Tq
set_option maxHeartbeats 3200000 in
theorem specWorstClass_any (w : World) (v : Value) (xs : List Tst) (hv : TeSl w v xs) (hl : xs.length ≤ 1048576) :
    Calls Tryd.prog 23 #[v] w fun e w' => e = .returned (.tuple #[.int .i64 (Tq.wcV xs), .int .i64 (Tq.wcC xs)]) ∧ Below w.heap.size w w' := by
  have C := Lib.hid (l08Ok_any w v xs hv hl)
  obtain ⟨a, cap, rfl⟩ := hv.form
  have HV := Lib.hid hv
  clear hv
  cases hq : Tq.okS xs with
  | false =>
    obtain ⟨e1, e2⟩ := Tq.wc_bad hq
    rw [e1, e2]
    rw [hq] at C
    clear hq e1 e2
    go_enter Tryd.func23, Tryd.ntmps23
    go_wp2_with fail
    refine C.out.mono ?_
    rintro e w1 ⟨rfl, b1⟩
    have B1 := Lib.hid b1
    clear b1
    go_wp2_with fail
    go_ret2
    exact ⟨rfl, B1.out⟩
  | true =>
    have HF := Lib.hid (fun k (hk : k < xs.length) => Tq.fits_at hq hk)
    rcases Nat.eq_zero_or_pos xs.length with h0 | h0
    · obtain ⟨e1, e2⟩ := Tq.wc_nil hq h0
      rw [e1, e2]
      rw [hq] at C
      have hz : ((xs.length : Int) == 0) = true := by rw [h0]; rfl
      clear hq e1 e2 h0
      go_enter Tryd.func23, Tryd.ntmps23
      go_wp2_with fail
      refine C.out.mono ?_
      rintro e w1 ⟨rfl, b1⟩
      have B1 := Lib.hid b1
      clear b1
      go_wp2_with fail
      go_ret2
      exact ⟨rfl, B1.out⟩
    · obtain ⟨e1, e2⟩ := Tq.wc_yes hq h0
      rw [e1, e2]
      rw [hq] at C
      have hz : ((xs.length : Int) == 0) = false := beq_eq_false_iff_ne.2 (by omega)
      clear hq e1 e2 h0
      go_enter Tryd.func23, Tryd.ntmps23
      go_wp2_with fail
      refine C.out.mono ?_
      rintro e w1 ⟨rfl, b1⟩
      have B1 := Lib.hid b1
      clear b1
      go_wp2_with fail
      go_loopw [4, 5] (fun m i wr => ∃ k : Nat, k ≤ xs.length ∧ m = .int .i64 (Tq.mn (xs.take k)) ∧ i = .int .i64 k ∧ Hid (Below w.heap.size w wr)) (fun _ i _ => xs.length - (intOf i).toNat)
      case atStart => exact ⟨0, Nat.zero_le _, rfl, rfl, B1⟩
      case round =>
        obtain ⟨k, hk, rfl, rfl, hb⟩ := hrel
        by_cases hlt : k < xs.length
        · obtain ⟨b, off, cap1, hn, hbl, hcc⟩ := (HV.out.below hb.out).at_ hlt
          simp only [Value.slice.injEq] at hn
          obtain ⟨rfl, -, rfl⟩ := hn
          have F := HF.out k hlt
          have CC := Lib.hid (l08Class_any xs[k] b (off + k * 5) wr (hcc k hlt) F.q1 F.q2)
          have hm := Lib.hid (Tq.mn_take hlt).symm
          clear hcc F
          generalize hm2 : Tq.mn (xs.take (k + 1)) = m2 at *
          replace hm2 := Lib.hid hm2
          generalize Tq.mn (xs.take k) = m1 at *
          generalize Tq.cls xs[k] = c at *
          go_wp2_with fail
          refine CC.out.mono ?_
          rintro e w2 ⟨rfl, b2⟩
          have B2 := Lib.hid (bt hb.out b2)
          clear b2
          go_wp2_with fail
          refine (mn_any _ _ m2 _ hm.out).mono ?_
          rintro e w3 ⟨rfl, rfl⟩
          go_wp2_with fail
          exact ⟨⟨k + 1, by omega, by rw [hm2.out], by go_num, B2⟩, by simp only [intOf]; omega⟩
        · have hkn : k = xs.length := by omega
          have hm : Hid (Tq.mn xs = Tq.mn (xs.take k)) := Lib.hid (by rw [hkn, List.take_length])
          clear hkn
          go_wp2
          go_ret2
          exact ⟨ret_ii hm.out.symm rfl, hb.out⟩
/-! ### the program -/
/-- a test written into a block -/
def setT (w : World) (g : Nat) (x : Tst) : World := ((((w.setCell ⟨g, 0, none⟩ (.int .i64 x.ki)).setCell ⟨g, 1, none⟩ (.int .i64 x.sc)).setCell ⟨g, 2, none⟩ (.int .i64 x.qu)).setCell ⟨g, 3, none⟩ (.int .i64 x.de)).setCell ⟨g, 4, none⟩ (.int .i64 x.ho)
def tcs (x : Tst) : Array Value := #[.int .i64 x.ki, .int .i64 x.sc, .int .i64 x.qu, .int .i64 x.de, .int .i64 x.ho]
theorem setT_whole {w : World} {g : Nat} {t : TypeId} {y : Tst} (h : Whole w g t (tcs y)) (x : Tst) : Whole (setT w g x) g t (tcs x) := by
  have := ((((h.put 0 (.int .i64 x.ki)).put 1 (.int .i64 x.sc)).put 2 (.int .i64 x.qu)).put 3 (.int .i64 x.de)).put 4 (.int .i64 x.ho)
  unfold setT
  simpa [tcs] using this
theorem setT_only (w : World) (g : Nat) (x : Tst) : w.grownBy (setT w g x) (some g) := by
  have h1 := only_setCell (a := w) (w := w) (g := g) (p := ⟨g, 0, none⟩) (World.grownBy.refl _ _) rfl (.int .i64 x.ki)
  have h2 := only_setCell (p := ⟨g, 1, none⟩) h1 rfl (.int .i64 x.sc)
  have h3 := only_setCell (p := ⟨g, 2, none⟩) h2 rfl (.int .i64 x.qu)
  have h4 := only_setCell (p := ⟨g, 3, none⟩) h3 rfl (.int .i64 x.de)
  exact only_setCell (p := ⟨g, 4, none⟩) h4 rfl (.int .i64 x.ho)
theorem setT_below {B : Nat} {w0 w : World} {g : Nat} (h : Below B w0 w) (hg : B ≤ g) (x : Tst) : Below B w0 (setT w g x) :=
  ((((h.setCell (p := ⟨g, 0, none⟩) hg _).setCell (p := ⟨g, 1, none⟩) hg _).setCell (p := ⟨g, 2, none⟩) hg _).setCell (p := ⟨g, 3, none⟩) hg _).setCell (p := ⟨g, 4, none⟩) hg _
theorem tcs_five {w : World} {g : Nat} {t : TypeId} {y : Tst} (h : Whole w g t (tcs y)) : (w.cell? ⟨g, 0, none⟩ = some (.int .i64 y.ki) ∧ w.cell? ⟨g, 1, none⟩ = some (.int .i64 y.sc) ∧ w.cell? ⟨g, 2, none⟩ = some (.int .i64 y.qu) ∧ w.cell? ⟨g, 3, none⟩ = some (.int .i64 y.de) ∧ w.cell? ⟨g, 4, none⟩ = some (.int .i64 y.ho)) ∧
    (w.frozen? ⟨g, 0, none⟩ = false ∧ w.frozen? ⟨g, 1, none⟩ = false ∧ w.frozen? ⟨g, 2, none⟩ = false ∧ w.frozen? ⟨g, 3, none⟩ = false ∧ w.frozen? ⟨g, 4, none⟩ = false) :=
  ⟨⟨h.at_ 0, h.at_ 1, h.at_ 2, h.at_ 3, h.at_ 4⟩, h.free 0, h.free 1, h.free 2, h.free 3, h.free 4⟩
set_option maxHeartbeats 3200000 in
theorem classCmp_any (x y : Tst) (w : World) (hx : Tq.Fits x) (hy : Tq.Fits y) (hR : RulesT w) :
    Calls Tryd.prog 58 #[.agg #[.int .i64 x.ki, .int .i64 x.sc, .int .i64 x.qu, .int .i64 x.de, .int .i64 x.ho], .agg #[.int .i64 y.ki, .int .i64 y.sc, .int .i64 y.qu, .int .i64 y.de, .int .i64 y.ho]] w fun e w' => e = .returned (.int .i64 (Tq.cmp (Tq.cls x) (Tq.cls y))) ∧ Below w.heap.size w w' := by
  have HB : Hid (Below w.heap.size w ((w.alloc (.cells (tcs x) 35)).alloc (.cells (tcs y) 35))) := Lib.hid (((Below.refl _ _).alloc (Nat.le_refl _) _).alloc (by simp) _)
  have hbx : (w.alloc (.cells (tcs x) 35)).alloc (.cells (tcs y) 35) = (w.alloc (.cells #[.int .i64 x.ki, .int .i64 x.sc, .int .i64 x.qu, .int .i64 x.de, .int .i64 x.ho] 35)).alloc (.cells #[.int .i64 y.ki, .int .i64 y.sc, .int .i64 y.qu, .int .i64 y.de, .int .i64 y.ho] 35) := rfl
  have K1 : Whole ((w.alloc (.cells (tcs x) 35)).alloc (.cells (tcs y) 35)) w.heap.size 35 (tcs x) := (Whole.new w _ _).alloc _
  have K2 : Whole ((w.alloc (.cells (tcs x) 35)).alloc (.cells (tcs y) 35)) (w.heap.size + 1) 35 (tcs y) := by
    have := Whole.new (w.alloc (.cells (tcs x) 35)) 35 (tcs y)
    rwa [show (w.alloc (.cells (tcs x) 35)).heap.size = w.heap.size + 1 by simp] at this
  generalize (w.alloc (.cells (tcs x) 35)).alloc (.cells (tcs y) 35) = W1 at *
  have K0 := Lib.hid (fun W (h : Below W1.heap.size W1 W) => (tcs_five (K1.all h)).1)
  have P0 := Lib.hid (fun W (h : Below W1.heap.size W1 W) => (tcs_five (K2.all h)).1)
  have CX := Lib.hid (fun W (h : Below W1.heap.size W1 W) => class_any x W hx ((hR.below HB.out).below h))
  have CY := Lib.hid (fun W (h : Below W1.heap.size W1 W) => class_any y W hy ((hR.below HB.out).below h))
  have CC := Lib.hid (fun W => compareI_any (Tq.cls x) (Tq.cls y) W)
  obtain ⟨x0, x1, x2, x3, x4⟩ := K0.out _ (Below.refl _ _)
  obtain ⟨y0, y1, y2, y3, y4⟩ := P0.out _ (Below.refl _ _)
  clear hR K1 K2 hx hy
  generalize Tq.cmp (Tq.cls x) (Tq.cls y) = q at *
  generalize Tq.cls x = c1 at *
  generalize Tq.cls y = c2 at *
  go_enter Tryd.func58, Tryd.ntmps58
  go_wp2_with fail
  rw [← hbx]
  clear hbx
  (go_region_held3 (fun w' => (w'.cell? ⟨w.heap.size, 0, none⟩ = some (.int .i64 x.ki) ∧ w'.cell? ⟨w.heap.size, 1, none⟩ = some (.int .i64 x.sc) ∧ w'.cell? ⟨w.heap.size, 2, none⟩ = some (.int .i64 x.qu) ∧ w'.cell? ⟨w.heap.size, 3, none⟩ = some (.int .i64 x.de) ∧ w'.cell? ⟨w.heap.size, 4, none⟩ = some (.int .i64 x.ho)) ∧ w'.cell? ⟨w.heap.size + 1, 0, none⟩ = some (.int .i64 y.ki) ∧ w'.cell? ⟨w.heap.size + 1, 1, none⟩ = some (.int .i64 y.sc) ∧ w'.cell? ⟨w.heap.size + 1, 2, none⟩ = some (.int .i64 y.qu) ∧ w'.cell? ⟨w.heap.size + 1, 3, none⟩ = some (.int .i64 y.de) ∧ w'.cell? ⟨w.heap.size + 1, 4, none⟩ = some (.int .i64 y.ho)) (go_keep)
    (first
      | (go_at_call 55; have bA1 := bA0; refine (CY.out _ bA0).mono ?_; rintro e wB ⟨rfl, bB⟩; have bB0 := bt bA0 bB; obtain ⟨k0, k1, k2, k3, k4⟩ := K0.out wB bB0; obtain ⟨l0, l1, l2, l3, l4⟩ := P0.out wB bB0)
      | (go_at_call 55; refine (CX.out _ (below_drewW _ 1)).mono ?_; rintro e wA ⟨rfl, bA⟩; have bA0 := bt (below_drewW _ 1) bA; obtain ⟨m0, m1, m2, m3, m4⟩ := K0.out wA bA0; obtain ⟨n0, n1, n2, n3, n4⟩ := P0.out wA bA0)
      | (go_at_call 51; refine (CC.out _).mono ?_; rintro e w' ⟨rfl, rfl⟩)))
  go_wp2_with fail
  go_ret
  exact ⟨rfl, bt HB.out bB0⟩
namespace Tq
theorem mn_start {xs : List Tst} (h : 0 < xs.length) : cls xs[0] = mn (xs.take 1) := by
  have h1 := mn_take (xs := xs) (k := 0) h
  have h2 := cls_bd xs[0]
  have h3 : mn (xs.take 0) = 4 := rfl
  rw [h3] at h1
  rw [show (0 : Nat) + 1 = 1 from rfl] at h1
  rw [h1]; omega
end Tq
/-- what MinFunc holds in its loop: its result's box, and the least one yet -/
structure MinT (w wr : World) (xs : List Tst) (k : Nat) (y : Tst) : Prop where
  h0 : Whole wr w.heap.size 35 (tcs ⟨0, 0, 0, 0, 0⟩)
  h1 : Whole wr (w.heap.size + 1) 35 (tcs y)
  b : Below w.heap.size w wr
  f : Tq.Fits y
  m : Tq.cls y = Tq.mn (xs.take k)
theorem MinT.all {w wr w2 : World} {xs : List Tst} {k : Nat} {y : Tst} (h : MinT w wr xs k y) (hb : Below wr.heap.size wr w2) : MinT w w2 xs k y := ⟨h.h0.all hb, h.h1.all hb, bt h.b hb, h.f, h.m⟩
theorem MinT.keep {w wr : World} {xs : List Tst} {k : Nat} {y : Tst} (h : MinT w wr xs k y) (hk : k < xs.length) (hc : ¬ Tq.cls xs[k] < Tq.cls y) : MinT w wr xs (k + 1) y := ⟨h.h0, h.h1, h.b, h.f, by rw [Tq.mn_take hk, ← h.m]; omega⟩
theorem MinT.put {w wr : World} {xs : List Tst} {k : Nat} {y : Tst} (h : MinT w wr xs k y) (hk : k < xs.length) (hF : Tq.Fits xs[k]) (hc : Tq.cls xs[k] < Tq.cls y) : MinT w (setT wr (w.heap.size + 1) xs[k]) xs (k + 1) xs[k] :=
  ⟨h.h0.far (setT_only _ _ _) (by omega), setT_whole h.h1 _, setT_below h.b (by omega) _, hF, by rw [Tq.mn_take hk, ← h.m]; omega⟩
set_option maxHeartbeats 6400000 in
theorem minTst_any (w : World) (v : Value) (xs : List Tst) (hv : TeSl w v xs) (hl : xs.length ≤ 1048576) (hn : 0 < xs.length) (hf : ∀ k (hk : k < xs.length), Tq.Fits xs[k]) (hR : RulesT w) :
    Calls Tryd.prog 57 #[v, .func (.func 58) #[] #[]] w fun e w' => ∃ y : Tst, e = .returned (.agg #[.int .i64 y.ki, .int .i64 y.sc, .int .i64 y.qu, .int .i64 y.de, .int .i64 y.ho]) ∧ Tq.Fits y ∧ Tq.cls y = Tq.mn xs ∧ Below w.heap.size w w' := by
  have eg := enters_of Tryd.func58 (by kernel_rfl) rfl
  obtain ⟨a, cap, rfl⟩ := hv.form
  have HV := Lib.hid hv
  have HF := Lib.hid hf
  have HR := Lib.hid hR
  obtain ⟨b, off, cap1, hn1, hbl, hcc⟩ := hv.at_ hn
  simp only [Value.slice.injEq] at hn1
  obtain ⟨rfl, -, rfl⟩ := hn1
  obtain ⟨c0, c1, c2, c3, c4⟩ := hcc 0 hn
  simp only [Nat.zero_mul, Nat.add_zero] at c0 c1 c2 c3 c4
  have M1 : Hid (MinT w ((w.alloc (.cells (tcs ⟨0, 0, 0, 0, 0⟩) 35)).alloc (.cells (tcs xs[0]) 35)) xs 1 xs[0]) := Lib.hid ⟨(Whole.new w _ _).alloc _, by
    have := Whole.new (w.alloc (.cells (tcs ⟨0, 0, 0, 0, 0⟩) 35)) 35 (tcs xs[0])
    rwa [show (w.alloc (.cells (tcs ⟨0, 0, 0, 0, 0⟩) 35)).heap.size = w.heap.size + 1 by simp] at this, ((Below.refl _ _).alloc (Nat.le_refl _) _).alloc (by simp) _, hf 0 hn, Tq.mn_start hn⟩
  have n1 : ¬ (xs.length : Int) < 1 := by omega
  have n2 : (0 : Int) < (xs.length : Int) := by omega
  clear hv hf hR hcc
  go_enter Tryd.func57, Tryd.ntmps57
  go_wp2_with fail
  unfold tcs at M1
  go_loopw [6] (fun i wr => ∃ (k : Nat) (y : Tst), 1 ≤ k ∧ k ≤ xs.length ∧ i = .int .i64 k ∧ Hid (MinT w wr xs k y)) (fun i _ => xs.length - (intOf i).toNat)
  case atStart => exact ⟨1, xs[0], by omega, by omega, rfl, M1⟩
  case round =>
    obtain ⟨k, y, hk1, hk, rfl, hM⟩ := hrel
    clear M1 c0 c1 c2 c3 c4
    by_cases hlt : k < xs.length
    · have hltz : (k : Int) < (xs.length : Int) := by omega
      have i0 : (0 : Int) ≤ (k : Int) := by omega
      have KA := Lib.hid (fun W (h : Below w.heap.size w W) => by
        obtain ⟨b2, off2, cap2, hn2, -, hc2⟩ := (HV.out.below h).at_ hlt
        simp only [Value.slice.injEq, Option.some.injEq, Addr.mk.injEq] at hn2
        obtain ⟨⟨rfl, rfl, -⟩, -, -⟩ := hn2
        exact (⟨(hc2 k hlt).c0, (hc2 k hlt).c1, (hc2 k hlt).c2, (hc2 k hlt).c3, (hc2 k hlt).c4⟩ : W.cell? ⟨b, off + k * 5, none⟩ = some (.int .i64 xs[k].ki) ∧ W.cell? ⟨b, off + k * 5 + 1, none⟩ = some (.int .i64 xs[k].sc) ∧ W.cell? ⟨b, off + k * 5 + 2, none⟩ = some (.int .i64 xs[k].qu) ∧ W.cell? ⟨b, off + k * 5 + 3, none⟩ = some (.int .i64 xs[k].de) ∧ W.cell? ⟨b, off + k * 5 + 4, none⟩ = some (.int .i64 xs[k].ho)))
      have KB := Lib.hid (fun W (h : Below wr.heap.size wr W) => tcs_five (hM.out.all h).h1)
      have CC := Lib.hid (fun W (h : Below wr.heap.size wr W) => classCmp_any xs[k] y W (HF.out k hlt) hM.out.f (HR.out.below (bt hM.out.b h)))
      have HM := Lib.hid (fun W (h : Below wr.heap.size wr W) => hM.out.all h)
      have HBk := Lib.hid (fun W (h : Below wr.heap.size wr W) => bt hM.out.b h)
      have hlb := Nat.lt_of_lt_of_le hbl hM.out.b.size
      obtain ⟨c0, c1, c2, c3, c4⟩ := KA.out wr hM.out.b
      obtain ⟨⟨d0, d1, d2, d3, d4⟩, -⟩ := KB.out wr (Below.refl _ _)
      have HFk := Lib.hid (HF.out k hlt)
      have hcm := Tq.cmp_neg (a := Tq.cls xs[k]) (b := Tq.cls y)
      have hcb := Tq.cmp_bd (Tq.cls xs[k]) (Tq.cls y)
      by_cases hc : Tq.cls xs[k] < Tq.cls y
      · have hq : Tq.cmp (Tq.cls xs[k]) (Tq.cls y) < 0 := hcm.2 hc
        have HC := Lib.hid hc
        clear hc hcm
        generalize Tq.cmp (Tq.cls xs[k]) (Tq.cls y) = q at *
        go_wp2_with fail
        (go_region_held3 (fun w' => (w'.cell? ⟨b, off + k * 5, none⟩ = some (.int .i64 xs[k].ki) ∧ w'.cell? ⟨b, off + k * 5 + 1, none⟩ = some (.int .i64 xs[k].sc) ∧ w'.cell? ⟨b, off + k * 5 + 2, none⟩ = some (.int .i64 xs[k].qu) ∧ w'.cell? ⟨b, off + k * 5 + 3, none⟩ = some (.int .i64 xs[k].de) ∧ w'.cell? ⟨b, off + k * 5 + 4, none⟩ = some (.int .i64 xs[k].ho)) ∧ w'.cell? ⟨w.heap.size + 1, 0, none⟩ = some (.int .i64 y.ki) ∧ w'.cell? ⟨w.heap.size + 1, 1, none⟩ = some (.int .i64 y.sc) ∧ w'.cell? ⟨w.heap.size + 1, 2, none⟩ = some (.int .i64 y.qu) ∧ w'.cell? ⟨w.heap.size + 1, 3, none⟩ = some (.int .i64 y.de) ∧ w'.cell? ⟨w.heap.size + 1, 4, none⟩ = some (.int .i64 y.ho)) (go_keep)
          (first | (go_at_call 58; refine (CC.out _ (below_drewW _ 1)).mono ?_; rintro e wA ⟨rfl, bA⟩; have bA0 := bt (below_drewW _ 1) bA; obtain ⟨z0, z1, z2, z3, z4⟩ := KA.out wA (HBk.out _ bA0); obtain ⟨⟨t0, t1, t2, t3, t4⟩, -⟩ := KB.out wA bA0)))
        have M2 := Lib.hid (HM.out _ bA0)
        have M3 := Lib.hid (M2.out.put hlt HFk.out HC.out)
        obtain ⟨k0, k1, k2, k3, k4⟩ := KA.out _ (HBk.out _ bA0)
        obtain ⟨-, f0, f1, f2, f3, f4⟩ := KB.out _ bA0
        obtain ⟨⟨l0, l1, l2, l3, l4⟩, -⟩ := KB.out _ bA0
        clear bA bA0
        go_wp2_with fail
        unfold setT at M3
        exact ⟨⟨k + 1, xs[k], by omega, by omega, by go_num, M3⟩, by simp only [intOf]; omega⟩
      · have hq : ¬ Tq.cmp (Tq.cls xs[k]) (Tq.cls y) < 0 := fun h => hc (hcm.1 h)
        have HC := Lib.hid hc
        clear hc hcm
        generalize Tq.cmp (Tq.cls xs[k]) (Tq.cls y) = q at *
        go_wp2_with fail
        (go_region_held3 (fun w' => (w'.cell? ⟨b, off + k * 5, none⟩ = some (.int .i64 xs[k].ki) ∧ w'.cell? ⟨b, off + k * 5 + 1, none⟩ = some (.int .i64 xs[k].sc) ∧ w'.cell? ⟨b, off + k * 5 + 2, none⟩ = some (.int .i64 xs[k].qu) ∧ w'.cell? ⟨b, off + k * 5 + 3, none⟩ = some (.int .i64 xs[k].de) ∧ w'.cell? ⟨b, off + k * 5 + 4, none⟩ = some (.int .i64 xs[k].ho)) ∧ w'.cell? ⟨w.heap.size + 1, 0, none⟩ = some (.int .i64 y.ki) ∧ w'.cell? ⟨w.heap.size + 1, 1, none⟩ = some (.int .i64 y.sc) ∧ w'.cell? ⟨w.heap.size + 1, 2, none⟩ = some (.int .i64 y.qu) ∧ w'.cell? ⟨w.heap.size + 1, 3, none⟩ = some (.int .i64 y.de) ∧ w'.cell? ⟨w.heap.size + 1, 4, none⟩ = some (.int .i64 y.ho)) (go_keep)
          (first | (go_at_call 58; refine (CC.out _ (below_drewW _ 1)).mono ?_; rintro e wA ⟨rfl, bA⟩; have bA0 := bt (below_drewW _ 1) bA; obtain ⟨z0, z1, z2, z3, z4⟩ := KA.out wA (HBk.out _ bA0); obtain ⟨⟨t0, t1, t2, t3, t4⟩, -⟩ := KB.out wA bA0)))
        have M2 := Lib.hid ((HM.out _ bA0).keep hlt (by have := HC.out; omega))
        clear bA bA0
        go_wp2_with fail
        exact ⟨⟨k + 1, y, by omega, by omega, by go_num, M2⟩, by simp only [intOf]; omega⟩
    · have hltz : ¬ (k : Int) < (xs.length : Int) := by omega
      have hkn : xs.take k = xs := List.take_of_length_le (by omega)
      obtain ⟨⟨d0, d1, d2, d3, d4⟩, -⟩ := tcs_five hM.out.h1
      obtain ⟨⟨e0, e1, e2, e3, e4⟩, f0, f1, f2, f3, f4⟩ := tcs_five hM.out.h0
      have W3 := Lib.hid (setT_whole hM.out.h0 y)
      have B3 := Lib.hid (setT_below hM.out.b (Nat.le_refl _) y)
      have HE := Lib.hid (show Tq.Fits y ∧ Tq.cls y = Tq.mn xs from ⟨hM.out.f, by rw [hM.out.m, hkn]⟩)
      clear hkn hM
      go_wp2_with fail
      change bodyPost _ _ _ _ _ (setT wr w.heap.size y)
      obtain ⟨⟨g0, g1, g2, g3, g4⟩, -⟩ := tcs_five W3.out
      generalize setT wr w.heap.size y = W at *
      exact bodyPost_ret (v := .agg #[.int .i64 y.ki, .int .i64 y.sc, .int .i64 y.qu, .int .i64 y.de, .int .i64 y.ho]) (by simp [results, Tryd.results57, go_sem, g0, g1, g2, g3, g4]) rfl ⟨y, rfl, HE.out.1, HE.out.2, B3.out⟩
set_option maxHeartbeats 3200000 in
theorem implWorstClass_any (w : World) (v : Value) (xs : List Tst) (hv : TeSl w v xs) (hl : xs.length ≤ 1048576) (hR : RulesT w) :
    Calls Tryd.prog 24 #[v] w fun e w' => e = .returned (.tuple #[.int .i64 (Tq.wcV xs), .int .i64 (Tq.wcC xs)]) ∧ Below w.heap.size w w' := by
  have C := Lib.hid (implValidTests_any w v xs hv hl hR)
  obtain ⟨a, cap, rfl⟩ := hv.form
  have HV := Lib.hid hv
  have HR := Lib.hid hR
  clear hv hR
  cases hq : Tq.okS xs with
  | false =>
    obtain ⟨e1, e2⟩ := Tq.wc_bad hq
    rw [e1, e2]
    rw [hq] at C
    clear hq e1 e2
    go_enter Tryd.func24, Tryd.ntmps24
    go_wp2_with fail
    refine C.out.mono ?_
    rintro e w1 ⟨rfl, b1⟩
    have B1 := Lib.hid b1
    clear b1
    go_wp2_with fail
    go_ret2
    exact ⟨rfl, B1.out⟩
  | true =>
    have HF := Lib.hid (fun k (hk : k < xs.length) => Tq.fits_at hq hk)
    rcases Nat.eq_zero_or_pos xs.length with h0 | h0
    · obtain ⟨e1, e2⟩ := Tq.wc_nil hq h0
      rw [e1, e2]
      rw [hq] at C
      have hz : ((xs.length : Int) == 0) = true := by rw [h0]; rfl
      clear hq e1 e2 h0
      go_enter Tryd.func24, Tryd.ntmps24
      go_wp2_with fail
      refine C.out.mono ?_
      rintro e w1 ⟨rfl, b1⟩
      have B1 := Lib.hid b1
      clear b1
      go_wp2_with fail
      go_ret2
      exact ⟨rfl, B1.out⟩
    · obtain ⟨e1, e2⟩ := Tq.wc_yes hq h0
      rw [e1, e2]
      rw [hq] at C
      have hz : ((xs.length : Int) == 0) = false := beq_eq_false_iff_ne.2 (by omega)
      have CM := Lib.hid (fun W (hb : Below w.heap.size w W) => minTst_any W _ xs (HV.out.below hb) hl h0 HF.out (HR.out.below hb))
      clear hq e1 e2 h0
      go_enter Tryd.func24, Tryd.ntmps24
      go_wp2_with fail
      refine C.out.mono ?_
      rintro e w1 ⟨rfl, b1⟩
      have B1 := Lib.hid b1
      clear b1
      go_wp2_with fail
      refine (CM.out _ B1.out).mono ?_
      rintro e w2 ⟨y, rfl, hF, hm, b2⟩
      have B2 := Lib.hid (bt B1.out b2)
      have BX := Lib.hid (bt B2.out (boxTst_below w2 y 35))
      have CL := Lib.hid (class_any y (boxTst w2 y 35) hF (HR.out.below BX.out))
      have HM := Lib.hid hm
      unfold boxTst at CL BX
      clear b2 hF hm
      go_wp2_with fail
      refine CL.out.mono ?_
      rintro e w3 ⟨rfl, b3⟩
      have B3 := Lib.hid (bt BX.out b3)
      clear b3
      go_wp2_with fail
      go_ret2
      exact ⟨ret_ii HM.out rfl, B3.out⟩
end Go.Proofs.YteileaeeiejonaaDoor
