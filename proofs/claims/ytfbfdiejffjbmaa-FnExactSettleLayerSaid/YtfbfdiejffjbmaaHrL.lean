/-
  SettleLayer and GradientOf of chapter 5: by the program and by the model. No condition of its own.
-/
import Derived.Test.YtfbfdiejffjbmaaHrG
import Derived.Test.YtfbfdiejffjbmaaHrE
import Derived.Test.YtfbfdiejffjbmaaHrD
import Derived.Test.YtfbfdiejffjbmaaHrS
namespace Go.Proofs.Ytfbfdiejffjbmaa
open Go.RowKit Go.Shelf
set_option linter.unusedVariables false
set_option maxRecDepth 100000

namespace La
theorem eqL_self (x : Lay) : eqL x x = true := by unfold eqL; exact beq_self_eq_true _
def inL (l : Int) : Bool := Ar.inB 0 l 32000000
def slC (x : Lay) (l : Int) : Int := if okL x then (if Ar.inB 0 l 32000000 then 0 else 2) else 1
def slL (x : Lay) (l : Int) : Lay := if okL x && Ar.inB 0 l 32000000 then stl x l else ⟨0, 0, 0, 0, 0, 0, 0⟩
variable {x : Lay} {l : Int}
theorem sl_1 (h : okL x = false) : slC x l = 1 ∧ slL x l = ⟨0, 0, 0, 0, 0, 0, 0⟩ := by unfold slC slL; simp [h]
theorem sl_2 (h : okL x = true) (h' : Ar.inB 0 l 32000000 = false) : slC x l = 2 ∧ slL x l = ⟨0, 0, 0, 0, 0, 0, 0⟩ := by unfold slC slL; simp [h, h']
theorem sl_0 (h : okL x = true) (h' : Ar.inB 0 l 32000000 = true) : slC x l = 0 ∧ slL x l = stl x l := by unfold slC slL; simp [h, h']
def gdC (xs : List Lay) (k : Int) : Int := if okP xs then (if Ar.inB 0 k (xs.length - 2) then 0 else 2) else 1
def gdV (xs : List Lay) (k : Int) : Int := if okP xs && Ar.inB 0 k (xs.length - 2) then grd (nth xs k.toNat) (nth xs (k.toNat + 1)) else 0
variable {xs : List Lay} {k : Int}
theorem gd_1 (h : okP xs = false) : gdC xs k = 1 ∧ gdV xs k = 0 := by unfold gdC gdV; simp [h]
theorem gd_2 (h : okP xs = true) (h' : Ar.inB 0 k (xs.length - 2) = false) : gdC xs k = 2 ∧ gdV xs k = 0 := by unfold gdC gdV; simp [h, h']
theorem gd_0 {k : Nat} (h : okP xs = true) (h' : Ar.inB 0 (k : Int) (xs.length - 2) = true) (h1 : k < xs.length) (h2 : k + 1 < xs.length) : gdC xs k = 0 ∧ gdV xs k = grd xs[k] xs[k + 1] := by
  unfold gdC gdV; simp [h, h', nth_eq h1, nth_eq h2]
theorem gd_in {k : Int} (h' : Ar.inB 0 k (xs.length - 2) = true) : ∃ j : Nat, k = j ∧ j + 1 < xs.length := by
  obtain ⟨h1, h2⟩ := inB_iff.1 h'
  obtain ⟨j, rfl⟩ := Int.eq_ofNat_of_zero_le h1
  exact ⟨j, rfl, by omega⟩
end La
/-- what a call that answers a layer and a code leaves -/
def RYC (w : World) (y : Lay) (c : Int) (e : Ending) (w' : World) : Prop := e = .returned (.tuple #[.agg #[.int .i64 y.fo, .int .i64 y.ic, .int .i64 y.wa, .int .i64 y.de, .int .i64 y.dg, .int .i64 y.ha, .int .i64 y.ag], .int .i64 c]) ∧ Below w.heap.size w w'
def RGC (w : World) (v c : Int) (e : Ending) (w' : World) : Prop := e = .returned (.tuple #[.int .i64 v, .int .i64 c]) ∧ Below w.heap.size w w'
set_option maxHeartbeats 1600000 in
theorem implGradientOf_any (w : World) (v : Value) (xs : List Lay) (k : Int) (ho : LAt w v xs) (hl : xs.length ≤ 1048576) :
    Calls Try.prog 59 #[v, .int .i64 k] w (RGC w (La.gdV xs k) (La.gdC xs k)) := by
  have C := Lib.hid (implValidProfile_any w v xs ho.sl hl)
  have HS := Lib.hid ho.sl
  have CW := Lib.hid (fun W => within_any k 0 (xs.length - 2) W)
  have CS := Lib.hid (fun a b W => statedCode_any a b W)
  obtain ⟨B, b, cap, rfl, ho⟩ := ho
  cases hq : La.okP xs with
  | false =>
    have hr := Lib.hid (La.gd_1 (k := k) hq)
    rw [hq] at C
    clear hq ho
    go_enter Try.func59, Try.ntmps59
    go_wp2_with fail
    refine C.out.mono ?_
    rintro e w1 ⟨rfl, b1⟩
    have B1 := Lib.hid b1
    clear b1
    go_wp2_with fail
    refine (CW.out _).mono ?_
    rintro e w2 ⟨rfl, rfl⟩
    go_wp2_with fail
    refine (CS.out _ _ _).mono ?_
    rintro e w2 ⟨rfl, rfl⟩
    rw [show stc false (Ar.inB 0 k (xs.length - 2)) = 1 from rfl]
    go_wp2_with fail
    go_ret2
    exact ⟨ret_ii hr.out.2.symm hr.out.1.symm, B1.out⟩
  | true =>
    cases hj : Ar.inB 0 k (xs.length - 2) with
    | false =>
      have hr := Lib.hid (La.gd_2 hq hj)
      rw [hq] at C
      rw [hj] at CW
      clear hq hj ho
      go_enter Try.func59, Try.ntmps59
      go_wp2_with fail
      refine C.out.mono ?_
      rintro e w1 ⟨rfl, b1⟩
      have B1 := Lib.hid b1
      clear b1
      go_wp2_with fail
      refine (CW.out _).mono ?_
      rintro e w2 ⟨rfl, rfl⟩
      go_wp2_with fail
      refine (CS.out _ _ _).mono ?_
      rintro e w2 ⟨rfl, rfl⟩
      rw [show stc true false = 2 from rfl]
      go_wp2_with fail
      go_ret2
      exact ⟨ret_ii hr.out.2.symm hr.out.1.symm, B1.out⟩
    | true =>
      obtain ⟨n, rfl, hn2⟩ := La.gd_in hj
      have hn1 : n < xs.length := by omega
      have hr := Lib.hid (La.gd_0 hq hj hn1 hn2)
      have h16 := ((La.okP_iff xs).1 hq).1
      have CG := Lib.hid (fun W => gradientTo_any xs[n] xs[n + 1] W (La.fits_at hq hn1) (La.fits_at hq hn2))
      have HL := Lib.hid (fun W (h : Below w.heap.size w W) => (ho.belowAll h).cells hn1)
      have HU := Lib.hid (fun W (h : Below w.heap.size w W) => (ho.belowAll h).cells hn2)
      rw [hq] at C
      rw [hj] at CW
      clear hq hj ho
      have e1 : ((n : Int) + 1).toNat = n + 1 := by omega
      have nw : IntKind.i64.wrap ((n : Int) + 1) = (n : Int) + 1 := IntWalk.i64_in _ (by omega)
      have p0 : (0 : Int) ≤ n := by omega
      have p1 : (n : Int) < xs.length := by omega
      have p2 : (n : Int) + 1 < xs.length := by omega
      have p3 : (0 : Int) ≤ (n : Int) + 1 := by omega
      go_enter Try.func59, Try.ntmps59
      go_wp2_with fail
      refine C.out.mono ?_
      rintro e w1 ⟨rfl, b1⟩
      have B1 := Lib.hid b1
      clear b1
      go_wp2_with fail
      refine (CW.out _).mono ?_
      rintro e w2 ⟨rfl, rfl⟩
      go_wp2_with fail
      refine (CS.out _ _ _).mono ?_
      rintro e w2 ⟨rfl, rfl⟩
      rw [show stc true true = 0 from rfl]
      obtain ⟨c0, c1, c2, c3, c4, c5, c6⟩ := HL.out _ B1.out
      obtain ⟨d0, d1, d2, d3, d4, d5, d6⟩ := HU.out _ B1.out
      go_wp2_with fail
      go_region_with (go_at_call 116; refine (CG.out _).mono ?_; rintro e w3 ⟨rfl, b3⟩)
      all_goals (
        go_wp2_with fail
        go_ret2
        exact ⟨ret_ii hr.out.2.symm hr.out.1.symm, bt B1.out (drew_below b3)⟩)
theorem ret_lay2 {x y : Lay} {c d : Int} (h : d = c ∧ y = x) : Ending.returned (.tuple #[.agg #[.int .i64 x.fo, .int .i64 x.ic, .int .i64 x.wa, .int .i64 x.de, .int .i64 x.dg, .int .i64 x.ha, .int .i64 x.ag], .int .i64 c]) = .returned (.tuple #[.agg #[.int .i64 y.fo, .int .i64 y.ic, .int .i64 y.wa, .int .i64 y.de, .int .i64 y.dg, .int .i64 y.ha, .int .i64 y.ag], .int .i64 d]) := by obtain ⟨rfl, rfl⟩ := h; rfl
set_option maxHeartbeats 1600000 in
theorem l05Gradient_any (B b cap : Nat) (w : World) (xs : List Lay) (n : Nat) (ho : LOwn B w (.slice (some ⟨b, 0, none⟩) xs.length cap) xs) (hq : La.okP xs = true) (hn1 : n < xs.length) (hn2 : n + 1 < xs.length) :
    Calls Try.prog 115 #[.slice (some ⟨b, 0, none⟩) xs.length cap, .int .i64 n] w fun e w' => e = .returned (.int .i64 (La.grd xs[n] xs[n + 1])) ∧ ∃ m, w' = w.drewN m := by
  have h16 := ((La.okP_iff xs).1 hq).1
  have FX := La.fits_at hq hn1
  have FY := La.fits_at hq hn2
  obtain ⟨t1, t2⟩ := La.thick_bd FX
  obtain ⟨s1, s2⟩ := La.thick_bd FY
  obtain ⟨v1, v2⟩ := La.way_bd FX FY
  have g1 := FX.g1; have g2 := FX.g2; have k1 := FY.g1; have k2 := FY.g2
  have HX := Lib.hid (ho.cells hn1)
  have HY := Lib.hid (ho.cells hn2)
  have CX := Lib.hid (l03Thick_any xs[n] b (n * 7) w HX.out FX)
  have CY := Lib.hid (fun W (h : LCells W b ((n + 1) * 7) xs[n + 1]) => l03Thick_any xs[n + 1] b ((n + 1) * 7) W h FY)
  have HM : Hid (max 1 ((La.thick xs[n] + La.thick xs[n + 1]) / 2) = La.way xs[n] xs[n + 1]) := Lib.hid rfl
  have HG : Hid (Ar.dr ((xs[n + 1].dg - xs[n].dg) * 1000) (La.way xs[n] xs[n + 1]) = La.grd xs[n] xs[n + 1]) := Lib.hid rfl
  have CD := Lib.hid (fun W => l01Div_any ((xs[n + 1].dg - xs[n].dg) * 1000) (La.way xs[n] xs[n + 1]) W (by omega) (by omega) (by omega) (by omega) (by omega))
  have CM := Lib.hid (fun W => l00Max_any 1 ((La.thick xs[n] + La.thick xs[n + 1]) / 2) W)
  rw [HG.out] at CD
  rw [HM.out] at CM
  clear HG HM FX FY hq ho
  have e1 : ((n : Int) + 1).toNat = n + 1 := by omega
  have nw : IntKind.i64.wrap ((n : Int) + 1) = (n : Int) + 1 := IntWalk.i64_in _ (by omega)
  have p0 : (0 : Int) ≤ n := by omega
  have p1 : (n : Int) < xs.length := by omega
  have p2 : (n : Int) + 1 < xs.length := by omega
  have p3 : (0 : Int) ≤ (n : Int) + 1 := by omega
  have nw7 : IntKind.i64.wrap (xs[n + 1].dg - xs[n].dg) = xs[n + 1].dg - xs[n].dg := IntWalk.i64_in _ (by omega)
  have nw8 : IntKind.i64.wrap ((xs[n + 1].dg - xs[n].dg) * 1000) = (xs[n + 1].dg - xs[n].dg) * 1000 := IntWalk.i64_in _ (by omega)
  generalize La.thick xs[n] = tx at *
  generalize La.thick xs[n + 1] = ty at *
  generalize La.way xs[n] xs[n + 1] = wy at *
  generalize La.grd xs[n] xs[n + 1] = gg at *
  generalize xs[n] = x at *
  generalize xs[n + 1] = y at *
  go_enter Try.func115, Try.ntmps115
  go_wp2_with fail
  refine CX.out.mono ?_
  rintro e w1 ⟨rfl, n1, rfl⟩
  go_wp2_with fail
  refine (CY.out _ (HY.out.drewN n1)).mono ?_
  rintro e w2 ⟨rfl, n2, rfl⟩
  obtain ⟨c0, c1, c2, c3, c4, c5, c6⟩ := (HX.out.drewN n1).drewN n2
  obtain ⟨d0, d1, d2, d3, d4, d5, d6⟩ := (HY.out.drewN n1).drewN n2
  have E : ∀ k, ∃ m, ((w.drewN n1).drewN n2).drewN k = w.drewN m := fun k => ⟨n1 + n2 + k, by simp [World.drewN, Nat.add_assoc]⟩
  have EE := Lib.hid E
  clear E
  generalize (w.drewN n1).drewN n2 = w2 at *
  go_wp2_with fail
  refine (CM.out _).mono ?_
  rintro e w3 ⟨rfl, rfl⟩
  go_wp2_with fail
  go_quiet ((go_at_call 124; exact Calls.quiet_of_same ((CD.out _).mono fun _ _ ⟨h, h'⟩ => ⟨h, h'.symm⟩)))
  go_wp2_with fail
  go_ret
  exact ⟨rfl, EE.out _⟩
set_option maxHeartbeats 1600000 in
theorem specGradientOf_any (w : World) (v : Value) (xs : List Lay) (k : Int) (ho : LAt w v xs) (hl : xs.length ≤ 1048576) :
    Calls Try.prog 58 #[v, .int .i64 k] w (RGC w (La.gdV xs k) (La.gdC xs k)) := by
  have C := Lib.hid (l03Ok_any w v xs ho.sl hl)
  have CW := Lib.hid (fun W => l00In_any k 0 (xs.length - 2) W)
  obtain ⟨B, b, cap, rfl, ho⟩ := ho
  cases hq : La.okP xs with
  | false =>
    have hr := Lib.hid (La.gd_1 (k := k) hq)
    rw [hq] at C
    clear hq ho
    go_enter Try.func58, Try.ntmps58
    go_wp2_with fail
    refine C.out.mono ?_
    rintro e w1 ⟨rfl, rfl⟩
    go_wp2_with fail
    go_ret2
    exact ⟨ret_ii hr.out.2.symm hr.out.1.symm, Below.refl _ _⟩
  | true =>
    cases hj : Ar.inB 0 k (xs.length - 2) with
    | false =>
      have hr := Lib.hid (La.gd_2 hq hj)
      rw [hq] at C
      rw [hj] at CW
      clear hq hj ho
      go_enter Try.func58, Try.ntmps58
      go_wp2_with fail
      refine C.out.mono ?_
      rintro e w1 ⟨rfl, rfl⟩
      go_wp2_with fail
      refine (CW.out _).mono ?_
      rintro e w2 ⟨rfl, rfl⟩
      go_wp2_with fail
      go_ret2
      exact ⟨ret_ii hr.out.2.symm hr.out.1.symm, Below.refl _ _⟩
    | true =>
      obtain ⟨n, rfl, hn2⟩ := La.gd_in hj
      have hn1 : n < xs.length := by omega
      have hr := Lib.hid (La.gd_0 hq hj hn1 hn2)
      have CG := Lib.hid (l05Gradient_any B b cap w xs n ho hq hn1 hn2)
      rw [hq] at C
      rw [hj] at CW
      clear hq hj ho
      go_enter Try.func58, Try.ntmps58
      go_wp2_with fail
      refine C.out.mono ?_
      rintro e w1 ⟨rfl, rfl⟩
      go_wp2_with fail
      refine (CW.out _).mono ?_
      rintro e w2 ⟨rfl, rfl⟩
      go_wp2_with fail
      refine CG.out.mono ?_
      rintro e w3 ⟨rfl, m, rfl⟩
      go_wp2_with fail
      go_ret2
      exact ⟨ret_ii hr.out.2.symm hr.out.1.symm, below_drewW _ _⟩
/-- a new block with no layer in it, a layer written into it -/
theorem zero_put {w : World} {g : Nat} {t : TypeId} {a b c d e f h : Int} (hw : Whole w g t #[.int .i64 a, .int .i64 b, .int .i64 c, .int .i64 d, .int .i64 e, .int .i64 f, .int .i64 h]) (y : Lay) :
    Whole ((((((((w.setCell ⟨g, 0, none⟩ (.int .i64 y.fo)).setCell ⟨g, 1, none⟩ (.int .i64 y.ic)).setCell ⟨g, 2, none⟩ (.int .i64 y.wa)).setCell ⟨g, 3, none⟩ (.int .i64 y.de)).setCell ⟨g, 4, none⟩ (.int .i64 y.dg)).setCell ⟨g, 5, none⟩ (.int .i64 y.ha)).setCell ⟨g, 6, none⟩ (.int .i64 y.ag))) g t #[.int .i64 y.fo, .int .i64 y.ic, .int .i64 y.wa, .int .i64 y.de, .int .i64 y.dg, .int .i64 y.ha, .int .i64 y.ag] := by
  have := ((((((hw.put 0 (.int .i64 y.fo)).put 1 (.int .i64 y.ic)).put 2 (.int .i64 y.wa)).put 3 (.int .i64 y.de)).put 4 (.int .i64 y.dg)).put 5 (.int .i64 y.ha)).put 6 (.int .i64 y.ag)
  simpa using this
theorem put_below {w0 w : World} {g : Nat} (h : Below w0.heap.size w0 w) (hg : w0.heap.size ≤ g) (y : Lay) : Below w0.heap.size w0 (((((((w.setCell ⟨g, 0, none⟩ (.int .i64 y.fo)).setCell ⟨g, 1, none⟩ (.int .i64 y.ic)).setCell ⟨g, 2, none⟩ (.int .i64 y.wa)).setCell ⟨g, 3, none⟩ (.int .i64 y.de)).setCell ⟨g, 4, none⟩ (.int .i64 y.dg)).setCell ⟨g, 5, none⟩ (.int .i64 y.ha)).setCell ⟨g, 6, none⟩ (.int .i64 y.ag)) :=
  ((((((h.setCell (p := ⟨g, 0, none⟩) hg _).setCell (p := ⟨g, 1, none⟩) hg _).setCell (p := ⟨g, 2, none⟩) hg _).setCell (p := ⟨g, 3, none⟩) hg _).setCell (p := ⟨g, 4, none⟩) hg _).setCell (p := ⟨g, 5, none⟩) hg _).setCell (p := ⟨g, 6, none⟩) hg _
theorem Whole.seven {w : World} {g : Nat} {t : TypeId} {a b c d e f h : Int} (hw : Whole w g t #[.int .i64 a, .int .i64 b, .int .i64 c, .int .i64 d, .int .i64 e, .int .i64 f, .int .i64 h]) :
    w.cell? ⟨g, 0, none⟩ = some (.int .i64 a) ∧ w.cell? ⟨g, 1, none⟩ = some (.int .i64 b) ∧ w.cell? ⟨g, 2, none⟩ = some (.int .i64 c) ∧ w.cell? ⟨g, 3, none⟩ = some (.int .i64 d) ∧ w.cell? ⟨g, 4, none⟩ = some (.int .i64 e) ∧ w.cell? ⟨g, 5, none⟩ = some (.int .i64 f) ∧ w.cell? ⟨g, 6, none⟩ = some (.int .i64 h) :=
  ⟨hw.at_ 0, hw.at_ 1, hw.at_ 2, hw.at_ 3, hw.at_ 4, hw.at_ 5, hw.at_ 6⟩
/-- the two blocks with which a call begins that takes a layer and answers one -/
def twoB (w : World) (x : Lay) : World := (w.alloc (.cells #[.int .i64 x.fo, .int .i64 x.ic, .int .i64 x.wa, .int .i64 x.de, .int .i64 x.dg, .int .i64 x.ha, .int .i64 x.ag] 68)).alloc (.cells #[.int .i64 0, .int .i64 0, .int .i64 0, .int .i64 0, .int .i64 0, .int .i64 0, .int .i64 0] 68)
theorem two_kept {w w1 : World} {x : Lay} (h : Below (twoB w x).heap.size (twoB w x) w1) : Whole w1 w.heap.size 68 #[.int .i64 x.fo, .int .i64 x.ic, .int .i64 x.wa, .int .i64 x.de, .int .i64 x.dg, .int .i64 x.ha, .int .i64 x.ag] ∧ Whole w1 (w.heap.size + 1) 68 #[.int .i64 0, .int .i64 0, .int .i64 0, .int .i64 0, .int .i64 0, .int .i64 0, .int .i64 0] := by
  refine ⟨((Whole.new w _ _).alloc _).all h, ?_⟩
  have := (Whole.new (w.alloc (.cells #[.int .i64 x.fo, .int .i64 x.ic, .int .i64 x.wa, .int .i64 x.de, .int .i64 x.dg, .int .i64 x.ha, .int .i64 x.ag] 68)) 68 #[.int .i64 0, .int .i64 0, .int .i64 0, .int .i64 0, .int .i64 0, .int .i64 0, .int .i64 0]).all h
  have e : (w.alloc (.cells #[.int .i64 x.fo, .int .i64 x.ic, .int .i64 x.wa, .int .i64 x.de, .int .i64 x.dg, .int .i64 x.ha, .int .i64 x.ag] 68)).heap.size = w.heap.size + 1 := by simp
  rwa [e] at this
theorem two_below (w : World) (x : Lay) : Below w.heap.size w (twoB w x) := ((Below.refl _ _).alloc (Nat.le_refl _) _).alloc (by simp) _
theorem RYC.mk {w w' : World} {x y : Lay} {c d : Int} (h : d = c ∧ y = x) (hb : Below w.heap.size w w') : RYC w y d (.returned (.tuple #[.agg #[.int .i64 x.fo, .int .i64 x.ic, .int .i64 x.wa, .int .i64 x.de, .int .i64 x.dg, .int .i64 x.ha, .int .i64 x.ag], .int .i64 c])) w' := by obtain ⟨rfl, rfl⟩ := h; exact ⟨rfl, hb⟩
set_option maxHeartbeats 3200000 in
theorem implSettleLayer_any (w : World) (x : Lay) (l : Int) :
    Calls Try.prog 51 #[.agg #[.int .i64 x.fo, .int .i64 x.ic, .int .i64 x.wa, .int .i64 x.de, .int .i64 x.dg, .int .i64 x.ha, .int .i64 x.ag], .int .i64 l] w (RYC w (La.slL x l) (La.slC x l)) := by
  have CV := Lib.hid (fun W => implValidLayer_any x W)
  have CW := Lib.hid (fun W => within_any l 0 32000000 W)
  have CS := Lib.hid (fun a b W => statedCode_any a b W)
  cases hq : La.okL x with
  | false =>
    have hr := Lib.hid (La.sl_1 (l := l) hq)
    rw [hq] at CV
    clear hq
    go_enter Try.func51, Try.ntmps51
    go_wp2_with fail
    refine (CV.out (twoB w x)).mono ?_
    rintro e w1 ⟨rfl, b1⟩
    obtain ⟨KX, KR⟩ := two_kept b1
    have BX := Lib.hid (fun W (h : Below w1.heap.size w1 W) => (KX.all h))
    have BR := Lib.hid (fun W (h : Below w1.heap.size w1 W) => (KR.all h))
    have B1 := Lib.hid (bt (two_below w x) b1)
    obtain ⟨k0, k1, k2, k3, k4, k5, k6⟩ := KX.seven
    clear b1 KX KR
    go_wp2_with fail
    refine (CW.out _).mono ?_
    rintro e w2 ⟨rfl, rfl⟩
    go_wp2_with fail
    refine (CS.out _ _ _).mono ?_
    rintro e w2 ⟨rfl, rfl⟩
    rw [show stc false (Ar.inB 0 l 32000000) = 1 from rfl]
    obtain ⟨c0, c1, c2, c3, c4, c5, c6⟩ := (BR.out w1 (Below.refl _ _)).seven
    have fz0 := (BR.out w1 (Below.refl _ _)).free 0
    have fz1 := (BR.out w1 (Below.refl _ _)).free 1
    have fz2 := (BR.out w1 (Below.refl _ _)).free 2
    have fz3 := (BR.out w1 (Below.refl _ _)).free 3
    have fz4 := (BR.out w1 (Below.refl _ _)).free 4
    have fz5 := (BR.out w1 (Below.refl _ _)).free 5
    have fz6 := (BR.out w1 (Below.refl _ _)).free 6
    have HP := Lib.hid (zero_put (BR.out w1 (Below.refl _ _)) (⟨0, 0, 0, 0, 0, 0, 0⟩ : Lay))
    have HB := Lib.hid (put_below B1.out (Nat.le_succ _) (⟨0, 0, 0, 0, 0, 0, 0⟩ : Lay))
    go_wp2_with fail
    obtain ⟨d0, d1, d2, d3, d4, d5, d6⟩ := HP.out.seven
    skip
    exact bodyPost_ret (v := .tuple #[.agg #[.int .i64 (⟨0, 0, 0, 0, 0, 0, 0⟩ : Lay).fo, .int .i64 (⟨0, 0, 0, 0, 0, 0, 0⟩ : Lay).ic, .int .i64 (⟨0, 0, 0, 0, 0, 0, 0⟩ : Lay).wa, .int .i64 (⟨0, 0, 0, 0, 0, 0, 0⟩ : Lay).de, .int .i64 (⟨0, 0, 0, 0, 0, 0, 0⟩ : Lay).dg, .int .i64 (⟨0, 0, 0, 0, 0, 0, 0⟩ : Lay).ha, .int .i64 (⟨0, 0, 0, 0, 0, 0, 0⟩ : Lay).ag], .int .i64 1]) (by simp [results, Try.results51, go_sem, d0, d1, d2, d3, d4, d5, d6]) rfl (RYC.mk hr.out HB.out)
  | true =>
    cases hj : Ar.inB 0 l 32000000 with
    | false =>
      have hr := Lib.hid (La.sl_2 hq hj)
      rw [hq] at CV
      rw [hj] at CW
      clear hq hj
      go_enter Try.func51, Try.ntmps51
      go_wp2_with fail
      refine (CV.out (twoB w x)).mono ?_
      rintro e w1 ⟨rfl, b1⟩
      obtain ⟨KX, KR⟩ := two_kept b1
      have BX := Lib.hid (fun W (h : Below w1.heap.size w1 W) => (KX.all h))
      have BR := Lib.hid (fun W (h : Below w1.heap.size w1 W) => (KR.all h))
      have B1 := Lib.hid (bt (two_below w x) b1)
      obtain ⟨k0, k1, k2, k3, k4, k5, k6⟩ := KX.seven
      clear b1 KX KR
      go_wp2_with fail
      refine (CW.out _).mono ?_
      rintro e w2 ⟨rfl, rfl⟩
      go_wp2_with fail
      refine (CS.out _ _ _).mono ?_
      rintro e w2 ⟨rfl, rfl⟩
      rw [show stc true false = 2 from rfl]
      obtain ⟨c0, c1, c2, c3, c4, c5, c6⟩ := (BR.out w1 (Below.refl _ _)).seven
      have fz0 := (BR.out w1 (Below.refl _ _)).free 0
      have fz1 := (BR.out w1 (Below.refl _ _)).free 1
      have fz2 := (BR.out w1 (Below.refl _ _)).free 2
      have fz3 := (BR.out w1 (Below.refl _ _)).free 3
      have fz4 := (BR.out w1 (Below.refl _ _)).free 4
      have fz5 := (BR.out w1 (Below.refl _ _)).free 5
      have fz6 := (BR.out w1 (Below.refl _ _)).free 6
      have HP := Lib.hid (zero_put (BR.out w1 (Below.refl _ _)) (⟨0, 0, 0, 0, 0, 0, 0⟩ : Lay))
      have HB := Lib.hid (put_below B1.out (Nat.le_succ _) (⟨0, 0, 0, 0, 0, 0, 0⟩ : Lay))
      go_wp2_with fail
      obtain ⟨d0, d1, d2, d3, d4, d5, d6⟩ := HP.out.seven
      skip
      exact bodyPost_ret (v := .tuple #[.agg #[.int .i64 (⟨0, 0, 0, 0, 0, 0, 0⟩ : Lay).fo, .int .i64 (⟨0, 0, 0, 0, 0, 0, 0⟩ : Lay).ic, .int .i64 (⟨0, 0, 0, 0, 0, 0, 0⟩ : Lay).wa, .int .i64 (⟨0, 0, 0, 0, 0, 0, 0⟩ : Lay).de, .int .i64 (⟨0, 0, 0, 0, 0, 0, 0⟩ : Lay).dg, .int .i64 (⟨0, 0, 0, 0, 0, 0, 0⟩ : Lay).ha, .int .i64 (⟨0, 0, 0, 0, 0, 0, 0⟩ : Lay).ag], .int .i64 2]) (by simp [results, Try.results51, go_sem, d0, d1, d2, d3, d4, d5, d6]) rfl (RYC.mk hr.out HB.out)
    | true =>
      have hr := Lib.hid (La.sl_0 hq hj)
      obtain ⟨j0, j1⟩ := La.inB_iff.1 hj
      have CT := Lib.hid (fun W => settled_any x l W ((La.okL_iff x).1 hq) j0 j1)
      rw [hq] at CV
      rw [hj] at CW
      clear hq hj
      generalize La.stl x l = y at *
      go_enter Try.func51, Try.ntmps51
      go_wp2_with fail
      refine (CV.out (twoB w x)).mono ?_
      rintro e w1 ⟨rfl, b1⟩
      obtain ⟨KX, KR⟩ := two_kept b1
      have BX := Lib.hid (fun W (h : Below w1.heap.size w1 W) => (KX.all h))
      have BR := Lib.hid (fun W (h : Below w1.heap.size w1 W) => (KR.all h))
      have B1 := Lib.hid (bt (two_below w x) b1)
      obtain ⟨k0, k1, k2, k3, k4, k5, k6⟩ := KX.seven
      clear b1 KX KR
      go_wp2_with fail
      refine (CW.out _).mono ?_
      rintro e w2 ⟨rfl, rfl⟩
      go_wp2_with fail
      refine (CS.out _ _ _).mono ?_
      rintro e w2 ⟨rfl, rfl⟩
      rw [show stc true true = 0 from rfl]
      go_wp2_with fail
      refine (CT.out _).mono ?_
      rintro e w2 ⟨rfl, b2⟩
      have B2 := Lib.hid (bt B1.out b2)
      try clear k0 k1 k2 k3 k4 k5 k6
      obtain ⟨c0, c1, c2, c3, c4, c5, c6⟩ := (BR.out w2 b2).seven
      have fz0 := (BR.out w2 b2).free 0
      have fz1 := (BR.out w2 b2).free 1
      have fz2 := (BR.out w2 b2).free 2
      have fz3 := (BR.out w2 b2).free 3
      have fz4 := (BR.out w2 b2).free 4
      have fz5 := (BR.out w2 b2).free 5
      have fz6 := (BR.out w2 b2).free 6
      have HP := Lib.hid (zero_put (BR.out w2 b2) y)
      have HB := Lib.hid (put_below B2.out (Nat.le_succ _) y)
      go_wp2_with fail
      obtain ⟨d0, d1, d2, d3, d4, d5, d6⟩ := HP.out.seven
      skip
      exact bodyPost_ret (v := .tuple #[.agg #[.int .i64 y.fo, .int .i64 y.ic, .int .i64 y.wa, .int .i64 y.de, .int .i64 y.dg, .int .i64 y.ha, .int .i64 y.ag], .int .i64 0]) (by simp [results, Try.results51, go_sem, d0, d1, d2, d3, d4, d5, d6]) rfl (RYC.mk hr.out HB.out)
set_option maxHeartbeats 3200000 in
theorem specSettleLayer_any (w : World) (x : Lay) (l : Int) :
    Calls Try.prog 49 #[.agg #[.int .i64 x.fo, .int .i64 x.ic, .int .i64 x.wa, .int .i64 x.de, .int .i64 x.dg, .int .i64 x.ha, .int .i64 x.ag], .int .i64 l] w (RYC w (La.slL x l) (La.slC x l)) := by
  have CV : Hid (∀ W, Below (twoB w x).heap.size (twoB w x) W → Calls Try.prog 72 #[.pointer (some ⟨w.heap.size, 0, none⟩)] W fun e w' => e = .returned (.bool (La.okL x)) ∧ Below W.heap.size W w') := Lib.hid (fun W h => (l03One_any x w.heap.size 0 W (by obtain ⟨a0, a1, a2, a3, a4, a5, a6⟩ := (two_kept h).1.seven; exact ⟨a0, a1, a2, a3, a4, a5, a6⟩)).mono (by rintro e w' ⟨rfl, rfl⟩; exact ⟨rfl, Below.refl _ _⟩))
  have CW := Lib.hid (fun W => l05Load_any l W)
  cases hq : La.okL x with
  | false =>
    have hr := Lib.hid (La.sl_1 (l := l) hq)
    rw [hq] at CV
    clear hq
    go_enter Try.func49, Try.ntmps49
    go_wp2_with fail
    refine (CV.out (twoB w x) (Below.refl _ _)).mono ?_
    rintro e w1 ⟨rfl, b1⟩
    obtain ⟨KX, KR⟩ := two_kept b1
    have BX := Lib.hid (fun W (h : Below w1.heap.size w1 W) => (KX.all h))
    have BR := Lib.hid (fun W (h : Below w1.heap.size w1 W) => (KR.all h))
    have B1 := Lib.hid (bt (two_below w x) b1)
    clear b1 KX KR
    obtain ⟨c0, c1, c2, c3, c4, c5, c6⟩ := (BR.out w1 (Below.refl _ _)).seven
    have fz0 := (BR.out w1 (Below.refl _ _)).free 0
    have fz1 := (BR.out w1 (Below.refl _ _)).free 1
    have fz2 := (BR.out w1 (Below.refl _ _)).free 2
    have fz3 := (BR.out w1 (Below.refl _ _)).free 3
    have fz4 := (BR.out w1 (Below.refl _ _)).free 4
    have fz5 := (BR.out w1 (Below.refl _ _)).free 5
    have fz6 := (BR.out w1 (Below.refl _ _)).free 6
    have HP := Lib.hid (zero_put (BR.out w1 (Below.refl _ _)) (⟨0, 0, 0, 0, 0, 0, 0⟩ : Lay))
    have HB := Lib.hid (put_below B1.out (Nat.le_succ _) (⟨0, 0, 0, 0, 0, 0, 0⟩ : Lay))
    go_wp2_with fail
    obtain ⟨d0, d1, d2, d3, d4, d5, d6⟩ := HP.out.seven
    skip
    exact bodyPost_ret (v := .tuple #[.agg #[.int .i64 (⟨0, 0, 0, 0, 0, 0, 0⟩ : Lay).fo, .int .i64 (⟨0, 0, 0, 0, 0, 0, 0⟩ : Lay).ic, .int .i64 (⟨0, 0, 0, 0, 0, 0, 0⟩ : Lay).wa, .int .i64 (⟨0, 0, 0, 0, 0, 0, 0⟩ : Lay).de, .int .i64 (⟨0, 0, 0, 0, 0, 0, 0⟩ : Lay).dg, .int .i64 (⟨0, 0, 0, 0, 0, 0, 0⟩ : Lay).ha, .int .i64 (⟨0, 0, 0, 0, 0, 0, 0⟩ : Lay).ag], .int .i64 1]) (by simp [results, Try.results49, go_sem, d0, d1, d2, d3, d4, d5, d6]) rfl (RYC.mk hr.out HB.out)
  | true =>
    cases hj : Ar.inB 0 l 32000000 with
    | false =>
      have hr := Lib.hid (La.sl_2 hq hj)
      rw [hq] at CV
      rw [hj] at CW
      clear hq hj
      go_enter Try.func49, Try.ntmps49
      go_wp2_with fail
      refine (CV.out (twoB w x) (Below.refl _ _)).mono ?_
      rintro e w1 ⟨rfl, b1⟩
      obtain ⟨KX, KR⟩ := two_kept b1
      have BX := Lib.hid (fun W (h : Below w1.heap.size w1 W) => (KX.all h))
      have BR := Lib.hid (fun W (h : Below w1.heap.size w1 W) => (KR.all h))
      have B1 := Lib.hid (bt (two_below w x) b1)
      clear b1 KX KR
      go_wp2_with fail
      refine (CW.out _).mono ?_
      rintro e w2 ⟨rfl, rfl⟩
      obtain ⟨c0, c1, c2, c3, c4, c5, c6⟩ := (BR.out w1 (Below.refl _ _)).seven
      have fz0 := (BR.out w1 (Below.refl _ _)).free 0
      have fz1 := (BR.out w1 (Below.refl _ _)).free 1
      have fz2 := (BR.out w1 (Below.refl _ _)).free 2
      have fz3 := (BR.out w1 (Below.refl _ _)).free 3
      have fz4 := (BR.out w1 (Below.refl _ _)).free 4
      have fz5 := (BR.out w1 (Below.refl _ _)).free 5
      have fz6 := (BR.out w1 (Below.refl _ _)).free 6
      have HP := Lib.hid (zero_put (BR.out w1 (Below.refl _ _)) (⟨0, 0, 0, 0, 0, 0, 0⟩ : Lay))
      have HB := Lib.hid (put_below B1.out (Nat.le_succ _) (⟨0, 0, 0, 0, 0, 0, 0⟩ : Lay))
      go_wp2_with fail
      obtain ⟨d0, d1, d2, d3, d4, d5, d6⟩ := HP.out.seven
      skip
      exact bodyPost_ret (v := .tuple #[.agg #[.int .i64 (⟨0, 0, 0, 0, 0, 0, 0⟩ : Lay).fo, .int .i64 (⟨0, 0, 0, 0, 0, 0, 0⟩ : Lay).ic, .int .i64 (⟨0, 0, 0, 0, 0, 0, 0⟩ : Lay).wa, .int .i64 (⟨0, 0, 0, 0, 0, 0, 0⟩ : Lay).de, .int .i64 (⟨0, 0, 0, 0, 0, 0, 0⟩ : Lay).dg, .int .i64 (⟨0, 0, 0, 0, 0, 0, 0⟩ : Lay).ha, .int .i64 (⟨0, 0, 0, 0, 0, 0, 0⟩ : Lay).ag], .int .i64 2]) (by simp [results, Try.results49, go_sem, d0, d1, d2, d3, d4, d5, d6]) rfl (RYC.mk hr.out HB.out)
    | true =>
      have hr := Lib.hid (La.sl_0 hq hj)
      obtain ⟨j0, j1⟩ := La.inB_iff.1 hj
      have CT := Lib.hid (fun W (h : LCells W w.heap.size 0 x) => l05Settle_any x l w.heap.size 0 W h ((La.okL_iff x).1 hq) j0 j1)
      rw [hq] at CV
      rw [hj] at CW
      clear hq hj
      generalize La.stl x l = y at *
      go_enter Try.func49, Try.ntmps49
      go_wp2_with fail
      refine (CV.out (twoB w x) (Below.refl _ _)).mono ?_
      rintro e w1 ⟨rfl, b1⟩
      obtain ⟨KX, KR⟩ := two_kept b1
      have BX := Lib.hid (fun W (h : Below w1.heap.size w1 W) => (KX.all h))
      have BR := Lib.hid (fun W (h : Below w1.heap.size w1 W) => (KR.all h))
      have B1 := Lib.hid (bt (two_below w x) b1)
      clear b1 KX KR
      go_wp2_with fail
      refine (CW.out _).mono ?_
      rintro e w2 ⟨rfl, rfl⟩
      go_wp2_with fail
      refine (CT.out w1 (by obtain ⟨a0, a1, a2, a3, a4, a5, a6⟩ := (BX.out w1 (Below.refl _ _)).seven; exact ⟨a0, a1, a2, a3, a4, a5, a6⟩)).mono ?_
      rintro e w2 ⟨rfl, b2⟩
      have B2 := Lib.hid (bt B1.out b2)
      try clear k0 k1 k2 k3 k4 k5 k6
      obtain ⟨c0, c1, c2, c3, c4, c5, c6⟩ := (BR.out w2 b2).seven
      have fz0 := (BR.out w2 b2).free 0
      have fz1 := (BR.out w2 b2).free 1
      have fz2 := (BR.out w2 b2).free 2
      have fz3 := (BR.out w2 b2).free 3
      have fz4 := (BR.out w2 b2).free 4
      have fz5 := (BR.out w2 b2).free 5
      have fz6 := (BR.out w2 b2).free 6
      have HP := Lib.hid (zero_put (BR.out w2 b2) y)
      have HB := Lib.hid (put_below B2.out (Nat.le_succ _) y)
      go_wp2_with fail
      obtain ⟨d0, d1, d2, d3, d4, d5, d6⟩ := HP.out.seven
      skip
      exact bodyPost_ret (v := .tuple #[.agg #[.int .i64 y.fo, .int .i64 y.ic, .int .i64 y.wa, .int .i64 y.de, .int .i64 y.dg, .int .i64 y.ha, .int .i64 y.ag], .int .i64 0]) (by simp [results, Try.results49, go_sem, d0, d1, d2, d3, d4, d5, d6]) rfl (RYC.mk hr.out HB.out)
end Go.Proofs.Ytfbfdiejffjbmaa
