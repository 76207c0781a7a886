/-
  SettleLayer and GradientOf of chapter 5: by the program and by the model. No condition of its own.
-/
import Derived.Test.YtbdhdlgenfpjgaaDoorHrG
import Derived.Test.YtbdhdlgenfpjgaaDoorPut
import Derived.Test.YtbdhdlgenfpjgaaDoorHrE
import Derived.Test.YtbdhdlgenfpjgaaDoorHrD
import Derived.Test.YtbdhdlgenfpjgaaDoorHrS
namespace Go.Proofs.YtbdhdlgenfpjgaaDoor
open Go.RowKit Go.Shelf
set_option linter.unusedVariables false
set_option maxRecDepth 100000

namespace La
theorem eqL_self (x : Lay) : eqL x x = true := by unfold eqL; exact beq_self_eq_true _
def inL (l : Int) : Bool := Ar.inB 0 l 32000000
def slC (x : Lay) (l : Int) : Int := if okL x then (if Ar.inB 0 l 32000000 then 0 else 2) else 1
def slL (x : Lay) (l : Int) : Lay := if okL x && Ar.inB 0 l 32000000 then stl x l else ⟨0, 0, 0, 0, 0, 0, 0⟩
variable {x : Lay} {l : Int}
theorem sl_1 (h : okL x = false) : slC x l = 1 ∧ slL x l = ⟨0, 0, 0, 0, 0, 0, 0⟩ := by unfold slC slL; simp [h]
theorem sl_2 (h : okL x = true) (h' : Ar.inB 0 l 32000000 = false) : slC x l = 2 ∧ slL x l = ⟨0, 0, 0, 0, 0, 0, 0⟩ := by unfold slC slL; simp [h, h']
theorem sl_0 (h : okL x = true) (h' : Ar.inB 0 l 32000000 = true) : slC x l = 0 ∧ slL x l = stl x l := by unfold slC slL; simp [h, h']
def gdC (xs : List Lay) (k : Int) : Int := if okP xs then (if Ar.inB 0 k (xs.length - 2) then 0 else 2) else 1
def gdV (xs : List Lay) (k : Int) : Int := if okP xs && Ar.inB 0 k (xs.length - 2) then grd (nth xs k.toNat) (nth xs (k.toNat + 1)) else 0
variable {xs : List Lay} {k : Int}
theorem gd_1 (h : okP xs = false) : gdC xs k = 1 ∧ gdV xs k = 0 := by unfold gdC gdV; simp [h]
theorem gd_2 (h : okP xs = true) (h' : Ar.inB 0 k (xs.length - 2) = false) : gdC xs k = 2 ∧ gdV xs k = 0 := by unfold gdC gdV; simp [h, h']
theorem gd_0 {k : Nat} (h : okP xs = true) (h' : Ar.inB 0 (k : Int) (xs.length - 2) = true) (h1 : k < xs.length) (h2 : k + 1 < xs.length) : gdC xs k = 0 ∧ gdV xs k = grd xs[k] xs[k + 1] := by
  unfold gdC gdV; simp [h, h', nth_eq h1, nth_eq h2]
theorem gd_in {k : Int} (h' : Ar.inB 0 k (xs.length - 2) = true) : ∃ j : Nat, k = j ∧ j + 1 < xs.length := by
  obtain ⟨h1, h2⟩ := inB_iff.1 h'
  obtain ⟨j, rfl⟩ := Int.eq_ofNat_of_zero_le h1
  exact ⟨j, rfl, by omega⟩
end La
/-- what a call that answers a layer and a code leaves -/
def RYC (w : World) (y : Lay) (c : Int) (e : Ending) (w' : World) : Prop := e = .returned (.tuple #[.agg #[.int .i64 y.fo, .int .i64 y.ic, .int .i64 y.wa, .int .i64 y.de, .int .i64 y.dg, .int .i64 y.ha, .int .i64 y.ag], .int .i64 c]) ∧ Below w.heap.size w w'
def RGC (w : World) (v c : Int) (e : Ending) (w' : World) : Prop := e = .returned (.tuple #[.int .i64 v, .int .i64 c]) ∧ Below w.heap.size w w'
theorem ret_lay2 {x y : Lay} {c d : Int} (h : d = c ∧ y = x) : Ending.returned (.tuple #[.agg #[.int .i64 x.fo, .int .i64 x.ic, .int .i64 x.wa, .int .i64 x.de, .int .i64 x.dg, .int .i64 x.ha, .int .i64 x.ag], .int .i64 c]) = .returned (.tuple #[.agg #[.int .i64 y.fo, .int .i64 y.ic, .int .i64 y.wa, .int .i64 y.de, .int .i64 y.dg, .int .i64 y.ha, .int .i64 y.ag], .int .i64 d]) := by obtain ⟨rfl, rfl⟩ := h; rfl
set_option maxHeartbeats 1600000 in
theorem l05Gradient_any (B b cap : Nat) (w : World) (xs : List Lay) (n : Nat) (ho : LOwn B w (.slice (some ⟨b, 0, none⟩) xs.length cap) xs) (hq : La.okP xs = true) (hn1 : n < xs.length) (hn2 : n + 1 < xs.length) :
    Calls Tryd.prog 63 #[.slice (some ⟨b, 0, none⟩) xs.length cap, .int .i64 n] w fun e w' => e = .returned (.int .i64 (La.grd xs[n] xs[n + 1])) ∧ ∃ m, w' = w.drewN m := by
  have h16 := ((La.okP_iff xs).1 hq).1
  have FX := La.fits_at hq hn1
  have FY := La.fits_at hq hn2
  obtain ⟨t1, t2⟩ := La.thick_bd FX
  obtain ⟨s1, s2⟩ := La.thick_bd FY
  obtain ⟨v1, v2⟩ := La.way_bd FX FY
  have g1 := FX.g1; have g2 := FX.g2; have k1 := FY.g1; have k2 := FY.g2
  have HX := Lib.hid (ho.cells hn1)
  have HY := Lib.hid (ho.cells hn2)
  have CX := Lib.hid (l03Thick_any xs[n] b (n * 7) w HX.out FX)
  have CY := Lib.hid (fun W (h : LCells W b ((n + 1) * 7) xs[n + 1]) => l03Thick_any xs[n + 1] b ((n + 1) * 7) W h FY)
  have HM : Hid (max 1 ((La.thick xs[n] + La.thick xs[n + 1]) / 2) = La.way xs[n] xs[n + 1]) := Lib.hid rfl
  have HG : Hid (Ar.dr ((xs[n + 1].dg - xs[n].dg) * 1000) (La.way xs[n] xs[n + 1]) = La.grd xs[n] xs[n + 1]) := Lib.hid rfl
  have CD := Lib.hid (fun W => l01Div_any ((xs[n + 1].dg - xs[n].dg) * 1000) (La.way xs[n] xs[n + 1]) W (by omega) (by omega) (by omega) (by omega) (by omega))
  have CM := Lib.hid (fun W => l00Max_any 1 ((La.thick xs[n] + La.thick xs[n + 1]) / 2) W)
  rw [HG.out] at CD
  rw [HM.out] at CM
  clear HG HM FX FY hq ho
  have e1 : ((n : Int) + 1).toNat = n + 1 := by omega
  have nw : IntKind.i64.wrap ((n : Int) + 1) = (n : Int) + 1 := IntWalk.i64_in _ (by omega)
  have p0 : (0 : Int) ≤ n := by omega
  have p1 : (n : Int) < xs.length := by omega
  have p2 : (n : Int) + 1 < xs.length := by omega
  have p3 : (0 : Int) ≤ (n : Int) + 1 := by omega
  have nw7 : IntKind.i64.wrap (xs[n + 1].dg - xs[n].dg) = xs[n + 1].dg - xs[n].dg := IntWalk.i64_in _ (by omega)
  have nw8 : IntKind.i64.wrap ((xs[n + 1].dg - xs[n].dg) * 1000) = (xs[n + 1].dg - xs[n].dg) * 1000 := IntWalk.i64_in _ (by omega)
  generalize La.thick xs[n] = tx at *
  generalize La.thick xs[n + 1] = ty at *
  generalize La.way xs[n] xs[n + 1] = wy at *
  generalize La.grd xs[n] xs[n + 1] = gg at *
  generalize xs[n] = x at *
  generalize xs[n + 1] = y at *
  go_enter Tryd.func63, Tryd.ntmps63
  go_wp2_with fail
  refine CX.out.mono ?_
  rintro e w1 ⟨rfl, n1, rfl⟩
  go_wp2_with fail
  refine (CY.out _ (HY.out.drewN n1)).mono ?_
  rintro e w2 ⟨rfl, n2, rfl⟩
  obtain ⟨c0, c1, c2, c3, c4, c5, c6⟩ := (HX.out.drewN n1).drewN n2
  obtain ⟨d0, d1, d2, d3, d4, d5, d6⟩ := (HY.out.drewN n1).drewN n2
  have E : ∀ k, ∃ m, ((w.drewN n1).drewN n2).drewN k = w.drewN m := fun k => ⟨n1 + n2 + k, by simp [World.drewN, Nat.add_assoc]⟩
  have EE := Lib.hid E
  clear E
  generalize (w.drewN n1).drewN n2 = w2 at *
  go_wp2_with fail
  refine (CM.out _).mono ?_
  rintro e w3 ⟨rfl, rfl⟩
  go_wp2_with fail
  go_quiet ((go_at_call 67; exact Calls.quiet_of_same ((CD.out _).mono fun _ _ ⟨h, h'⟩ => ⟨h, h'.symm⟩)))
  go_wp2_with fail
  go_ret
  exact ⟨rfl, EE.out _⟩
/-- the two blocks with which a call begins that takes a layer and answers one -/
def twoB (w : World) (x : Lay) : World := (w.alloc (.cells #[.int .i64 x.fo, .int .i64 x.ic, .int .i64 x.wa, .int .i64 x.de, .int .i64 x.dg, .int .i64 x.ha, .int .i64 x.ag] 42)).alloc (.cells #[.int .i64 0, .int .i64 0, .int .i64 0, .int .i64 0, .int .i64 0, .int .i64 0, .int .i64 0] 42)
theorem two_kept {w w1 : World} {x : Lay} (h : Below (twoB w x).heap.size (twoB w x) w1) : Whole w1 w.heap.size 42 #[.int .i64 x.fo, .int .i64 x.ic, .int .i64 x.wa, .int .i64 x.de, .int .i64 x.dg, .int .i64 x.ha, .int .i64 x.ag] ∧ Whole w1 (w.heap.size + 1) 42 #[.int .i64 0, .int .i64 0, .int .i64 0, .int .i64 0, .int .i64 0, .int .i64 0, .int .i64 0] := by
  refine ⟨((Whole.new w _ _).alloc _).all h, ?_⟩
  have := (Whole.new (w.alloc (.cells #[.int .i64 x.fo, .int .i64 x.ic, .int .i64 x.wa, .int .i64 x.de, .int .i64 x.dg, .int .i64 x.ha, .int .i64 x.ag] 42)) 42 #[.int .i64 0, .int .i64 0, .int .i64 0, .int .i64 0, .int .i64 0, .int .i64 0, .int .i64 0]).all h
  have e : (w.alloc (.cells #[.int .i64 x.fo, .int .i64 x.ic, .int .i64 x.wa, .int .i64 x.de, .int .i64 x.dg, .int .i64 x.ha, .int .i64 x.ag] 42)).heap.size = w.heap.size + 1 := by simp
  rwa [e] at this
theorem two_below (w : World) (x : Lay) : Below w.heap.size w (twoB w x) := ((Below.refl _ _).alloc (Nat.le_refl _) _).alloc (by simp) _
theorem RYC.mk {w w' : World} {x y : Lay} {c d : Int} (h : d = c ∧ y = x) (hb : Below w.heap.size w w') : RYC w y d (.returned (.tuple #[.agg #[.int .i64 x.fo, .int .i64 x.ic, .int .i64 x.wa, .int .i64 x.de, .int .i64 x.dg, .int .i64 x.ha, .int .i64 x.ag], .int .i64 c])) w' := by obtain ⟨rfl, rfl⟩ := h; exact ⟨rfl, hb⟩
end Go.Proofs.YtbdhdlgenfpjgaaDoor
