/-
  A stand read back out of its text, by the model and by the program. The conditions: of the program's side, the library's listed variables hold what its text lays. (Written by wip/gen/gentext.py.)
-/
import Derived.Test.YtecobplmkdlagaaDoorCutL
import Derived.Test.YtecobplmkdlagaaDoorFoB
import Derived.Test.YtecobplmkdlagaaDoorStdF
import Derived.Deep.RegionHeld3
namespace Go.Proofs.YtecobplmkdlagaaDoor
open Go.RowKit Go.ChangeShapes Go.WideShapes Go.Deep
set_option linter.unusedVariables false
set_option maxRecDepth 100000

namespace Fo
def zR : Std := ⟨[], 0, 0, 0, 0⟩
def s4 (p : List UInt8) (zs : List Int) : Option Std := match zs with
  | [a, b, c, d] => if ok1 ⟨p, a, b, c, d⟩ = true then some ⟨p, a, b, c, d⟩ else none
  | _ => none
/-- the stand with a text -/
def rst (l : List UInt8) : Option Std := match spl 32 l with
  | [p, r] => (rl r).bind (s4 p)
  | _ => none
theorem rst_one {l : List UInt8} (h : spl 32 l = [l]) : rst l = none := by unfold rst; rw [h]
theorem rst_many {l : List UInt8} (h : 2 < (spl 32 l).length) : rst l = none := by
  unfold rst
  match hs : spl 32 l, h with
  | [], _ => rfl
  | [_], _ => rfl
  | [_, _], h => simp at h
  | _ :: _ :: _ :: _, _ => rfl
theorem rst_two {l p r : List UInt8} (h : spl 32 l = [p, r]) : rst l = (rl r).bind (s4 p) := by unfold rst; rw [h]
theorem s4_len {p : List UInt8} {zs : List Int} (h2 : zs.length ≠ 4) : s4 p zs = none := by
  match zs, h2 with
  | [], _ => rfl
  | [_], _ => rfl
  | [_, _], _ => rfl
  | [_, _, _], _ => rfl
  | [_, _, _, _], h2 => simp at h2
  | _ :: _ :: _ :: _ :: _ ::  _, _ => rfl
theorem s4_bad {p : List UInt8} {a b c d : Int} (h : ok1 ⟨p, a, b, c, d⟩ = false) : s4 p [a, b, c, d] = none := by unfold s4; simp [h]
theorem s4_ok {p : List UInt8} {a b c d : Int} (h : ok1 ⟨p, a, b, c, d⟩ = true) : s4 p [a, b, c, d] = some ⟨p, a, b, c, d⟩ := by unfold s4; simp [h]
theorem fourF {zs : List Int} (h : zs.length = 4) : ∃ a b c d, zs = [a, b, c, d] := by
  match zs, h with
  | [a, b, c, d], _ => exact ⟨a, b, c, d, rfl⟩
theorem rst_cut (l : List UInt8) : rst l = (rl (Lib.cut l [32]).2.1).bind (s4 (Lib.cut l [32]).1) := by
  rcases spl_two 32 l with ⟨h, hs⟩ | ⟨p, r, rfl, hp, hr, hs⟩ | ⟨p, r, rfl, hp, hr, hs⟩
  · rw [rst_one hs, cut_miss h]; simp only []; rw [rl_nil]; rfl
  · rw [rst_two hs, cut_hit hp]
  · rw [rst_many hs, cut_hit hp]; simp only []; rw [rl_odd hr (by decide) (by decide) (by decide)]; rfl
end Fo
/-- what reading a stand leaves -/
def RRs (w : World) (o : Option Std) (e : Ending) (w' : World) : Prop := e = .returned (.tuple #[.agg #[.string ⟨(o.getD Fo.zR).id.toArray⟩, .int .i64 (o.getD Fo.zR).tr, .int .i64 (o.getD Fo.zR).he, .int .i64 (o.getD Fo.zR).co, .int .i64 (o.getD Fo.zR).ga], .bool o.isSome]) ∧ Below w.heap.size w w'
theorem RRs.no {w w' : World} {o : Option Std} (ho : o = none) (hb : Below w.heap.size w w') : RRs w o (.returned (.tuple #[.agg #[.string ⟨#[]⟩, .int .i64 0, .int .i64 0, .int .i64 0, .int .i64 0], .bool false])) w' := by
  subst ho; exact ⟨rfl, hb⟩
theorem RRs.yes {w w' : World} {o : Option Std} {p : List UInt8} {a b c d : Int} (ho : o = some ⟨p, a, b, c, d⟩) (hb : Below w.heap.size w w') : RRs w o (.returned (.tuple #[.agg #[.string ⟨p.toArray⟩, .int .i64 a, .int .i64 b, .int .i64 c, .int .i64 d], .bool true])) w' := by
  subst ho; exact ⟨rfl, hb⟩
/-- a block that holds a stand -/
def RAt (w : World) (g : Nat) (x : Std) : Prop := Whole w g 39 #[.string ⟨x.id.toArray⟩, .int .i64 x.tr, .int .i64 x.he, .int .i64 x.co, .int .i64 x.ga]
theorem RAt.five {w : World} {g : Nat} {x : Std} (h : RAt w g x) : w.cell? ⟨g, 0, none⟩ = some (.string ⟨x.id.toArray⟩) ∧ w.cell? ⟨g, 1, none⟩ = some (.int .i64 x.tr) ∧ w.cell? ⟨g, 2, none⟩ = some (.int .i64 x.he) ∧ w.cell? ⟨g, 3, none⟩ = some (.int .i64 x.co) ∧ w.cell? ⟨g, 4, none⟩ = some (.int .i64 x.ga) := ⟨h.at_ 0, h.at_ 1, h.at_ 2, h.at_ 3, h.at_ 4⟩
theorem RAt.cells {w : World} {g : Nat} {x : Std} (h : RAt w g x) : SnCells w g 0 x := ⟨h.at_ 0, h.at_ 1, h.at_ 2, h.at_ 3, h.at_ 4⟩
theorem RAt.all {w w1 : World} {g : Nat} {x : Std} (h : RAt w g x) (hb : Below w.heap.size w w1) : RAt w1 g x := Whole.all h hb
theorem RAt.free5 {w : World} {g : Nat} {x : Std} (h : RAt w g x) (i : Nat) : w.frozen? ⟨g, i, none⟩ = false := Whole.free h i
def putR (w : World) (g : Nat) (y : Std) : World := ((((w.setCell ⟨g, 0, none⟩ (.string ⟨y.id.toArray⟩)).setCell ⟨g, 1, none⟩ (.int .i64 y.tr)).setCell ⟨g, 2, none⟩ (.int .i64 y.he)).setCell ⟨g, 3, none⟩ (.int .i64 y.co)).setCell ⟨g, 4, none⟩ (.int .i64 y.ga)
theorem RAt.put {w : World} {g : Nat} {x : Std} (h : RAt w g x) (y : Std) : RAt (putR w g y) g y := by
  have := ((((Whole.put h 0 (.string ⟨y.id.toArray⟩)).put 1 (.int .i64 y.tr)).put 2 (.int .i64 y.he)).put 3 (.int .i64 y.co)).put 4 (.int .i64 y.ga)
  unfold RAt putR
  simpa using this
theorem putR_only (w : World) (g : Nat) (y : Std) : w.grownBy (putR w g y) (some g) :=
  only_setCell (p := ⟨g, 4, none⟩) (only_setCell (p := ⟨g, 3, none⟩) (only_setCell (p := ⟨g, 2, none⟩) (only_setCell (p := ⟨g, 1, none⟩) (only_setCell (p := ⟨g, 0, none⟩) (World.grownBy.refl w (some g)) rfl _) rfl _) rfl _) rfl _) rfl _
theorem below_putR {w0 w : World} {g : Nat} (h : Below w0.heap.size w0 w) (hg : w0.heap.size ≤ g) (y : Std) : Below w0.heap.size w0 (putR w g y) := below_only h (putR_only w g y) hg h.size
theorem own_rowF {B : Nat} {w : World} {u : Value} {zs : List Int} (h : Own B w u zs) (hn : 0 < zs.length) :
    ∃ g cap, u = .slice (some ⟨g, 0, none⟩) zs.length cap ∧ ∀ j x, zs[j]? = some x → w.cell? ⟨g, j, none⟩ = some (.int .i64 x) := by
  obtain ⟨g, cap, rfl⟩ := Go.Joins.ownsRow_form h hn
  refine ⟨g, cap, rfl, fun j x hx => ?_⟩
  have hj : j < zs.length := (List.getElem?_eq_some_iff.1 hx).1
  rw [World.ownsRow.cellAt h j (by omega)]
  unfold iv
  rw [List.getElem?_map, hx]
  rfl
set_option maxHeartbeats 6400000 in
theorem implReadStand_any (s : ByteArray) (w : World) (hs : s.size ≤ 1048576) (hpw : Pow w) (her : Errs w) (hml : MaxL w) :
    Calls Tryd.prog 21 #[.string s] w (RRs w (Fo.rst s.data.toList)) := by
  rw [Fo.rst_cut]
  have HB := Lib.hid (boxStd_below w Fo.zR 39)
  have C := Lib.hid (cut_any s 32 (boxStd w Fo.zR 39) hs (hml.below HB.out))
  have HK : Hid (∀ w1, Below (boxStd w Fo.zR 39).heap.size (boxStd w Fo.zR 39) w1 → RAt w1 w.heap.size Fo.zR) := Lib.hid (fun w1 h => (Whole.new w _ _).all h)
  have HP := Lib.hid hpw
  have HE := Lib.hid her
  have HM := Lib.hid hml
  have hl := cut_len 32 s.data.toList
  have hsz : s.data.toList.length = s.size := by simp
  rw [hsz] at hl
  generalize (Lib.cut s.data.toList [32]).1 = p at *
  generalize (Lib.cut s.data.toList [32]).2.1 = r at *
  generalize (Lib.cut s.data.toList [32]).2.2 = q at *
  have CR := Lib.hid (fun W (h : Below w.heap.size w W) => implReadList_any ⟨r.toArray⟩ W (by rw [sz_mk]; omega) (HP.out.below h) (HE.out.below h) (HM.out.below h))
  have hrr : (⟨r.toArray⟩ : ByteArray).data.toList = r := by simp
  rw [hrr] at CR
  have hpl : p.length ≤ 1048576 := by omega
  clear hpw her hml hsz hrr hl
  generalize hrl : rl r = o at *
  cases o with
  | none =>
    have hr : Hid ((none : Option (List Int)).bind (Fo.s4 p) = none) := Lib.hid rfl
    clear hrl
    unfold boxStd Fo.zR at C HB HK
    go_enter Tryd.func21, Tryd.ntmps21
    go_wp2_with fail
    refine C.out.mono ?_
    rintro e w1 ⟨rfl, b1⟩
    have B1 := Lib.hid (bt HB.out b1)
    have K1 := Lib.hid (HK.out w1 b1)
    clear b1
    go_wp2_with fail
    refine (CR.out _ B1.out).mono ?_
    rintro e w2 ⟨u, rfl, ho, b2⟩
    have KW := Lib.hid (K1.out.all b2)
    have B2 := Lib.hid (bt B1.out b2)
    obtain ⟨ua, ucap, rfl⟩ := (Own.sl ho).form
    clear b2 ho
    have RW := Lib.hid (KW.out.put Fo.zR)
    have RB := Lib.hid (below_putR B2.out (Nat.le_refl _) Fo.zR)
    obtain ⟨z0, z1, z2, z3, z4⟩ := KW.out.five
    have f0 := KW.out.free5 0; have f1 := KW.out.free5 1; have f2 := KW.out.free5 2; have f3 := KW.out.free5 3; have f4 := KW.out.free5 4
    go_wp2_with fail
    change bodyPost _ _ _ _ _ (putR w2 w.heap.size Fo.zR)
    generalize putR w2 w.heap.size Fo.zR = WZ at *
    obtain ⟨d0, d1, d2, d3, d4⟩ := RW.out.five
    exact bodyPost_ret (v := .tuple #[.agg #[.string ⟨#[]⟩, .int .i64 0, .int .i64 0, .int .i64 0, .int .i64 0], .bool false]) (by simp [results, Tryd.results21, go_sem, d0, d1, d2, d3, d4, Fo.zR]) rfl (RRs.no hr.out RB.out)
  | some zs =>
    by_cases hz : zs.length = 4
    · obtain ⟨a, b, c, d, rfl⟩ := Fo.fourF hz
      clear hz
      have CW := Lib.hid (fun W => isWrongStd_any ⟨p, a, b, c, d⟩ W hpl)
      cases hx : Fo.ok1 ⟨p, a, b, c, d⟩ with
      | false =>
        have hr : Hid ((some [a, b, c, d]).bind (Fo.s4 p) = none) := Lib.hid (Fo.s4_bad hx)
        rw [hx] at CW
        clear hx hrl
        unfold boxStd Fo.zR at C HB HK
        go_enter Tryd.func21, Tryd.ntmps21
        go_wp2_with fail
        refine C.out.mono ?_
        rintro e w1 ⟨rfl, b1⟩
        have B1 := Lib.hid (bt HB.out b1)
        have K1 := Lib.hid (HK.out w1 b1)
        clear b1
        go_wp2_with fail
        refine (CR.out _ B1.out).mono ?_
        rintro e w2 ⟨u, rfl, ho, b2⟩
        have K2 := Lib.hid (K1.out.all b2)
        have B2 := Lib.hid (bt B1.out b2)
        obtain ⟨g, cap, rfl, hc⟩ := own_rowF ho (by simp)
        have e0 : w2.cell? ⟨g, 0, none⟩ = some (.int .i64 a) := hc 0 _ rfl
        have e1 : w2.cell? ⟨g, 1, none⟩ = some (.int .i64 b) := hc 1 _ rfl
        have e2 : w2.cell? ⟨g, 2, none⟩ = some (.int .i64 c) := hc 2 _ rfl
        have e3 : w2.cell? ⟨g, 3, none⟩ = some (.int .i64 d) := hc 3 _ rfl
        have hln : ((some [a, b, c, d]).getD []).length = 4 := rfl
        rw [hln]
        have hg : g < w2.heap.size := World.block_lt_of_cell? w2 _ e0
        have hne : w2.heap.size ≠ g := Nat.ne_of_gt hg
        clear b2 ho hc hln
        go_wp2_with fail
        go_region_held3 (fun w' => w'.cell? ⟨g, 0, none⟩ = some (.int .i64 a) ∧ w'.cell? ⟨g, 1, none⟩ = some (.int .i64 b) ∧ w'.cell? ⟨g, 2, none⟩ = some (.int .i64 c) ∧ w'.cell? ⟨g, 3, none⟩ = some (.int .i64 d)) (go_keep) (fail)
        all_goals (
          have X0 := Lib.hid (show RAt ((w2.drew).alloc (.cells #[.string ⟨p.toArray⟩, .int .i64 a, .int .i64 b, .int .i64 c, .int .i64 d] 39)) w2.heap.size ⟨p, a, b, c, d⟩ from Whole.new w2.drew _ _)
          have BX := Lib.hid ((show Below w2.heap.size w2 w2.drew from below_drewW _ 1).alloc (Nat.le_refl _) (.cells #[.string ⟨p.toArray⟩, .int .i64 a, .int .i64 b, .int .i64 c, .int .i64 d] 39))
          change Exit.then _ _ _ _ ((w2.drew).alloc (.cells #[.string ⟨p.toArray⟩, .int .i64 a, .int .i64 b, .int .i64 c, .int .i64 d] 39))
          generalize (w2.drew).alloc (.cells #[.string ⟨p.toArray⟩, .int .i64 a, .int .i64 b, .int .i64 c, .int .i64 d] 39) = W4 at *
          have KX := Lib.hid (K2.out.all BX.out)
          have B4 := Lib.hid (bt B2.out BX.out)
          clear BX K2 e0 e1 e2 e3 hne hg
          generalize w2.heap.size = gX at *
          obtain ⟨x0, x1, x2, x3, x4⟩ := X0.out.five
          simp only [] at x0 x1 x2 x3 x4
          go_wp2_with fail
          refine (CW.out W4).mono ?_
          rintro e w5 ⟨rfl, b5⟩
          have XW5 := Lib.hid (X0.out.all b5)
          have KW := Lib.hid (KX.out.all b5)
          have B5 := Lib.hid (bt B4.out b5)
          clear b5 x0 x1 x2 x3 x4 X0 KX
          have RW := Lib.hid (KW.out.put Fo.zR)
          have RB := Lib.hid (below_putR B5.out (Nat.le_refl _) Fo.zR)
          obtain ⟨z0, z1, z2, z3, z4⟩ := KW.out.five
          have f0 := KW.out.free5 0; have f1 := KW.out.free5 1; have f2 := KW.out.free5 2; have f3 := KW.out.free5 3; have f4 := KW.out.free5 4
          go_wp2_with fail
          change bodyPost _ _ _ _ _ (putR w5 w.heap.size Fo.zR)
          generalize putR w5 w.heap.size Fo.zR = WZ at *
          obtain ⟨d0, d1, d2, d3, d4⟩ := RW.out.five
          exact bodyPost_ret (v := .tuple #[.agg #[.string ⟨#[]⟩, .int .i64 0, .int .i64 0, .int .i64 0, .int .i64 0], .bool false]) (by simp [results, Tryd.results21, go_sem, d0, d1, d2, d3, d4, Fo.zR]) rfl (RRs.no hr.out RB.out))
      | true =>
        have hr : Hid ((some [a, b, c, d]).bind (Fo.s4 p) = some ⟨p, a, b, c, d⟩) := Lib.hid (Fo.s4_ok hx)
        rw [hx] at CW
        clear hx hrl
        unfold boxStd Fo.zR at C HB HK
        go_enter Tryd.func21, Tryd.ntmps21
        go_wp2_with fail
        refine C.out.mono ?_
        rintro e w1 ⟨rfl, b1⟩
        have B1 := Lib.hid (bt HB.out b1)
        have K1 := Lib.hid (HK.out w1 b1)
        clear b1
        go_wp2_with fail
        refine (CR.out _ B1.out).mono ?_
        rintro e w2 ⟨u, rfl, ho, b2⟩
        have K2 := Lib.hid (K1.out.all b2)
        have B2 := Lib.hid (bt B1.out b2)
        obtain ⟨g, cap, rfl, hc⟩ := own_rowF ho (by simp)
        have e0 : w2.cell? ⟨g, 0, none⟩ = some (.int .i64 a) := hc 0 _ rfl
        have e1 : w2.cell? ⟨g, 1, none⟩ = some (.int .i64 b) := hc 1 _ rfl
        have e2 : w2.cell? ⟨g, 2, none⟩ = some (.int .i64 c) := hc 2 _ rfl
        have e3 : w2.cell? ⟨g, 3, none⟩ = some (.int .i64 d) := hc 3 _ rfl
        have hln : ((some [a, b, c, d]).getD []).length = 4 := rfl
        rw [hln]
        have hg : g < w2.heap.size := World.block_lt_of_cell? w2 _ e0
        have hne : w2.heap.size ≠ g := Nat.ne_of_gt hg
        clear b2 ho hc hln
        go_wp2_with fail
        go_region_held3 (fun w' => w'.cell? ⟨g, 0, none⟩ = some (.int .i64 a) ∧ w'.cell? ⟨g, 1, none⟩ = some (.int .i64 b) ∧ w'.cell? ⟨g, 2, none⟩ = some (.int .i64 c) ∧ w'.cell? ⟨g, 3, none⟩ = some (.int .i64 d)) (go_keep) (fail)
        all_goals (
          have X0 := Lib.hid (show RAt ((w2.drew).alloc (.cells #[.string ⟨p.toArray⟩, .int .i64 a, .int .i64 b, .int .i64 c, .int .i64 d] 39)) w2.heap.size ⟨p, a, b, c, d⟩ from Whole.new w2.drew _ _)
          have BX := Lib.hid ((show Below w2.heap.size w2 w2.drew from below_drewW _ 1).alloc (Nat.le_refl _) (.cells #[.string ⟨p.toArray⟩, .int .i64 a, .int .i64 b, .int .i64 c, .int .i64 d] 39))
          change Exit.then _ _ _ _ ((w2.drew).alloc (.cells #[.string ⟨p.toArray⟩, .int .i64 a, .int .i64 b, .int .i64 c, .int .i64 d] 39))
          generalize (w2.drew).alloc (.cells #[.string ⟨p.toArray⟩, .int .i64 a, .int .i64 b, .int .i64 c, .int .i64 d] 39) = W4 at *
          have KX := Lib.hid (K2.out.all BX.out)
          have B4 := Lib.hid (bt B2.out BX.out)
          clear BX K2 e0 e1 e2 e3 hne hg
          generalize w2.heap.size = gX at *
          obtain ⟨x0, x1, x2, x3, x4⟩ := X0.out.five
          simp only [] at x0 x1 x2 x3 x4
          go_wp2_with fail
          refine (CW.out W4).mono ?_
          rintro e w5 ⟨rfl, b5⟩
          have XW5 := Lib.hid (X0.out.all b5)
          have KW := Lib.hid (KX.out.all b5)
          have B5 := Lib.hid (bt B4.out b5)
          clear b5 x0 x1 x2 x3 x4 X0 KX
          obtain ⟨x0, x1, x2, x3, x4⟩ := XW5.out.five
          obtain ⟨z0, z1, z2, z3, z4⟩ := KW.out.five
          have f0 := KW.out.free5 0; have f1 := KW.out.free5 1; have f2 := KW.out.free5 2; have f3 := KW.out.free5 3; have f4 := KW.out.free5 4
          have RW := Lib.hid (KW.out.put ⟨p, a, b, c, d⟩)
          have RB := Lib.hid (below_putR B5.out (Nat.le_refl _) ⟨p, a, b, c, d⟩)
          simp only [] at x0 x1 x2 x3 x4
          go_wp2_with fail
          change bodyPost _ _ _ _ _ (putR w5 w.heap.size ⟨p, a, b, c, d⟩)
          generalize putR w5 w.heap.size ⟨p, a, b, c, d⟩ = WZ at *
          obtain ⟨d0, d1, d2, d3, d4⟩ := RW.out.five
          simp only [] at d0 d1 d2 d3 d4
          exact bodyPost_ret (v := .tuple #[.agg #[.string ⟨p.toArray⟩, .int .i64 a, .int .i64 b, .int .i64 c, .int .i64 d], .bool true]) (by simp [results, Tryd.results21, go_sem, d0, d1, d2, d3, d4]) rfl (RRs.yes hr.out RB.out))
    · have hr : Hid ((some zs).bind (Fo.s4 p) = none) := Lib.hid (Fo.s4_len hz)
      have hz2 : ((zs.length : Int) != 4) = true := by rw [bne_iff_ne]; omega
      clear hrl hz
      unfold boxStd Fo.zR at C HB HK
      go_enter Tryd.func21, Tryd.ntmps21
      go_wp2_with fail
      refine C.out.mono ?_
      rintro e w1 ⟨rfl, b1⟩
      have B1 := Lib.hid (bt HB.out b1)
      have K1 := Lib.hid (HK.out w1 b1)
      clear b1
      go_wp2_with fail
      refine (CR.out _ B1.out).mono ?_
      rintro e w2 ⟨u, rfl, ho, b2⟩
      have KW := Lib.hid (K1.out.all b2)
      have B2 := Lib.hid (bt B1.out b2)
      have hln : ((some zs).getD []).length = zs.length := rfl
      obtain ⟨ua, ucap, rfl⟩ := (Own.sl ho).form
      rw [hln]
      clear b2 ho hln
      have RW := Lib.hid (KW.out.put Fo.zR)
      have RB := Lib.hid (below_putR B2.out (Nat.le_refl _) Fo.zR)
      obtain ⟨z0, z1, z2, z3, z4⟩ := KW.out.five
      have f0 := KW.out.free5 0; have f1 := KW.out.free5 1; have f2 := KW.out.free5 2; have f3 := KW.out.free5 3; have f4 := KW.out.free5 4
      go_wp2_with fail
      change bodyPost _ _ _ _ _ (putR w2 w.heap.size Fo.zR)
      generalize putR w2 w.heap.size Fo.zR = WZ at *
      obtain ⟨d0, d1, d2, d3, d4⟩ := RW.out.five
      exact bodyPost_ret (v := .tuple #[.agg #[.string ⟨#[]⟩, .int .i64 0, .int .i64 0, .int .i64 0, .int .i64 0], .bool false]) (by simp [results, Tryd.results21, go_sem, d0, d1, d2, d3, d4, Fo.zR]) rfl (RRs.no hr.out RB.out)
set_option maxHeartbeats 12800000 in
theorem l10Read_any (s : ByteArray) (w : World) (hs : s.size ≤ 1048576) :
    Calls Tryd.prog 43 #[.string s] w (RRs w (Fo.rst s.data.toList)) := by
  have HB := Lib.hid (boxStd_below w Fo.zR 39)
  have C := Lib.hid (l01Split_any s 32 (boxStd w Fo.zR 39) hs)
  have HK : Hid (∀ w1, Below (boxStd w Fo.zR 39).heap.size (boxStd w Fo.zR 39) w1 → RAt w1 w.heap.size Fo.zR) := Lib.hid (fun w1 h => (Whole.new w _ _).all h)
  have hpl := spl_part_len 32 s.data.toList
  have hsl : s.data.toList.length = s.size := by simp
  rw [hsl] at hpl
  have hpos := List.length_pos_iff.2 (spl_ne 32 s.data.toList)
  rcases (show ((spl 32 s.data.toList).length ≠ 2 ∧ Fo.rst s.data.toList = none) ∨ ∃ p r, spl 32 s.data.toList = [p, r] from by
    rcases spl_two 32 s.data.toList with ⟨h, hs⟩ | ⟨p, r, _, _, _, hs⟩ | ⟨p, r, _, _, _, hs⟩
    · exact Or.inl ⟨by rw [hs]; simp, Fo.rst_one hs⟩
    · exact Or.inr ⟨p, r, hs⟩
    · exact Or.inl ⟨by omega, Fo.rst_many hs⟩) with ⟨h2, hr0⟩ | ⟨p, r, hP⟩
  · have hr := Lib.hid hr0
    have hz2 : (((spl 32 s.data.toList).length : Int) != 2) = true := by rw [bne_iff_ne]; omega
    clear hpl hsl hr0 h2
    generalize spl 32 s.data.toList = P at *
    generalize Fo.rst s.data.toList = o at *
    unfold boxStd Fo.zR at C HB HK
    go_enter Tryd.func43, Tryd.ntmps43
    go_wp2_with fail
    refine C.out.mono ?_
    rintro e w1 ⟨v, rfl, hst, b1⟩
    obtain ⟨gw, cap, rfl, hg, hc⟩ := strs_form hst hpos
    have B1 := Lib.hid (bt HB.out b1)
    have KW := Lib.hid (HK.out w1 b1)
    clear b1 hst hc hg
    have RW := Lib.hid (KW.out.put Fo.zR)
    have RB := Lib.hid (below_putR B1.out (Nat.le_refl _) Fo.zR)
    obtain ⟨z0, z1, z2, z3, z4⟩ := KW.out.five
    have f0 := KW.out.free5 0; have f1 := KW.out.free5 1; have f2 := KW.out.free5 2; have f3 := KW.out.free5 3; have f4 := KW.out.free5 4
    go_wp2_with fail
    change bodyPost _ _ _ _ _ (putR w1 w.heap.size Fo.zR)
    generalize putR w1 w.heap.size Fo.zR = WZ at *
    obtain ⟨d0, d1, d2, d3, d4⟩ := RW.out.five
    exact bodyPost_ret (v := .tuple #[.agg #[.string ⟨#[]⟩, .int .i64 0, .int .i64 0, .int .i64 0, .int .i64 0], .bool false]) (by simp [results, Tryd.results43, go_sem, d0, d1, d2, d3, d4, Fo.zR]) rfl (RRs.no hr.out RB.out)
  · have hrt := Lib.hid (Fo.rst_two hP)
    rw [hP] at C hpl hpos
    have hrl1 : r.length ≤ s.size := hpl r (by simp)
    have hpl1 : p.length ≤ s.size := hpl p (by simp)
    have CR := Lib.hid (fun W => specReadList_any ⟨r.toArray⟩ W (by rw [sz_mk]; omega))
    have hrr : (⟨r.toArray⟩ : ByteArray).data.toList = r := by simp
    rw [hrr] at CR
    rw [hrt.out]
    have hp6 : p.length ≤ 1048576 := by omega
    clear hsl hrr hpl hP hrt hrl1 hpl1
    generalize hrl : rl r = o at *
    cases o with
    | none =>
      have hr : Hid ((none : Option (List Int)).bind (Fo.s4 p) = none) := Lib.hid rfl
      clear hrl
      unfold boxStd Fo.zR at C HB HK
      go_enter Tryd.func43, Tryd.ntmps43
      go_wp2_with fail
      refine C.out.mono ?_
      rintro e w1 ⟨v, rfl, hst, b1⟩
      obtain ⟨gw, cap, rfl, hg, hc⟩ := strs_form hst hpos
      have k1 : w1.cell? ⟨gw, 1, none⟩ = some (.string ⟨r.toArray⟩) := hc 1 _ rfl
      have B1 := Lib.hid (bt HB.out b1)
      have K1 := Lib.hid (HK.out w1 b1)
      clear b1 hst hc hg
      go_wp2_with fail
      refine (CR.out _).mono ?_
      rintro e w2 ⟨u, rfl, ho, b2⟩
      have KW := Lib.hid (K1.out.all b2)
      have B2 := Lib.hid (bt B1.out b2)
      obtain ⟨ua, ucap, rfl⟩ := (Own.sl ho).form
      clear b2 ho k1
      have RW := Lib.hid (KW.out.put Fo.zR)
      have RB := Lib.hid (below_putR B2.out (Nat.le_refl _) Fo.zR)
      obtain ⟨z0, z1, z2, z3, z4⟩ := KW.out.five
      have f0 := KW.out.free5 0; have f1 := KW.out.free5 1; have f2 := KW.out.free5 2; have f3 := KW.out.free5 3; have f4 := KW.out.free5 4
      go_wp2_with fail
      change bodyPost _ _ _ _ _ (putR w2 w.heap.size Fo.zR)
      generalize putR w2 w.heap.size Fo.zR = WZ at *
      obtain ⟨d0, d1, d2, d3, d4⟩ := RW.out.five
      exact bodyPost_ret (v := .tuple #[.agg #[.string ⟨#[]⟩, .int .i64 0, .int .i64 0, .int .i64 0, .int .i64 0], .bool false]) (by simp [results, Tryd.results43, go_sem, d0, d1, d2, d3, d4, Fo.zR]) rfl (RRs.no hr.out RB.out)
    | some zs =>
      by_cases hz : zs.length = 4
      · obtain ⟨a, b, c, d, rfl⟩ := Fo.fourF hz
        clear hz
        cases hx : Fo.ok1 ⟨p, a, b, c, d⟩ with
        | false =>
          have hr : Hid ((some [a, b, c, d]).bind (Fo.s4 p) = none) := Lib.hid (Fo.s4_bad hx)
          clear hrl
          unfold boxStd Fo.zR at C HB HK
          go_enter Tryd.func43, Tryd.ntmps43
          go_wp2_with fail
          refine C.out.mono ?_
          rintro e w1 ⟨v, rfl, hst, b1⟩
          obtain ⟨gw, cap, rfl, hgw, hcw⟩ := strs_form hst hpos
          have k0 := Lib.hid (hcw 0 _ rfl)
          have k1 : w1.cell? ⟨gw, 1, none⟩ = some (.string ⟨r.toArray⟩) := hcw 1 _ rfl
          have B1 := Lib.hid (bt HB.out b1)
          have K1 := Lib.hid (HK.out w1 b1)
          clear b1 hst hcw
          go_wp2_with fail
          refine (CR.out _).mono ?_
          rintro e w2 ⟨u, rfl, ho, b2⟩
          have K2 := Lib.hid (K1.out.all b2)
          have B2 := Lib.hid (bt B1.out b2)
          have k2 : w2.cell? ⟨gw, 0, none⟩ = some (.string ⟨p.toArray⟩) := (b2.cell (p := ⟨gw, 0, none⟩) hgw).trans k0.out
          have hgw2 : w2.heap.size ≠ gw := Nat.ne_of_gt (Nat.lt_of_lt_of_le hgw b2.size)
          obtain ⟨g, cap, rfl, hc⟩ := own_rowF ho (by simp)
          have e0 : w2.cell? ⟨g, 0, none⟩ = some (.int .i64 a) := hc 0 _ rfl
          have e1 : w2.cell? ⟨g, 1, none⟩ = some (.int .i64 b) := hc 1 _ rfl
          have e2 : w2.cell? ⟨g, 2, none⟩ = some (.int .i64 c) := hc 2 _ rfl
          have e3 : w2.cell? ⟨g, 3, none⟩ = some (.int .i64 d) := hc 3 _ rfl
          have hln : ((some [a, b, c, d]).getD []).length = 4 := rfl
          rw [hln]
          have hg : g < w2.heap.size := World.block_lt_of_cell? w2 _ e0
          have hne : w2.heap.size ≠ g := Nat.ne_of_gt hg
          clear b2 ho hc hln k1 k0 hgw
          go_wp2_with fail
          go_region_held3 (fun w' => w'.cell? ⟨g, 0, none⟩ = some (.int .i64 a) ∧ w'.cell? ⟨g, 1, none⟩ = some (.int .i64 b) ∧ w'.cell? ⟨g, 2, none⟩ = some (.int .i64 c) ∧ w'.cell? ⟨g, 3, none⟩ = some (.int .i64 d) ∧ w'.cell? ⟨gw, 0, none⟩ = some (.string ⟨p.toArray⟩)) (go_keep) (fail)
          all_goals (
            have X0 := Lib.hid (show RAt ((w2.drew).alloc (.cells #[.string ⟨p.toArray⟩, .int .i64 a, .int .i64 b, .int .i64 c, .int .i64 d] 39)) w2.heap.size ⟨p, a, b, c, d⟩ from Whole.new w2.drew _ _)
            have BX := Lib.hid ((show Below w2.heap.size w2 w2.drew from below_drewW _ 1).alloc (Nat.le_refl _) (.cells #[.string ⟨p.toArray⟩, .int .i64 a, .int .i64 b, .int .i64 c, .int .i64 d] 39))
            change Exit.then _ _ _ _ ((w2.drew).alloc (.cells #[.string ⟨p.toArray⟩, .int .i64 a, .int .i64 b, .int .i64 c, .int .i64 d] 39))
            generalize (w2.drew).alloc (.cells #[.string ⟨p.toArray⟩, .int .i64 a, .int .i64 b, .int .i64 c, .int .i64 d] 39) = W4 at *
            have KX := Lib.hid (K2.out.all BX.out)
            have B4 := Lib.hid (bt B2.out BX.out)
            clear BX K2 e0 e1 e2 e3 hne hg k2 hgw2
            generalize w2.heap.size = gX at *
            obtain ⟨x0, x1, x2, x3, x4⟩ := X0.out.five
            simp only [] at x0 x1 x2 x3 x4
            have CO := Lib.hid (l10One_any ⟨p, a, b, c, d⟩ gX 0 W4 X0.out.cells hp6)
            rw [hx] at CO
            have XW5 := X0
            have KW := KX
            go_wp2_with fail
            refine CO.out.mono ?_
            rintro e w4 ⟨rfl, rfl⟩
            clear x0 x1 x2 x3 x4
            have RW := Lib.hid (KW.out.put Fo.zR)
            have RB := Lib.hid (below_putR B4.out (Nat.le_refl _) Fo.zR)
            obtain ⟨z0, z1, z2, z3, z4⟩ := KW.out.five
            have f0 := KW.out.free5 0; have f1 := KW.out.free5 1; have f2 := KW.out.free5 2; have f3 := KW.out.free5 3; have f4 := KW.out.free5 4
            go_wp2_with fail
            change bodyPost _ _ _ _ _ (putR W4 w.heap.size Fo.zR)
            generalize putR W4 w.heap.size Fo.zR = WZ at *
            obtain ⟨d0, d1, d2, d3, d4⟩ := RW.out.five
            exact bodyPost_ret (v := .tuple #[.agg #[.string ⟨#[]⟩, .int .i64 0, .int .i64 0, .int .i64 0, .int .i64 0], .bool false]) (by simp [results, Tryd.results43, go_sem, d0, d1, d2, d3, d4, Fo.zR]) rfl (RRs.no hr.out RB.out))
        | true =>
          have hr : Hid ((some [a, b, c, d]).bind (Fo.s4 p) = some ⟨p, a, b, c, d⟩) := Lib.hid (Fo.s4_ok hx)
          clear hrl
          unfold boxStd Fo.zR at C HB HK
          go_enter Tryd.func43, Tryd.ntmps43
          go_wp2_with fail
          refine C.out.mono ?_
          rintro e w1 ⟨v, rfl, hst, b1⟩
          obtain ⟨gw, cap, rfl, hgw, hcw⟩ := strs_form hst hpos
          have k0 := Lib.hid (hcw 0 _ rfl)
          have k1 : w1.cell? ⟨gw, 1, none⟩ = some (.string ⟨r.toArray⟩) := hcw 1 _ rfl
          have B1 := Lib.hid (bt HB.out b1)
          have K1 := Lib.hid (HK.out w1 b1)
          clear b1 hst hcw
          go_wp2_with fail
          refine (CR.out _).mono ?_
          rintro e w2 ⟨u, rfl, ho, b2⟩
          have K2 := Lib.hid (K1.out.all b2)
          have B2 := Lib.hid (bt B1.out b2)
          have k2 : w2.cell? ⟨gw, 0, none⟩ = some (.string ⟨p.toArray⟩) := (b2.cell (p := ⟨gw, 0, none⟩) hgw).trans k0.out
          have hgw2 : w2.heap.size ≠ gw := Nat.ne_of_gt (Nat.lt_of_lt_of_le hgw b2.size)
          obtain ⟨g, cap, rfl, hc⟩ := own_rowF ho (by simp)
          have e0 : w2.cell? ⟨g, 0, none⟩ = some (.int .i64 a) := hc 0 _ rfl
          have e1 : w2.cell? ⟨g, 1, none⟩ = some (.int .i64 b) := hc 1 _ rfl
          have e2 : w2.cell? ⟨g, 2, none⟩ = some (.int .i64 c) := hc 2 _ rfl
          have e3 : w2.cell? ⟨g, 3, none⟩ = some (.int .i64 d) := hc 3 _ rfl
          have hln : ((some [a, b, c, d]).getD []).length = 4 := rfl
          rw [hln]
          have hg : g < w2.heap.size := World.block_lt_of_cell? w2 _ e0
          have hne : w2.heap.size ≠ g := Nat.ne_of_gt hg
          clear b2 ho hc hln k1 k0 hgw
          go_wp2_with fail
          go_region_held3 (fun w' => w'.cell? ⟨g, 0, none⟩ = some (.int .i64 a) ∧ w'.cell? ⟨g, 1, none⟩ = some (.int .i64 b) ∧ w'.cell? ⟨g, 2, none⟩ = some (.int .i64 c) ∧ w'.cell? ⟨g, 3, none⟩ = some (.int .i64 d) ∧ w'.cell? ⟨gw, 0, none⟩ = some (.string ⟨p.toArray⟩)) (go_keep) (fail)
          all_goals (
            have X0 := Lib.hid (show RAt ((w2.drew).alloc (.cells #[.string ⟨p.toArray⟩, .int .i64 a, .int .i64 b, .int .i64 c, .int .i64 d] 39)) w2.heap.size ⟨p, a, b, c, d⟩ from Whole.new w2.drew _ _)
            have BX := Lib.hid ((show Below w2.heap.size w2 w2.drew from below_drewW _ 1).alloc (Nat.le_refl _) (.cells #[.string ⟨p.toArray⟩, .int .i64 a, .int .i64 b, .int .i64 c, .int .i64 d] 39))
            change Exit.then _ _ _ _ ((w2.drew).alloc (.cells #[.string ⟨p.toArray⟩, .int .i64 a, .int .i64 b, .int .i64 c, .int .i64 d] 39))
            generalize (w2.drew).alloc (.cells #[.string ⟨p.toArray⟩, .int .i64 a, .int .i64 b, .int .i64 c, .int .i64 d] 39) = W4 at *
            have KX := Lib.hid (K2.out.all BX.out)
            have B4 := Lib.hid (bt B2.out BX.out)
            clear BX K2 e0 e1 e2 e3 hne hg k2 hgw2
            generalize w2.heap.size = gX at *
            obtain ⟨x0, x1, x2, x3, x4⟩ := X0.out.five
            simp only [] at x0 x1 x2 x3 x4
            have CO := Lib.hid (l10One_any ⟨p, a, b, c, d⟩ gX 0 W4 X0.out.cells hp6)
            rw [hx] at CO
            have XW5 := X0
            have KW := KX
            go_wp2_with fail
            refine CO.out.mono ?_
            rintro e w4 ⟨rfl, rfl⟩
            clear x0 x1 x2 x3 x4
            obtain ⟨x0, x1, x2, x3, x4⟩ := XW5.out.five
            obtain ⟨z0, z1, z2, z3, z4⟩ := KW.out.five
            have f0 := KW.out.free5 0; have f1 := KW.out.free5 1; have f2 := KW.out.free5 2; have f3 := KW.out.free5 3; have f4 := KW.out.free5 4
            have RW := Lib.hid (KW.out.put ⟨p, a, b, c, d⟩)
            have RB := Lib.hid (below_putR B4.out (Nat.le_refl _) ⟨p, a, b, c, d⟩)
            simp only [] at x0 x1 x2 x3 x4
            go_wp2_with fail
            change bodyPost _ _ _ _ _ (putR W4 w.heap.size ⟨p, a, b, c, d⟩)
            generalize putR W4 w.heap.size ⟨p, a, b, c, d⟩ = WZ at *
            obtain ⟨d0, d1, d2, d3, d4⟩ := RW.out.five
            simp only [] at d0 d1 d2 d3 d4
            exact bodyPost_ret (v := .tuple #[.agg #[.string ⟨p.toArray⟩, .int .i64 a, .int .i64 b, .int .i64 c, .int .i64 d], .bool true]) (by simp [results, Tryd.results43, go_sem, d0, d1, d2, d3, d4]) rfl (RRs.yes hr.out RB.out))
      · have hr : Hid ((some zs).bind (Fo.s4 p) = none) := Lib.hid (Fo.s4_len hz)
        have hz2 : ((zs.length : Int) != 4) = true := by rw [bne_iff_ne]; omega
        clear hrl hz
        unfold boxStd Fo.zR at C HB HK
        go_enter Tryd.func43, Tryd.ntmps43
        go_wp2_with fail
        refine C.out.mono ?_
        rintro e w1 ⟨v, rfl, hst, b1⟩
        obtain ⟨gw, cap, rfl, hg, hc⟩ := strs_form hst hpos
        have k1 : w1.cell? ⟨gw, 1, none⟩ = some (.string ⟨r.toArray⟩) := hc 1 _ rfl
        have B1 := Lib.hid (bt HB.out b1)
        have K1 := Lib.hid (HK.out w1 b1)
        clear b1 hst hc hg
        go_wp2_with fail
        refine (CR.out _).mono ?_
        rintro e w2 ⟨u, rfl, ho, b2⟩
        have KW := Lib.hid (K1.out.all b2)
        have B2 := Lib.hid (bt B1.out b2)
        have hln : ((some zs).getD []).length = zs.length := rfl
        obtain ⟨ua, ucap, rfl⟩ := (Own.sl ho).form
        rw [hln]
        clear b2 ho hln k1
        have RW := Lib.hid (KW.out.put Fo.zR)
        have RB := Lib.hid (below_putR B2.out (Nat.le_refl _) Fo.zR)
        obtain ⟨z0, z1, z2, z3, z4⟩ := KW.out.five
        have f0 := KW.out.free5 0; have f1 := KW.out.free5 1; have f2 := KW.out.free5 2; have f3 := KW.out.free5 3; have f4 := KW.out.free5 4
        go_wp2_with fail
        change bodyPost _ _ _ _ _ (putR w2 w.heap.size Fo.zR)
        generalize putR w2 w.heap.size Fo.zR = WZ at *
        obtain ⟨d0, d1, d2, d3, d4⟩ := RW.out.five
        exact bodyPost_ret (v := .tuple #[.agg #[.string ⟨#[]⟩, .int .i64 0, .int .i64 0, .int .i64 0, .int .i64 0], .bool false]) (by simp [results, Tryd.results43, go_sem, d0, d1, d2, d3, d4, Fo.zR]) rfl (RRs.no hr.out RB.out)
theorem specReadStand_any (s : ByteArray) (w : World) (hs : s.size ≤ 1048576) :
    Calls Tryd.prog 20 #[.string s] w (RRs w (Fo.rst s.data.toList)) := by
  have HB := Lib.hid (boxStd_below w Fo.zR 39)
  have C := Lib.hid (l10Read_any s (boxStd w Fo.zR 39) hs)
  have HK : Hid (∀ w1, Below (boxStd w Fo.zR 39).heap.size (boxStd w Fo.zR 39) w1 → RAt w1 w.heap.size Fo.zR) := Lib.hid (fun w1 h => (Whole.new w _ _).all h)
  generalize Fo.rst s.data.toList = o at *
  unfold RRs at *
  generalize o.getD Fo.zR = x at *
  generalize o.isSome = y at *
  unfold boxStd Fo.zR at C HB HK
  go_enter Tryd.func20, Tryd.ntmps20
  go_wp2_with fail
  refine C.out.mono ?_
  rintro e w1 ⟨rfl, b1⟩
  have B1 := Lib.hid (bt HB.out b1)
  have KW := Lib.hid (HK.out w1 b1)
  clear b1
  obtain ⟨z0, z1, z2, z3, z4⟩ := KW.out.five
  have f0 := KW.out.free5 0; have f1 := KW.out.free5 1; have f2 := KW.out.free5 2; have f3 := KW.out.free5 3; have f4 := KW.out.free5 4
  have RW := Lib.hid (KW.out.put x)
  have RB := Lib.hid (below_putR B1.out (Nat.le_refl _) x)
  go_wp2_with fail
  change bodyPost _ _ _ _ _ (putR w1 w.heap.size x)
  generalize putR w1 w.heap.size x = WZ at *
  obtain ⟨d0, d1, d2, d3, d4⟩ := RW.out.five
  exact bodyPost_ret (v := .tuple #[.agg #[.string ⟨x.id.toArray⟩, .int .i64 x.tr, .int .i64 x.he, .int .i64 x.co, .int .i64 x.ga], .bool y]) (by simp [results, Tryd.results20, go_sem, d0, d1, d2, d3, d4]) rfl ⟨rfl, RB.out⟩
end Go.Proofs.YtecobplmkdlagaaDoor
