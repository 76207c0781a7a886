/-
  A field in wind, by the program (chapter 6): the state that its steps share, and what one change of a cell leaves. No condition of its own.
-/
import Derived.Test.YtmidihmbehaegaaDoorFdU
import Derived.Test.YtmidihmbehaegaaDoorFdM
import Derived.Maps.Own
import Derived.Maps.OwnOps
import Derived.Maps.OwnSet
import Derived.Maps.Views
namespace Go.Proofs.YtmidihmbehaegaaDoor
open Go.RowKit Go.Shelf Go.Deep Go.Maps Go.WideShapes
set_option linter.unusedVariables false
set_option maxRecDepth 100000

theorem lawI : Keyed Tryd.prog 2 := int_keyed Tryd.underlying2
/-- the field at p: its masses lie in row A, those before the step in row X; the map M has the cells that hold too much as its keys -/
structure DR (B : Nat) (w : World) (p : Nat) (r c : Int) (n A ca X cb M : Nat) (ys bs : List Int) (m : DataW Unit) (q : Nat) : Prop where
  box : Whole w p 58 #[.int .i64 r, .int .i64 c, .slice (some ⟨A, 0, none⟩) n ca, .slice (some ⟨X, 0, none⟩) n cb, .map (some M)]
  row : Own B w (.slice (some ⟨A, 0, none⟩) n ca) ys
  old : Own B w (.slice (some ⟨X, 0, none⟩) n cb) bs
  map : w.ownsMap Tryd.prog 2 (plainElem (H := Unit) Tryd.prog 4) M q m
  pB : B ≤ p
  AB : B ≤ A
  XB : B ≤ X
  MB : B ≤ M
  pA : p ≠ A
  pX : p ≠ X
  AX : A ≠ X
  pM : p ≠ M
  AM : A ≠ M
  XM : X ≠ M
section
variable {B : Nat} {w w' : World} {p : Nat} {r c : Int} {n A ca X cb M : Nat} {ys bs : List Int} {m : DataW Unit} {q : Nat}
theorem DR.put (h : DR B w p r c n A ca X cb M ys bs m q) (k : Nat) (x : Int) : DR B (w.setCell ⟨A, k, none⟩ (.int .i64 x)) p r c n A ca X cb M (ys.set k x) bs m q := by
  have hg : w.grownBy (w.setCell ⟨A, k, none⟩ (.int .i64 x)) (some A) := only_setCell (p := ⟨A, k, none⟩) (World.grownBy.refl _ _) rfl _
  exact ⟨h.box.far hg h.pA, set_own h.row k x, Own.other h.old hg (fun e => h.AX e.symm), World.ownsMap.setCell h.map (fun e => h.AM e.symm) _, h.pB, h.AB, h.XB, h.MB, h.pA, h.pX, h.AX, h.pM, h.AM, h.XM⟩
theorem DR.turn (h : DR B w p r c n A ca X cb M ys bs m q) {m' : DataW Unit} {q' : Nat} (hg : w.grownBy w' (some M)) (hm : w'.ownsMap Tryd.prog 2 (plainElem (H := Unit) Tryd.prog 4) M q' m') : DR B w' p r c n A ca X cb M ys bs m' q' :=
  ⟨h.box.far hg h.pM, Own.other h.row hg h.AM, Own.other h.old hg h.XM, hm, h.pB, h.AB, h.XB, h.MB, h.pA, h.pX, h.AX, h.pM, h.AM, h.XM⟩
theorem DR.all (h : DR B w p r c n A ca X cb M ys bs m q) (hb : Below w.heap.size w w') : DR B w' p r c n A ca X cb M ys bs m q := by
  have hlt := World.ownsMap.lt h.map
  exact ⟨h.box.all hb, h.row.belowAll hb, h.old.belowAll hb, by
    obtain ⟨es, clock, hb', F, hs, hD⟩ := h.map
    exact ⟨es, clock, (hb.block M hlt).trans hb', F, hs, hD⟩, h.pB, h.AB, h.XB, h.MB, h.pA, h.pX, h.AX, h.pM, h.AM, h.XM⟩
theorem DR.five (h : DR B w p r c n A ca X cb M ys bs m q) : w.cell? ⟨p, 0, none⟩ = some (.int .i64 r) ∧ w.cell? ⟨p, 1, none⟩ = some (.int .i64 c) ∧ w.cell? ⟨p, 2, none⟩ = some (.slice (some ⟨A, 0, none⟩) n ca) ∧ w.cell? ⟨p, 3, none⟩ = some (.slice (some ⟨X, 0, none⟩) n cb) ∧ w.cell? ⟨p, 4, none⟩ = some (.map (some M)) :=
  ⟨h.box.at_ 0, h.box.at_ 1, h.box.at_ 2, h.box.at_ 3, h.box.at_ 4⟩
end
/-- what a change of a cell leaves -/
def CH (B : Nat) (w : World) (p : Nat) (r c : Int) (n A ca X cb M : Nat) (ys bs : List Int) (m : DataW Unit) (q k : Nat) (x : Int) (e : Ending) (w' : World) : Prop :=
  ∃ m', e = .returned (.tuple #[]) ∧ DR B w' p r c n A ca X cb M (Fw.ad ys k x) bs m' (q + 1) ∧ (Fw.OF m ys → Fw.OF m' (Fw.ad ys k x)) ∧ Below B w w'
set_option maxHeartbeats 6400000 in
theorem change_any (B : Nat) (w : World) (p : Nat) (r c : Int) (n A ca X cb M : Nat) (ys bs : List Int) (m : DataW Unit) (q k : Nat) (x : Int) (h : DR B w p r c n A ca X cb M ys bs m q) (hk : k < ys.length) (hn : ys.length ≤ 64) (b1 : -1000000000000 ≤ ys.getD k 0 + x) (b2 : ys.getD k 0 + x ≤ 1000000000000) (hq : q ≤ 1000000) :
    Calls Tryd.prog 60 #[.pointer (some ⟨p, 0, none⟩), .int .i64 k, .int .i64 x] w (CH B w p r c n A ca X cb M ys bs m q k x) := by
  have hnl := own_len h.row
  subst hnl
  have hki : (k : Int) < (ys.length : Int) := by omega
  have H := Lib.hid h
  have HP := Lib.hid (h.put k (ys.getD k 0 + x))
  have HA : Hid (Fw.ad ys k x = ys.set k (ys.getD k 0 + x)) := Lib.hid rfl
  obtain ⟨c0, c1, c2, c3, c4⟩ := h.five
  have l1 := own_atD h.row hk
  have f1 := own_free h.row k
  have pA := h.pA
  have Ap : A ≠ p := fun e => pA e.symm
  have hkey : Hid (keyOf Tryd.prog 2 (.int .i64 (k : Int)) = some (Fw.kC k)) := Lib.hid (keyOf_int_mk Tryd.underlying2 (WalkArith.wf_i64 (by omega)))
  have HO1 : Hid (∀ d, Fw.okM (ys.getD k 0 + x) = false → Fw.OF m ys → Fw.OF (m.put (Fw.kC k) d) (Fw.ad ys k x)) := Lib.hid (fun d hm ho => ho.put hk (by rw [Fw.ad_at x hk]; exact hm) d)
  have HO2 : Hid (Fw.okM (ys.getD k 0 + x) = true → Fw.OF m ys → Fw.OF (m.del (Fw.kC k)) (Fw.ad ys k x)) := Lib.hid (fun hm ho => ho.del hk (by rw [Fw.ad_at x hk]; exact hm))
  have HB : Hid (Below B w (w.setCell ⟨A, k, none⟩ (.int .i64 (ys.getD k 0 + x)))) := Lib.hid ((Below.refl _ _).setCell (p := ⟨A, k, none⟩) h.AB _)
  have CM := Lib.hid (fun W => isDrift_any (ys.getD k 0 + x) W)
  have hMB := h.MB
  have hBw : B ≤ w.heap.size := by have := h.box.lt; have := h.pB; omega
  clear h
  generalize ys.getD k 0 = y at *
  cases hm : Fw.okM (y + x) with
  | true =>
    have HO := Lib.hid (HO2.out hm)
    rw [hm] at CM
    clear hm HO1 HO2
    go_enter Tryd.func60, Tryd.ntmps60
    go_wp2_with fail
    refine (CM.out _).mono ?_
    rintro e w2 ⟨rfl, rfl⟩
    go_wp2_with (at_delete; refine wpList_delete_own _ rfl _ _ 56 2 rfl 4 lawI Tryd.underlying56 _ M q m rfl HP.out.map _ _ rfl hkey.out ?_; intro w1 hown1 hturn1; have HM := Lib.hid hown1; have HT := Lib.hid hturn1.grown; clear hown1 hturn1)
    refine bodyPost_ret (v := .tuple #[]) (by simp [results, Tryd.results60, go_sem]) rfl ⟨_, rfl, by rw [HA.out]; exact HP.out.turn HT.out (HM.out.mono (Nat.le_succ _)), HO.out, HB.out.grown HT.out (by simpa [World.setCell] using hBw) (fun j hj => by simp only [Option.some.injEq] at hj; omega)⟩
  | false =>
    have HO := Lib.hid (fun d => HO1.out d hm)
    rw [hm] at CM
    clear hm HO1 HO2
    go_enter Tryd.func60, Tryd.ntmps60
    go_wp2_with fail
    refine (CM.out _).mono ?_
    rintro e w2 ⟨rfl, rfl⟩
    go_wp2_with (at_mapUpdate; refine wpList_mapUpdate_own _ rfl _ _ _ 56 rfl 2 4 lawI Tryd.underlying56 _ M q m rfl HP.out.map (by unfold maxLen; omega) _ _ _ rfl rfl hkey.out _ [] (plainElem_bool Tryd.underlying4 true) ?_; intro w1 hown1 hgrow1; have HM := Lib.hid hown1; have HT := Lib.hid hgrow1; clear hown1 hgrow1)
    refine bodyPost_ret (v := .tuple #[]) (by simp [results, Tryd.results60, go_sem]) rfl ⟨_, rfl, by rw [HA.out]; exact HP.out.turn HT.out HM.out, HO.out _, HB.out.grown HT.out (by simpa [World.setCell] using hBw) (fun j hj => by simp only [Option.some.injEq] at hj; omega)⟩
end Go.Proofs.YtmidihmbehaegaaDoor
