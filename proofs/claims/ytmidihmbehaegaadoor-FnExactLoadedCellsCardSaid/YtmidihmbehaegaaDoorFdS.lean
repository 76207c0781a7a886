/-
  SnowOver of chapter 6, by the program and by the model. No condition of its own.
-/
import Derived.Test.YtmidihmbehaegaaDoorFdV
namespace Go.Proofs.YtmidihmbehaegaaDoor
open Go.RowKit Go.Shelf Go.Deep
set_option linter.unusedVariables false
set_option maxRecDepth 100000

theorem stCode_any (a b : Bool) (w : World) : Calls Tryd.prog 52 #[.bool a, .bool b] w fun e w' => e = .returned (.int .i64 (Fw.cd a b)) ∧ w = w' := by
  cases a <;> cases b
  all_goals
    go_enter Tryd.func52, Tryd.ntmps52
    go_wp2
    go_ret
    exact ⟨rfl, rfl⟩
set_option maxHeartbeats 800000 in
theorem fieldCode_any (w : World) (r c : Int) (v : Value) (zs : List Int) (b : Bool) (hv : Sl w v zs) (hl : zs.length ≤ 1048576) :
    Calls Tryd.prog 37 #[.agg #[.int .i64 r, .int .i64 c, v], .bool b] w fun e w' => e = .returned (.int .i64 (Fw.cd (Fw.ok r c zs) b)) ∧ Below w.heap.size w w' := by
  have HB := Lib.hid (boxF_below w r c v 26)
  have C := Lib.hid (implValidField_any (boxF w r c v 26) r c v zs (hv.below HB.out) hl)
  have CS := Lib.hid (fun W => stCode_any (Fw.ok r c zs) b W)
  clear hv
  generalize Fw.cd (Fw.ok r c zs) b = q at *
  generalize Fw.ok r c zs = o at *
  go_enter Tryd.func37, Tryd.ntmps37
  go_wp2_with fail
  refine C.out.mono ?_
  rintro e w1 ⟨rfl, b1⟩
  have B1 := Lib.hid (bt HB.out b1)
  clear b1
  go_wp2_with fail
  refine (CS.out _).mono ?_
  rintro e w2 ⟨rfl, rfl⟩
  go_wp2_with fail
  go_ret
  exact ⟨rfl, B1.out⟩
theorem set_own {B g n cap : Nat} {w : World} {zs : List Int} (h : Own B w (.slice (some ⟨g, 0, none⟩) n cap) zs) (k : Nat) (x : Int) : Own B (w.setCell ⟨g, k, none⟩ (.int .i64 x)) (.slice (some ⟨g, 0, none⟩) n cap) (zs.set k x) := by
  have hn := own_len h
  subst hn
  have := (World.ownsRow.stored h k (.int .i64 x)).1
  unfold Own
  rw [List.length_set]
  have e : iv (zs.set k x) = (iv zs).set k (.int .i64 x) := by unfold iv; rw [List.map_set]
  rw [e]; exact this
theorem own_cell {B g n cap : Nat} {w : World} {zs : List Int} (h : Own B w (.slice (some ⟨g, 0, none⟩) n cap) zs) {k : Nat} {x : Int} (hk : zs[k]? = some x) : w.cell? ⟨g, k, none⟩ = some (.int .i64 x) := by
  have hn := own_len h
  have hlt : k < zs.length := (List.getElem?_eq_some_iff.1 hk).1
  subst hn
  have h' : w.ownsRow B 2 1 (.slice (some ⟨g, 0, none⟩) zs.length cap) zs.length (iv zs) := h
  have := h'.cellAt k (by omega)
  rw [this]; exact iv_at hk
theorem own_free {B g n cap : Nat} {w : World} {zs : List Int} (h : Own B w (.slice (some ⟨g, 0, none⟩) n cap) zs) (k : Nat) : w.frozen? ⟨g, k, none⟩ = false := by
  have hn := own_len h
  subst hn
  have h' : w.ownsRow B 2 1 (.slice (some ⟨g, 0, none⟩) zs.length cap) zs.length (iv zs) := h
  exact h'.frozenAt k

theorem Own.other {B x g n cap : Nat} {w w1 : World} {zs : List Int} (h : Own B w (.slice (some ⟨g, 0, none⟩) n cap) zs) (hg : w.grownBy w1 (some x)) (hx : g ≠ x) : Own B w1 (.slice (some ⟨g, 0, none⟩) n cap) zs := by
  have hn := own_len h
  subst hn
  exact own_other h hg hx
/-- a field variable of the call's own: block o, its masses in row A; an empty field in block q -/
structure FV (w0 w : World) (q : Nat) (r c : Int) (o A cap n : Nat) (ys : List Int) : Prop where
  box : Whole w o 26 #[.int .i64 r, .int .i64 c, .slice (some ⟨A, 0, none⟩) n cap]
  row : Own w0.heap.size w (.slice (some ⟨A, 0, none⟩) n cap) ys
  res : Whole w q 26 #[.int .i64 0, .int .i64 0, .slice none 0 0]
  bel : Below w0.heap.size w0 w
  oA : o ≠ A
  oq : q < o
  Aq : q < A
  wq : w0.heap.size ≤ q
theorem FV.put {w0 w : World} {q : Nat} {r c : Int} {o A cap n : Nat} {ys : List Int} (h : FV w0 w q r c o A cap n ys) (k : Nat) (x : Int) : FV w0 (w.setCell ⟨A, k, none⟩ (.int .i64 x)) q r c o A cap n (ys.set k x) := by
  have hg : w.grownBy (w.setCell ⟨A, k, none⟩ (.int .i64 x)) (some A) := only_setCell (p := ⟨A, k, none⟩) (World.grownBy.refl _ _) rfl _
  exact ⟨h.box.far hg h.oA, set_own h.row k x, h.res.far hg (by have := h.Aq; omega), h.bel.setCell (p := ⟨A, k, none⟩) (by have := h.Aq; have := h.wq; show w0.heap.size ≤ A; omega) _, h.oA, h.oq, h.Aq, h.wq⟩
theorem FV.mkA {w0 w1 w2 : World} {q : Nat} {r c : Int} {g cap n : Nat} {zs : List Int} (b1 : Below w0.heap.size w0 w1) (kr : Whole w1 q 26 #[.int .i64 0, .int .i64 0, .slice none 0 0]) (hq : w0.heap.size ≤ q) (o2 : Own w1.drew.heap.size w2 (.slice (some ⟨g, 0, none⟩) n cap) zs) (b2 : Below w1.drew.heap.size w1.drew w2) :
    FV w0 (w2.alloc (.cells #[.int .i64 r, .int .i64 c, .slice (some ⟨g, 0, none⟩) n cap] 26)) q r c w2.heap.size g cap n zs := by
  have hn := own_len o2
  subst hn
  obtain ⟨l1, l2⟩ := World.ownsRow.lt o2 g rfl
  have bl : Below w1.heap.size w1 w2 := bt (bdr1 _) b2
  have kq := kr.lt
  have l3 : w1.heap.size ≤ w2.heap.size := bl.size
  have ba : Below w2.heap.size w2 (w2.alloc (.cells #[.int .i64 r, .int .i64 c, .slice (some ⟨g, 0, none⟩) zs.length cap] 26)) := (Below.refl _ _).alloc (Nat.le_refl _) _
  have l4 : w1.heap.size ≤ g := by simpa using l1
  exact ⟨Whole.new _ _ _, (Own.le o2 (by have := b1.size; simp; omega)).belowAll ba, (kr.all bl).all ba, bt (bt b1 bl) ba, by omega, by omega, by omega, hq⟩
theorem FV.mkB {w0 w1 w2 : World} {q : Nat} {r c : Int} {g cap n : Nat} {zs : List Int} (b1 : Below w0.heap.size w0 w1) (kr : Whole w1 q 26 #[.int .i64 0, .int .i64 0, .slice none 0 0]) (hq : w0.heap.size ≤ q)
    (o2 : Own (w1.alloc (.cells #[.int .i64 0, .int .i64 0, .slice none 0 0] 26)).drew.heap.size w2 (.slice (some ⟨g, 0, none⟩) n cap) zs) (b2 : Below (w1.alloc (.cells #[.int .i64 0, .int .i64 0, .slice none 0 0] 26)).drew.heap.size (w1.alloc (.cells #[.int .i64 0, .int .i64 0, .slice none 0 0] 26)).drew w2) :
    FV w0 (setF w2 w1.heap.size r c (.slice (some ⟨g, 0, none⟩) n cap)) q r c w1.heap.size g cap n zs := by
  have hn := own_len o2
  subst hn
  obtain ⟨l1, l2⟩ := World.ownsRow.lt o2 g rfl
  have l1' : w1.heap.size + 1 ≤ g := by simpa using l1
  have bl : Below w1.heap.size w1 w2 := bt (bdA _ _) b2
  have kq := kr.lt
  have hg := setF_only w2 w1.heap.size r c (.slice (some ⟨g, 0, none⟩) zs.length cap)
  exact ⟨setF_whole (new_kept b2) _ _ _, Own.other (Own.le o2 (by have := b1.size; simp; omega)) hg (by omega), (kr.all bl).far hg (by omega), setF_below (bt b1 bl) (by have := b1.size; omega) _ _ _, by omega, by omega, by omega, hq⟩

end Go.Proofs.YtmidihmbehaegaaDoor
