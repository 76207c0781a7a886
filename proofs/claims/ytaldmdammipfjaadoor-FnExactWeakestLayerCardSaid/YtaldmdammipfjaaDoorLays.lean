import Derived.Test.YtaldmdammipfjaaDoorGen
import Derived.Test.YtaldmdammipfjaaDoorLay
import Derived.Deep.MidRow
import Derived.Laws.MakeOwn
import Derived.Laws.IdiomCopy
namespace Go.Proofs.YtaldmdammipfjaaDoor
open Go.RowKit
set_option linter.unusedVariables false
set_option maxRecDepth 100000

/-- slice value v reads in world w as these layers -/
def LSl (w : World) (v : Value) (xs : List Lay) : Prop :=
  (xs = [] ∧ ∃ a cap, v = .slice a 0 cap) ∨ ∃ b off cap, v = .slice (some ⟨b, off, none⟩) xs.length cap ∧ b < w.heap.size ∧ ∀ j z, (La.fl xs)[j]? = some z → w.cell? ⟨b, off + j, none⟩ = some (.int .i64 z)
theorem LSl.below {w w1 : World} {v : Value} {xs : List Lay} (h : LSl w v xs) (hb : Below w.heap.size w w1) : LSl w1 v xs := by
  rcases h with h | ⟨b, off, cap, rfl, hlt, hc⟩
  · exact Or.inl h
  · exact Or.inr ⟨b, off, cap, rfl, Nat.lt_of_lt_of_le hlt hb.size, fun j x hx => (hb.cell (p := ⟨b, off + j, none⟩) hlt).trans (hc j x hx)⟩
theorem LSl.form {w : World} {v : Value} {xs : List Lay} (h : LSl w v xs) : ∃ a cap, v = .slice a xs.length cap := by
  rcases h with ⟨rfl, a, cap, rfl⟩ | ⟨b, off, cap, rfl, _⟩ <;> exact ⟨_, _, rfl⟩
theorem LSl.nil_of {w : World} {v : Value} {xs : List Lay} (h : LSl w v xs) (hz : xs.length = 0) : ∃ a cap, v = .slice a 0 cap := by
  obtain ⟨a, cap, rfl⟩ := h.form
  rw [hz]; exact ⟨_, _, rfl⟩
/-- the seven cells of one layer -/
structure LCells (w : World) (b o : Nat) (x : Lay) : Prop where
  c0 : w.cell? ⟨b, o, none⟩ = some (.int .i64 x.fo)
  c1 : w.cell? ⟨b, o + 1, none⟩ = some (.int .i64 x.ic)
  c2 : w.cell? ⟨b, o + 2, none⟩ = some (.int .i64 x.wa)
  c3 : w.cell? ⟨b, o + 3, none⟩ = some (.int .i64 x.de)
  c4 : w.cell? ⟨b, o + 4, none⟩ = some (.int .i64 x.dg)
  c5 : w.cell? ⟨b, o + 5, none⟩ = some (.int .i64 x.ha)
  c6 : w.cell? ⟨b, o + 6, none⟩ = some (.int .i64 x.ag)
theorem LCells.below {w w1 : World} {b o : Nat} {x : Lay} (h : LCells w b o x) {B : Nat} (hb : Below B w w1) (hlt : b < B) : LCells w1 b o x :=
  ⟨(hb.cell (p := ⟨b, o, none⟩) hlt).trans h.c0, (hb.cell (p := ⟨b, o + 1, none⟩) hlt).trans h.c1, (hb.cell (p := ⟨b, o + 2, none⟩) hlt).trans h.c2, (hb.cell (p := ⟨b, o + 3, none⟩) hlt).trans h.c3,
    (hb.cell (p := ⟨b, o + 4, none⟩) hlt).trans h.c4, (hb.cell (p := ⟨b, o + 5, none⟩) hlt).trans h.c5, (hb.cell (p := ⟨b, o + 6, none⟩) hlt).trans h.c6⟩
theorem lcells_of {w : World} {b off : Nat} {xs : List Lay} (hc : ∀ j z, (La.fl xs)[j]? = some z → w.cell? ⟨b, off + j, none⟩ = some (.int .i64 z)) {k : Nat} (hk : k < xs.length) : LCells w b (off + k * 7) xs[k] := by
  have e : ∀ j, j < 7 → w.cell? ⟨b, off + k * 7 + j, none⟩ = ((La.lv xs[k])[j]?).map (Value.int .i64) := by
    intro j hj
    have h1 := La.fl_at (List.getElem?_eq_getElem hk) hj
    have hlt : j < (La.lv xs[k]).length := by rw [La.lv_length]; exact hj
    rw [List.getElem?_eq_getElem hlt] at h1 ⊢
    rw [show off + k * 7 + j = off + (7 * k + j) by omega]
    exact hc _ _ h1
  exact ⟨e 0 (by omega), e 1 (by omega), e 2 (by omega), e 3 (by omega), e 4 (by omega), e 5 (by omega), e 6 (by omega)⟩
theorem LSl.at_ {w : World} {v : Value} {xs : List Lay} (h : LSl w v xs) {k : Nat} (hk : k < xs.length) :
    ∃ b off cap, v = .slice (some ⟨b, off, none⟩) xs.length cap ∧ b < w.heap.size ∧ ∀ j (hj : j < xs.length), LCells w b (off + j * 7) xs[j] := by
  rcases h with ⟨rfl, _⟩ | ⟨b, off, cap, rfl, hlt, hc⟩
  · cases hk
  · exact ⟨b, off, cap, rfl, hlt, fun j hj => lcells_of hc hj⟩
/-! ### rows of layers that are the call's own -/
theorem info_layer : (Tryd.prog.info? 96).map (fun i => (i.zero, i.size, i.bytes)) = some (some (.agg #[.int .i64 0, .int .i64 0, .int .i64 0, .int .i64 0, .int .i64 0, .int .i64 0, .int .i64 0]), 7, 56) := by kernel_rfl
/-- slice value v is a row of the call's own (from block B on) that holds these layers -/
def LOwn (B : Nat) (w : World) (v : Value) (xs : List Lay) : Prop := w.ownsRow B 96 7 v xs.length (iv (La.fl xs))
theorem LOwn.sl {B : Nat} {w : World} {v : Value} {xs : List Lay} (h : LOwn B w v xs) : LSl w v xs := by
  rcases Go.Joins.ownsRow_forms h with ⟨rfl, hn⟩ | ⟨g, cap, rfl⟩
  · exact Or.inl ⟨List.eq_nil_of_length_eq_zero hn, _, _, rfl⟩
  · refine Or.inr ⟨g, 0, cap, rfl, (World.ownsRow.lt h g rfl).2, fun j x hx => ?_⟩
    have hj : j < (La.fl xs).length := (List.getElem?_eq_some_iff.1 hx).1
    rw [La.fl_length] at hj
    rw [Nat.zero_add, World.ownsRow.cellAt h j (by omega)]
    exact iv_at hx
theorem LOwn.belowAll {B : Nat} {w w1 : World} {v : Value} {xs : List Lay} (h : LOwn B w v xs) (hb : Below w.heap.size w w1) : LOwn B w1 v xs := own_belowAll h hb
theorem LOwn.le {B B' : Nat} {w : World} {v : Value} {xs : List Lay} (h : LOwn B w v xs) (hb : B' ≤ B) : LOwn B' w v xs := Go.Joins.ownsRow_le h hb
theorem LOwn.nil (B : Nat) (w : World) : LOwn B w (.slice none 0 0) [] := World.ownsRow_nil _ _ _ _
/-- a layer's cells -/
def lc (x : Lay) : List Value := [.int .i64 x.fo, .int .i64 x.ic, .int .i64 x.wa, .int .i64 x.de, .int .i64 x.dg, .int .i64 x.ha, .int .i64 x.ag]
theorem lc_eq (x : Lay) : lc x = iv (La.lv x) := rfl
/-- a world with a layer stored at an element -/
def lset (w : World) (g k : Nat) (x : Lay) : World := w.setCells g (k * 7) (lc x)
theorem own_lset {B n cap g k : Nat} {w : World} {ys : List Value} {xs : List Lay} (h : w.ownsRow B 96 7 (.slice (some ⟨g, 0, none⟩) n cap) n ys) (ht : ys.take (7 * k) = iv (La.fl (xs.take k))) (hk : k < n) (hx : k < xs.length) :
    ∃ zs : List Value, (lset w g k xs[k]).ownsRow B 96 7 (.slice (some ⟨g, 0, none⟩) n cap) n zs ∧ zs.take (7 * (k + 1)) = iv (La.fl (xs.take (k + 1))) := by
  refine ⟨_, own_setCells (lc xs[k]) (k * 7) h, ?_⟩
  have hl := h.1
  have e : (lc xs[k]).length = 7 := rfl
  have := putAll_take (lc xs[k]) ys (k * 7) (by rw [e]; omega)
  rw [e] at this
  rw [show 7 * (k + 1) = k * 7 + 7 by omega, this, Nat.mul_comm, ht, La.fl_snoc hx, iv_append]; rfl
theorem LCells.zero {w : World} {b : Nat} {x : Lay} (h : LCells w b 0 x) : w.cell? ⟨b, 0, none⟩ = some (.int .i64 x.fo) ∧ w.cell? ⟨b, 1, none⟩ = some (.int .i64 x.ic) ∧ w.cell? ⟨b, 2, none⟩ = some (.int .i64 x.wa) ∧ w.cell? ⟨b, 3, none⟩ = some (.int .i64 x.de) ∧
    w.cell? ⟨b, 4, none⟩ = some (.int .i64 x.dg) ∧ w.cell? ⟨b, 5, none⟩ = some (.int .i64 x.ha) ∧ w.cell? ⟨b, 6, none⟩ = some (.int .i64 x.ag) := ⟨h.c0, h.c1, h.c2, h.c3, h.c4, h.c5, h.c6⟩
/-- the world with a layer in a new block: a parameter that is a layer -/
def boxed (w : World) (x : Lay) (t : TypeId) : World := w.alloc (.cells #[.int .i64 x.fo, .int .i64 x.ic, .int .i64 x.wa, .int .i64 x.de, .int .i64 x.dg, .int .i64 x.ha, .int .i64 x.ag] t)
theorem boxed_cells (w : World) (x : Lay) (t : TypeId) : LCells (boxed w x t) w.heap.size 0 x := by
  have h := fun j => cell_of_row _ w.heap.size j _ t (0, 0) (heap_alloc_new w (.cells #[.int .i64 x.fo, .int .i64 x.ic, .int .i64 x.wa, .int .i64 x.de, .int .i64 x.dg, .int .i64 x.ha, .int .i64 x.ag] t))
  exact ⟨h 0, h 1, h 2, h 3, h 4, h 5, h 6⟩
theorem boxed_size (w : World) (x : Lay) (t : TypeId) : (boxed w x t).heap.size = w.heap.size + 1 := by simp [boxed]
theorem boxed_below (w : World) (x : Lay) (t : TypeId) : Below w.heap.size w (boxed w x t) := (Below.refl _ _).alloc (Nat.le_refl _) _
/-- what lies in the box lies there still -/
theorem boxed_kept {w w1 : World} {x : Lay} {t : TypeId} (h : Below (boxed w x t).heap.size (boxed w x t) w1) : LCells w1 w.heap.size 0 x := (boxed_cells w x t).below h (by rw [boxed_size]; omega)
end Go.Proofs.YtaldmdammipfjaaDoor
