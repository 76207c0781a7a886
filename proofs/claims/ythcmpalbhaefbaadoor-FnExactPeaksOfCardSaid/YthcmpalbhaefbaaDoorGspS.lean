import Derived.Test.YthcmpalbhaefbaaDoorGen
import Derived.Test.YthcmpalbhaefbaaDoorGsp
/-
  Slices of gridStep: what they read as, rows of the call's own, arguments opened. No condition of its own.
-/
namespace Go.Proofs.YthcmpalbhaefbaaDoor
open Go.RowKit Go.ChangeShapes Go.WideShapes Go.Deep
set_option linter.unusedVariables false
set_option maxRecDepth 100000

/-- slice value v reads in world w as these -/
def GpSl (w : World) (v : Value) (xs : List Gsp) : Prop :=
  (xs = [] ∧ ∃ a cap, v = .slice a 0 cap) ∨ ∃ b off cap, v = .slice (some ⟨b, off, none⟩) xs.length cap ∧ b < w.heap.size ∧ ∀ j z, (Gp.fl xs)[j]? = some z → w.cell? ⟨b, off + j, none⟩ = some (.int .i64 z)
theorem GpSl.below {w w1 : World} {v : Value} {xs : List Gsp} (h : GpSl w v xs) (hb : Below w.heap.size w w1) : GpSl w1 v xs := by
  rcases h with h | ⟨b, off, cap, rfl, hlt, hc⟩
  · exact Or.inl h
  · exact Or.inr ⟨b, off, cap, rfl, Nat.lt_of_lt_of_le hlt hb.size, fun j x hx => (hb.cell (p := ⟨b, off + j, none⟩) hlt).trans (hc j x hx)⟩
theorem GpSl.form {w : World} {v : Value} {xs : List Gsp} (h : GpSl w v xs) : ∃ a cap, v = .slice a xs.length cap := by
  rcases h with ⟨rfl, a, cap, rfl⟩ | ⟨b, off, cap, rfl, _⟩ <;> exact ⟨_, _, rfl⟩
/-- the 5 cells of one -/
structure GpCells (w : World) (b o : Nat) (x : Gsp) : Prop where
  c0 : w.cell? ⟨b, o, none⟩ = some (.int .i64 x.di)
  c1 : w.cell? ⟨b, o + 1, none⟩ = some (.int .i64 x.ro)
  c2 : w.cell? ⟨b, o + 2, none⟩ = some (.int .i64 x.co)
  c3 : w.cell? ⟨b, o + 3, none⟩ = some (.int .i64 x.fa)
  c4 : w.cell? ⟨b, o + 4, none⟩ = some (.int .i64 x.sl)
theorem GpCells.below {w w1 : World} {b o : Nat} {x : Gsp} (h : GpCells w b o x) {B : Nat} (hb : Below B w w1) (hlt : b < B) : GpCells w1 b o x :=
  ⟨(hb.cell (p := ⟨b, o, none⟩) hlt).trans h.c0, (hb.cell (p := ⟨b, o + 1, none⟩) hlt).trans h.c1, (hb.cell (p := ⟨b, o + 2, none⟩) hlt).trans h.c2, (hb.cell (p := ⟨b, o + 3, none⟩) hlt).trans h.c3, (hb.cell (p := ⟨b, o + 4, none⟩) hlt).trans h.c4⟩
theorem GpCells.zero {w : World} {b : Nat} {x : Gsp} (h : GpCells w b 0 x) : w.cell? ⟨b, 0, none⟩ = some (.int .i64 x.di) ∧ w.cell? ⟨b, 1, none⟩ = some (.int .i64 x.ro) ∧ w.cell? ⟨b, 2, none⟩ = some (.int .i64 x.co) ∧ w.cell? ⟨b, 3, none⟩ = some (.int .i64 x.fa) ∧ w.cell? ⟨b, 4, none⟩ = some (.int .i64 x.sl) := ⟨h.c0, h.c1, h.c2, h.c3, h.c4⟩
theorem GpCells.drewN {w : World} {b o : Nat} {x : Gsp} (h : GpCells w b o x) (q : Nat) : GpCells (w.drewN q) b o x :=
  ⟨by simpa using h.c0, by simpa using h.c1, by simpa using h.c2, by simpa using h.c3, by simpa using h.c4⟩
theorem Gpcells_of {w : World} {b off : Nat} {xs : List Gsp} (hc : ∀ j z, (Gp.fl xs)[j]? = some z → w.cell? ⟨b, off + j, none⟩ = some (.int .i64 z)) {k : Nat} (hk : k < xs.length) : GpCells w b (off + k * 5) xs[k] := by
  have e : ∀ j, j < 5 → w.cell? ⟨b, off + k * 5 + j, none⟩ = ((Gp.lv xs[k])[j]?).map (Value.int .i64) := by
    intro j hj
    have h1 := Gp.fl_at (List.getElem?_eq_getElem hk) hj
    have hlt : j < (Gp.lv xs[k]).length := by rw [Gp.lv_length]; exact hj
    rw [List.getElem?_eq_getElem hlt] at h1 ⊢
    rw [show off + k * 5 + j = off + (5 * k + j) by omega]
    exact hc _ _ h1
  exact ⟨e 0 (by omega), e 1 (by omega), e 2 (by omega), e 3 (by omega), e 4 (by omega)⟩
theorem GpSl.at_ {w : World} {v : Value} {xs : List Gsp} (h : GpSl w v xs) {k : Nat} (hk : k < xs.length) :
    ∃ b off cap, v = .slice (some ⟨b, off, none⟩) xs.length cap ∧ b < w.heap.size ∧ ∀ j (hj : j < xs.length), GpCells w b (off + j * 5) xs[j] := by
  rcases h with ⟨rfl, _⟩ | ⟨b, off, cap, rfl, hlt, hc⟩
  · cases hk
  · exact ⟨b, off, cap, rfl, hlt, fun j hj => Gpcells_of hc hj⟩
theorem GpSl.drewN {w : World} {v : Value} {xs : List Gsp} (h : GpSl w v xs) (q : Nat) : GpSl (w.drewN q) v xs := h.below (below_drewW w q)
/-! ### rows of the call's own -/
theorem info_gridStep : (Tryd.prog.info? 74).map (fun i => (i.zero, i.size, i.bytes)) = some (some (.agg #[.int .i64 0, .int .i64 0, .int .i64 0, .int .i64 0, .int .i64 0]), 5, 40) := by kernel_rfl
/-- slice value v is a row of the call's own (from block B on) that holds these -/
def GpOwn (B : Nat) (w : World) (v : Value) (xs : List Gsp) : Prop := w.ownsRow B 74 5 v xs.length (iv (Gp.fl xs))
theorem GpOwn.sl {B : Nat} {w : World} {v : Value} {xs : List Gsp} (h : GpOwn B w v xs) : GpSl w v xs := by
  rcases Go.Joins.ownsRow_forms h with ⟨rfl, hn⟩ | ⟨g, cap, rfl⟩
  · exact Or.inl ⟨List.eq_nil_of_length_eq_zero hn, _, _, rfl⟩
  · refine Or.inr ⟨g, 0, cap, rfl, (World.ownsRow.lt h g rfl).2, fun j x hx => ?_⟩
    have hj : j < (Gp.fl xs).length := (List.getElem?_eq_some_iff.1 hx).1
    rw [Gp.fl_length] at hj
    rw [Nat.zero_add, World.ownsRow.cellAt h j (by omega)]
    exact iv_at hx
theorem GpOwn.belowAll {B : Nat} {w w1 : World} {v : Value} {xs : List Gsp} (h : GpOwn B w v xs) (hb : Below w.heap.size w w1) : GpOwn B w1 v xs := own_belowAll h hb
theorem GpOwn.le {B B' : Nat} {w : World} {v : Value} {xs : List Gsp} (h : GpOwn B w v xs) (hb : B' ≤ B) : GpOwn B' w v xs := Go.Joins.ownsRow_le h hb
theorem GpOwn.nil (B : Nat) (w : World) : GpOwn B w (.slice none 0 0) [] := World.ownsRow_nil _ _ _ _
theorem GpOwn.far {B x : Nat} {w w1 : World} {v : Value} {xs : List Gsp} (h : GpOwn B w v xs) (hg : w.grownBy w1 (some x)) (hx : x < B) : GpOwn B w1 v xs := own_far h hg hx
theorem GpOwn.drewN {B : Nat} {w : World} {v : Value} {xs : List Gsp} (h : GpOwn B w v xs) (q : Nat) : GpOwn B (w.drewN q) v xs := h.belowAll (below_drewW w q)
/-- its cells -/
def lcGsp (x : Gsp) : List Value := [.int .i64 x.di, .int .i64 x.ro, .int .i64 x.co, .int .i64 x.fa, .int .i64 x.sl]
theorem lcGsp_eq (x : Gsp) : lcGsp x = iv (Gp.lv x) := rfl
/-- a world with one stored at an element -/
def setGsp (w : World) (g k : Nat) (x : Gsp) : World := w.setCells g (k * 5) (lcGsp x)
theorem own_setGsp {B n cap g k : Nat} {w : World} {ys : List Value} {xs : List Gsp} (h : w.ownsRow B 74 5 (.slice (some ⟨g, 0, none⟩) n cap) n ys) (ht : ys.take (5 * k) = iv (Gp.fl (xs.take k))) (hk : k < n) (hx : k < xs.length) :
    ∃ zs : List Value, (setGsp w g k xs[k]).ownsRow B 74 5 (.slice (some ⟨g, 0, none⟩) n cap) n zs ∧ zs.take (5 * (k + 1)) = iv (Gp.fl (xs.take (k + 1))) := by
  refine ⟨_, own_setCells (lcGsp xs[k]) (k * 5) h, ?_⟩
  have hl := h.1
  have e : (lcGsp xs[k]).length = 5 := rfl
  have := putAll_take (lcGsp xs[k]) ys (k * 5) (by rw [e]; omega)
  rw [e] at this
  rw [show 5 * (k + 1) = k * 5 + 5 by omega, this, Nat.mul_comm, ht, Gp.fl_snoc hx, iv_append]; rfl
/-- the world with one in a new block: a parameter -/
def boxGsp (w : World) (x : Gsp) (t : TypeId) : World := w.alloc (.cells #[.int .i64 x.di, .int .i64 x.ro, .int .i64 x.co, .int .i64 x.fa, .int .i64 x.sl] t)
theorem boxGsp_cells (w : World) (x : Gsp) (t : TypeId) : GpCells (boxGsp w x t) w.heap.size 0 x := by
  have h := fun j => cell_of_row _ w.heap.size j _ t (0, 0) (heap_alloc_new w (.cells #[.int .i64 x.di, .int .i64 x.ro, .int .i64 x.co, .int .i64 x.fa, .int .i64 x.sl] t))
  exact ⟨h 0, h 1, h 2, h 3, h 4⟩
theorem boxGsp_size (w : World) (x : Gsp) (t : TypeId) : (boxGsp w x t).heap.size = w.heap.size + 1 := by simp [boxGsp]
theorem boxGsp_below (w : World) (x : Gsp) (t : TypeId) : Below w.heap.size w (boxGsp w x t) := (Below.refl _ _).alloc (Nat.le_refl _) _
/-- what lies in the box lies there still -/
theorem boxGsp_kept {w w1 : World} {x : Gsp} {t : TypeId} (h : Below (boxGsp w x t).heap.size (boxGsp w x t) w1) : GpCells w1 w.heap.size 0 x := (boxGsp_cells w x t).below h (by rw [boxGsp_size]; omega)
end Go.Proofs.YthcmpalbhaefbaaDoor
