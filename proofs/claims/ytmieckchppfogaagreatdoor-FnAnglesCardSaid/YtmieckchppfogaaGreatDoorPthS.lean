import Derived.Test.YtmieckchppfogaaGreatDoorGen
import Derived.Test.YtmieckchppfogaaGreatDoorPth
/-
  Slices of PathPoint: what they read as, rows of the call's own, arguments opened. No condition of its own.
-/
namespace Go.Proofs.YtmieckchppfogaaGreatDoor
open Go.RowKit Go.ChangeShapes Go.WideShapes Go.Deep
set_option linter.unusedVariables false
set_option maxRecDepth 100000

/-- slice value v reads in world w as these -/
def PpSl (w : World) (v : Value) (xs : List Pth) : Prop :=
  (xs = [] ∧ ∃ a cap, v = .slice a 0 cap) ∨ ∃ b off cap, v = .slice (some ⟨b, off, none⟩) xs.length cap ∧ b < w.heap.size ∧ ∀ j z, (Pp.fl xs)[j]? = some z → w.cell? ⟨b, off + j, none⟩ = some (.int .i64 z)
theorem PpSl.below {w w1 : World} {v : Value} {xs : List Pth} (h : PpSl w v xs) (hb : Below w.heap.size w w1) : PpSl w1 v xs := by
  rcases h with h | ⟨b, off, cap, rfl, hlt, hc⟩
  · exact Or.inl h
  · exact Or.inr ⟨b, off, cap, rfl, Nat.lt_of_lt_of_le hlt hb.size, fun j x hx => (hb.cell (p := ⟨b, off + j, none⟩) hlt).trans (hc j x hx)⟩
theorem PpSl.form {w : World} {v : Value} {xs : List Pth} (h : PpSl w v xs) : ∃ a cap, v = .slice a xs.length cap := by
  rcases h with ⟨rfl, a, cap, rfl⟩ | ⟨b, off, cap, rfl, _⟩ <;> exact ⟨_, _, rfl⟩
/-- the 2 cells of one -/
structure PpCells (w : World) (b o : Nat) (x : Pth) : Prop where
  c0 : w.cell? ⟨b, o, none⟩ = some (.int .i64 x.di)
  c1 : w.cell? ⟨b, o + 1, none⟩ = some (.int .i64 x.he)
theorem PpCells.below {w w1 : World} {b o : Nat} {x : Pth} (h : PpCells w b o x) {B : Nat} (hb : Below B w w1) (hlt : b < B) : PpCells w1 b o x :=
  ⟨(hb.cell (p := ⟨b, o, none⟩) hlt).trans h.c0, (hb.cell (p := ⟨b, o + 1, none⟩) hlt).trans h.c1⟩
theorem PpCells.zero {w : World} {b : Nat} {x : Pth} (h : PpCells w b 0 x) : w.cell? ⟨b, 0, none⟩ = some (.int .i64 x.di) ∧ w.cell? ⟨b, 1, none⟩ = some (.int .i64 x.he) := ⟨h.c0, h.c1⟩
theorem PpCells.drewN {w : World} {b o : Nat} {x : Pth} (h : PpCells w b o x) (q : Nat) : PpCells (w.drewN q) b o x :=
  ⟨by simpa using h.c0, by simpa using h.c1⟩
theorem Ppcells_of {w : World} {b off : Nat} {xs : List Pth} (hc : ∀ j z, (Pp.fl xs)[j]? = some z → w.cell? ⟨b, off + j, none⟩ = some (.int .i64 z)) {k : Nat} (hk : k < xs.length) : PpCells w b (off + k * 2) xs[k] := by
  have e : ∀ j, j < 2 → w.cell? ⟨b, off + k * 2 + j, none⟩ = ((Pp.lv xs[k])[j]?).map (Value.int .i64) := by
    intro j hj
    have h1 := Pp.fl_at (List.getElem?_eq_getElem hk) hj
    have hlt : j < (Pp.lv xs[k]).length := by rw [Pp.lv_length]; exact hj
    rw [List.getElem?_eq_getElem hlt] at h1 ⊢
    rw [show off + k * 2 + j = off + (2 * k + j) by omega]
    exact hc _ _ h1
  exact ⟨e 0 (by omega), e 1 (by omega)⟩
theorem PpSl.at_ {w : World} {v : Value} {xs : List Pth} (h : PpSl w v xs) {k : Nat} (hk : k < xs.length) :
    ∃ b off cap, v = .slice (some ⟨b, off, none⟩) xs.length cap ∧ b < w.heap.size ∧ ∀ j (hj : j < xs.length), PpCells w b (off + j * 2) xs[j] := by
  rcases h with ⟨rfl, _⟩ | ⟨b, off, cap, rfl, hlt, hc⟩
  · cases hk
  · exact ⟨b, off, cap, rfl, hlt, fun j hj => Ppcells_of hc hj⟩
theorem PpSl.drewN {w : World} {v : Value} {xs : List Pth} (h : PpSl w v xs) (q : Nat) : PpSl (w.drewN q) v xs := h.below (below_drewW w q)
/-! ### rows of the call's own -/
theorem info_PathPoint : (Tryz.prog.info? 36).map (fun i => (i.zero, i.size, i.bytes)) = some (some (.agg #[.int .i64 0, .int .i64 0]), 2, 16) := by kernel_rfl
/-- slice value v is a row of the call's own (from block B on) that holds these -/
def PpOwn (B : Nat) (w : World) (v : Value) (xs : List Pth) : Prop := w.ownsRow B 36 2 v xs.length (iv (Pp.fl xs))
theorem PpOwn.sl {B : Nat} {w : World} {v : Value} {xs : List Pth} (h : PpOwn B w v xs) : PpSl w v xs := by
  rcases Go.Joins.ownsRow_forms h with ⟨rfl, hn⟩ | ⟨g, cap, rfl⟩
  · exact Or.inl ⟨List.eq_nil_of_length_eq_zero hn, _, _, rfl⟩
  · refine Or.inr ⟨g, 0, cap, rfl, (World.ownsRow.lt h g rfl).2, fun j x hx => ?_⟩
    have hj : j < (Pp.fl xs).length := (List.getElem?_eq_some_iff.1 hx).1
    rw [Pp.fl_length] at hj
    rw [Nat.zero_add, World.ownsRow.cellAt h j (by omega)]
    exact iv_at hx
theorem PpOwn.belowAll {B : Nat} {w w1 : World} {v : Value} {xs : List Pth} (h : PpOwn B w v xs) (hb : Below w.heap.size w w1) : PpOwn B w1 v xs := own_belowAll h hb
theorem PpOwn.le {B B' : Nat} {w : World} {v : Value} {xs : List Pth} (h : PpOwn B w v xs) (hb : B' ≤ B) : PpOwn B' w v xs := Go.Joins.ownsRow_le h hb
theorem PpOwn.nil (B : Nat) (w : World) : PpOwn B w (.slice none 0 0) [] := World.ownsRow_nil _ _ _ _
theorem PpOwn.far {B x : Nat} {w w1 : World} {v : Value} {xs : List Pth} (h : PpOwn B w v xs) (hg : w.grownBy w1 (some x)) (hx : x < B) : PpOwn B w1 v xs := own_far h hg hx
theorem PpOwn.drewN {B : Nat} {w : World} {v : Value} {xs : List Pth} (h : PpOwn B w v xs) (q : Nat) : PpOwn B (w.drewN q) v xs := h.belowAll (below_drewW w q)
/-- its cells -/
def lcPth (x : Pth) : List Value := [.int .i64 x.di, .int .i64 x.he]
theorem lcPth_eq (x : Pth) : lcPth x = iv (Pp.lv x) := rfl
/-- a world with one stored at an element -/
def setPth (w : World) (g k : Nat) (x : Pth) : World := w.setCells g (k * 2) (lcPth x)
theorem own_setPth {B n cap g k : Nat} {w : World} {ys : List Value} {xs : List Pth} (h : w.ownsRow B 36 2 (.slice (some ⟨g, 0, none⟩) n cap) n ys) (ht : ys.take (2 * k) = iv (Pp.fl (xs.take k))) (hk : k < n) (hx : k < xs.length) :
    ∃ zs : List Value, (setPth w g k xs[k]).ownsRow B 36 2 (.slice (some ⟨g, 0, none⟩) n cap) n zs ∧ zs.take (2 * (k + 1)) = iv (Pp.fl (xs.take (k + 1))) := by
  refine ⟨_, own_setCells (lcPth xs[k]) (k * 2) h, ?_⟩
  have hl := h.1
  have e : (lcPth xs[k]).length = 2 := rfl
  have := putAll_take (lcPth xs[k]) ys (k * 2) (by rw [e]; omega)
  rw [e] at this
  rw [show 2 * (k + 1) = k * 2 + 2 by omega, this, Nat.mul_comm, ht, Pp.fl_snoc hx, iv_append]; rfl
/-- the world with one in a new block: a parameter -/
def boxPth (w : World) (x : Pth) (t : TypeId) : World := w.alloc (.cells #[.int .i64 x.di, .int .i64 x.he] t)
theorem boxPth_cells (w : World) (x : Pth) (t : TypeId) : PpCells (boxPth w x t) w.heap.size 0 x := by
  have h := fun j => cell_of_row _ w.heap.size j _ t (0, 0) (heap_alloc_new w (.cells #[.int .i64 x.di, .int .i64 x.he] t))
  exact ⟨h 0, h 1⟩
theorem boxPth_size (w : World) (x : Pth) (t : TypeId) : (boxPth w x t).heap.size = w.heap.size + 1 := by simp [boxPth]
theorem boxPth_below (w : World) (x : Pth) (t : TypeId) : Below w.heap.size w (boxPth w x t) := (Below.refl _ _).alloc (Nat.le_refl _) _
/-- what lies in the box lies there still -/
theorem boxPth_kept {w w1 : World} {x : Pth} {t : TypeId} (h : Below (boxPth w x t).heap.size (boxPth w x t) w1) : PpCells w1 w.heap.size 0 x := (boxPth_cells w x t).below h (by rw [boxPth_size]; omega)
/-! ### arguments -/
section
variable {H : Type} {enc : TypeId × Value → H} {P : Program} {w : World} {base : Nat} {spare : Nat → Bool} {held : Bool}
theorem open_PathPoint {r : Reach} {b0 : Nat} {t tI : TypeId} {fs : Array Field} {v : Value} {d : DataW H} {p : List MemPlace} (hs : P.underlying t = some (.struct fs)) (hone : oneCellFields P fs = true) (hC : P.cellsOf t = fs.size) (h7 : fs.size = 2)
    (hI : fs.all (fun f => f.type == tI) = true) (hu : P.underlying tI = some (.int .i64)) (hv : Value.okWide P w r b0 t v) (h : DataW.Trod enc P w base spare held t v d p) : ∃ x : Pth, v = .agg #[.int .i64 x.di, .int .i64 x.he] := by
  obtain ⟨cs, rfl, hsz⟩ := okWide_struct hs hv
  obtain ⟨l⟩ := cs
  obtain ⟨fuel, hf⟩ := h
  obtain ⟨hl, hn⟩ := nums_of hs hone hC hI hu hf
  have hl' : l.length = 2 := by rw [← h7, ← hl]; rfl
  match l, hl' with
  | [c0, c1], _ =>
    rw [h7] at hn
    obtain ⟨z0, e0⟩ := hn 0 (by omega)
    obtain ⟨z1, e1⟩ := hn 1 (by omega)
    have f0 : c0 = .int .i64 z0 := by simpa [Value.cells] using e0
    have f1 : c1 = .int .i64 z1 := by simpa [Value.cells] using e1
    subst f0 f1
    exact ⟨⟨z0, z1⟩, rfl⟩
def atPth (w : World) (b o : Nat) : Pth := ⟨numAt w b (o), numAt w b (o + 1)⟩
def atsPth (w : World) (b o n : Nat) : List Pth := (List.range n).map fun i => atPth w b (o + i * 2)
theorem fl_rangePth (f : Nat → Pth) (n j : Nat) (z : Int) (h : (Pp.fl ((List.range n).map f))[j]? = some z) : ∃ i k, i < n ∧ k < 2 ∧ j = 2 * i + k ∧ (Pp.lv (f i))[k]? = some z := by
  have hj : j < 2 * n := by
    have := (List.getElem?_eq_some_iff.1 h).1
    rw [Pp.fl_length] at this; simpa using this
  refine ⟨j / 2, j % 2, by omega, by omega, by omega, ?_⟩
  have hi : ((List.range n).map f)[j / 2]? = some (f (j / 2)) := by
    rw [List.getElem?_map, List.getElem?_range (by omega)]; rfl
  rw [← Pp.fl_at hi (show j % 2 < 2 by omega), ← h]
  congr 1; omega
theorem open_PathPointS {t e tI : TypeId} {fs : Array Field} {fuel : Nat} {cs : List Value} {x : DataW H × List MemPlace} (ht : P.underlying t = some (.slice e)) (he : P.underlying e = some (.struct fs)) (hone : oneCellFields P fs = true) (hC : P.cellsOf e = fs.size) (h7 : fs.size = 2)
    (hI : fs.all (fun f => f.type == tI) = true) (hu : P.underlying tI = some (.int .i64)) (h : DataW.trod enc P w base spare held fuel t cs = some x) :
    ∃ (a : Option Addr) (len cap : Nat) (xs : List Pth), cs = [.slice a len cap] ∧ len ≤ maxLen ∧ xs.length = len ∧ PpSl w (.slice a len cap) xs := by
  rcases open_slice ht h with ⟨rfl, _⟩ | ⟨a, len, cap, m, n, D, Pl, rfl, hb, hl, hm, hmm, hx, hi⟩
  · exact ⟨none, 0, 0, [], rfl, by unfold maxLen; omega, rfl, Or.inl ⟨rfl, _, _, rfl⟩⟩
  · have hlm : len ≤ m := by rw [hmm]; split <;> omega
    rcases Nat.eq_zero_or_pos len with h0 | h0
    · subst h0; exact ⟨_, 0, cap, [], rfl, by omega, rfl, Or.inl ⟨rfl, _, _, rfl⟩⟩
    · have hc : ∀ i, i < len → ∀ j, j < 2 → ∃ z, w.cell? (a.add (i * 2 + j)) = some (.int .i64 z) := by
        intro i hil j hj
        obtain ⟨cs', hc', htr⟩ := hi i (by omega)
        obtain ⟨_, hz⟩ := nums_of he hone hC hI hu htr
        obtain ⟨_, hcl, hat⟩ := World.cells?_some hc'
        rw [hC, h7] at hat
        obtain ⟨z, e⟩ := hz j (by omega)
        refine ⟨z, ?_⟩
        rw [← Go.Deep.add_add, hat j hj, e]
      obtain ⟨b, off, spot⟩ := a
      obtain ⟨z0, e0⟩ := hc 0 h0 0 (by omega)
      have hspot : spot = none := by simpa [Addr.add] using World.cell?_spot e0
      subst hspot
      have hcc : ∀ i, i < len → ∀ j, j < 2 → ∃ z, w.cell? ⟨b, off + i * 2 + j, none⟩ = some (.int .i64 z) := by
        intro i hil j hj
        obtain ⟨z, e⟩ := hc i hil j hj
        rw [add_plain] at e
        exact ⟨z, by rw [Nat.add_assoc]; exact e⟩
      have hlay : ∀ i, i < len → PpCells w b (off + i * 2) (atPth w b (off + i * 2)) := by
        intro i hil
        have g : ∀ j, j < 2 → w.cell? ⟨b, off + i * 2 + j, none⟩ = some (.int .i64 (numAt w b (off + i * 2 + j))) := fun j hj => by
          obtain ⟨z, e⟩ := hcc i hil j hj
          exact numAt_of e
        exact ⟨g 0 (by omega), g 1 (by omega)⟩
      refine ⟨_, len, cap, atsPth w b off len, rfl, by omega, by unfold atsPth; simp, Or.inr ⟨b, off, cap, by unfold atsPth; simp, ?_, ?_⟩⟩
      · obtain ⟨z, e⟩ := hcc 0 h0 0 (by omega)
        exact World.block_lt_of_cell? w _ e
      · intro j z hz
        obtain ⟨i, k, hin, hk, rfl, hlv⟩ := fl_rangePth _ _ _ _ hz
        have L := hlay i hin
        have hk' : k = 0 ∨ k = 1 := by omega
        have ea : off + (2 * i + k) = off + i * 2 + k := by omega
        rw [ea]
        rcases hk' with rfl | rfl <;> simp only [Pp.lv, List.getElem?_cons_zero, List.getElem?_cons_succ, Option.some.injEq] at hlv <;> subst hlv
        · exact L.c0
        · exact L.c1
end
end Go.Proofs.YtmieckchppfogaaGreatDoor
