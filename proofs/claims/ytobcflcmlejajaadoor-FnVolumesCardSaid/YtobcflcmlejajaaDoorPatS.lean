import Derived.Test.YtobcflcmlejajaaDoorGen
import Derived.Test.YtobcflcmlejajaaDoorPat
/-
  Slices of Part: what they read as, rows of the call's own, arguments opened. No condition of its own.
-/
namespace Go.Proofs.YtobcflcmlejajaaDoor
open Go.RowKit Go.ChangeShapes Go.WideShapes Go.Deep
set_option linter.unusedVariables false
set_option maxRecDepth 100000

/-- slice value v reads in world w as these -/
def PaSl (w : World) (v : Value) (xs : List Pat) : Prop :=
  (xs = [] ∧ ∃ a cap, v = .slice a 0 cap) ∨ ∃ b off cap, v = .slice (some ⟨b, off, none⟩) xs.length cap ∧ b < w.heap.size ∧ ∀ j z, (Pa.fl xs)[j]? = some z → w.cell? ⟨b, off + j, none⟩ = some (.int .i64 z)
theorem PaSl.below {w w1 : World} {v : Value} {xs : List Pat} (h : PaSl w v xs) (hb : Below w.heap.size w w1) : PaSl w1 v xs := by
  rcases h with h | ⟨b, off, cap, rfl, hlt, hc⟩
  · exact Or.inl h
  · exact Or.inr ⟨b, off, cap, rfl, Nat.lt_of_lt_of_le hlt hb.size, fun j x hx => (hb.cell (p := ⟨b, off + j, none⟩) hlt).trans (hc j x hx)⟩
theorem PaSl.form {w : World} {v : Value} {xs : List Pat} (h : PaSl w v xs) : ∃ a cap, v = .slice a xs.length cap := by
  rcases h with ⟨rfl, a, cap, rfl⟩ | ⟨b, off, cap, rfl, _⟩ <;> exact ⟨_, _, rfl⟩
/-- the 4 cells of one -/
structure PaCells (w : World) (b o : Nat) (x : Pat) : Prop where
  c0 : w.cell? ⟨b, o, none⟩ = some (.int .i64 x.le)
  c1 : w.cell? ⟨b, o + 1, none⟩ = some (.int .i64 x.wi)
  c2 : w.cell? ⟨b, o + 2, none⟩ = some (.int .i64 x.de)
  c3 : w.cell? ⟨b, o + 3, none⟩ = some (.int .i64 x.dn)
theorem PaCells.below {w w1 : World} {b o : Nat} {x : Pat} (h : PaCells w b o x) {B : Nat} (hb : Below B w w1) (hlt : b < B) : PaCells w1 b o x :=
  ⟨(hb.cell (p := ⟨b, o, none⟩) hlt).trans h.c0, (hb.cell (p := ⟨b, o + 1, none⟩) hlt).trans h.c1, (hb.cell (p := ⟨b, o + 2, none⟩) hlt).trans h.c2, (hb.cell (p := ⟨b, o + 3, none⟩) hlt).trans h.c3⟩
theorem PaCells.zero {w : World} {b : Nat} {x : Pat} (h : PaCells w b 0 x) : w.cell? ⟨b, 0, none⟩ = some (.int .i64 x.le) ∧ w.cell? ⟨b, 1, none⟩ = some (.int .i64 x.wi) ∧ w.cell? ⟨b, 2, none⟩ = some (.int .i64 x.de) ∧ w.cell? ⟨b, 3, none⟩ = some (.int .i64 x.dn) := ⟨h.c0, h.c1, h.c2, h.c3⟩
theorem PaCells.drewN {w : World} {b o : Nat} {x : Pat} (h : PaCells w b o x) (q : Nat) : PaCells (w.drewN q) b o x :=
  ⟨by simpa using h.c0, by simpa using h.c1, by simpa using h.c2, by simpa using h.c3⟩
theorem Pacells_of {w : World} {b off : Nat} {xs : List Pat} (hc : ∀ j z, (Pa.fl xs)[j]? = some z → w.cell? ⟨b, off + j, none⟩ = some (.int .i64 z)) {k : Nat} (hk : k < xs.length) : PaCells w b (off + k * 4) xs[k] := by
  have e : ∀ j, j < 4 → w.cell? ⟨b, off + k * 4 + j, none⟩ = ((Pa.lv xs[k])[j]?).map (Value.int .i64) := by
    intro j hj
    have h1 := Pa.fl_at (List.getElem?_eq_getElem hk) hj
    have hlt : j < (Pa.lv xs[k]).length := by rw [Pa.lv_length]; exact hj
    rw [List.getElem?_eq_getElem hlt] at h1 ⊢
    rw [show off + k * 4 + j = off + (4 * k + j) by omega]
    exact hc _ _ h1
  exact ⟨e 0 (by omega), e 1 (by omega), e 2 (by omega), e 3 (by omega)⟩
theorem PaSl.at_ {w : World} {v : Value} {xs : List Pat} (h : PaSl w v xs) {k : Nat} (hk : k < xs.length) :
    ∃ b off cap, v = .slice (some ⟨b, off, none⟩) xs.length cap ∧ b < w.heap.size ∧ ∀ j (hj : j < xs.length), PaCells w b (off + j * 4) xs[j] := by
  rcases h with ⟨rfl, _⟩ | ⟨b, off, cap, rfl, hlt, hc⟩
  · cases hk
  · exact ⟨b, off, cap, rfl, hlt, fun j hj => Pacells_of hc hj⟩
theorem PaSl.drewN {w : World} {v : Value} {xs : List Pat} (h : PaSl w v xs) (q : Nat) : PaSl (w.drewN q) v xs := h.below (below_drewW w q)
/-! ### rows of the call's own -/
theorem info_Part : (Tryd.prog.info? 59).map (fun i => (i.zero, i.size, i.bytes)) = some (some (.agg #[.int .i64 0, .int .i64 0, .int .i64 0, .int .i64 0]), 4, 32) := by kernel_rfl
/-- slice value v is a row of the call's own (from block B on) that holds these -/
def PaOwn (B : Nat) (w : World) (v : Value) (xs : List Pat) : Prop := w.ownsRow B 59 4 v xs.length (iv (Pa.fl xs))
theorem PaOwn.sl {B : Nat} {w : World} {v : Value} {xs : List Pat} (h : PaOwn B w v xs) : PaSl w v xs := by
  rcases Go.Joins.ownsRow_forms h with ⟨rfl, hn⟩ | ⟨g, cap, rfl⟩
  · exact Or.inl ⟨List.eq_nil_of_length_eq_zero hn, _, _, rfl⟩
  · refine Or.inr ⟨g, 0, cap, rfl, (World.ownsRow.lt h g rfl).2, fun j x hx => ?_⟩
    have hj : j < (Pa.fl xs).length := (List.getElem?_eq_some_iff.1 hx).1
    rw [Pa.fl_length] at hj
    rw [Nat.zero_add, World.ownsRow.cellAt h j (by omega)]
    exact iv_at hx
theorem PaOwn.belowAll {B : Nat} {w w1 : World} {v : Value} {xs : List Pat} (h : PaOwn B w v xs) (hb : Below w.heap.size w w1) : PaOwn B w1 v xs := own_belowAll h hb
theorem PaOwn.le {B B' : Nat} {w : World} {v : Value} {xs : List Pat} (h : PaOwn B w v xs) (hb : B' ≤ B) : PaOwn B' w v xs := Go.Joins.ownsRow_le h hb
theorem PaOwn.nil (B : Nat) (w : World) : PaOwn B w (.slice none 0 0) [] := World.ownsRow_nil _ _ _ _
theorem PaOwn.far {B x : Nat} {w w1 : World} {v : Value} {xs : List Pat} (h : PaOwn B w v xs) (hg : w.grownBy w1 (some x)) (hx : x < B) : PaOwn B w1 v xs := own_far h hg hx
theorem PaOwn.drewN {B : Nat} {w : World} {v : Value} {xs : List Pat} (h : PaOwn B w v xs) (q : Nat) : PaOwn B (w.drewN q) v xs := h.belowAll (below_drewW w q)
/-- its cells -/
def lcPat (x : Pat) : List Value := [.int .i64 x.le, .int .i64 x.wi, .int .i64 x.de, .int .i64 x.dn]
theorem lcPat_eq (x : Pat) : lcPat x = iv (Pa.lv x) := rfl
/-- a world with one stored at an element -/
def setPat (w : World) (g k : Nat) (x : Pat) : World := w.setCells g (k * 4) (lcPat x)
theorem own_setPat {B n cap g k : Nat} {w : World} {ys : List Value} {xs : List Pat} (h : w.ownsRow B 59 4 (.slice (some ⟨g, 0, none⟩) n cap) n ys) (ht : ys.take (4 * k) = iv (Pa.fl (xs.take k))) (hk : k < n) (hx : k < xs.length) :
    ∃ zs : List Value, (setPat w g k xs[k]).ownsRow B 59 4 (.slice (some ⟨g, 0, none⟩) n cap) n zs ∧ zs.take (4 * (k + 1)) = iv (Pa.fl (xs.take (k + 1))) := by
  refine ⟨_, own_setCells (lcPat xs[k]) (k * 4) h, ?_⟩
  have hl := h.1
  have e : (lcPat xs[k]).length = 4 := rfl
  have := putAll_take (lcPat xs[k]) ys (k * 4) (by rw [e]; omega)
  rw [e] at this
  rw [show 4 * (k + 1) = k * 4 + 4 by omega, this, Nat.mul_comm, ht, Pa.fl_snoc hx, iv_append]; rfl
/-- the world with one in a new block: a parameter -/
def boxPat (w : World) (x : Pat) (t : TypeId) : World := w.alloc (.cells #[.int .i64 x.le, .int .i64 x.wi, .int .i64 x.de, .int .i64 x.dn] t)
theorem boxPat_cells (w : World) (x : Pat) (t : TypeId) : PaCells (boxPat w x t) w.heap.size 0 x := by
  have h := fun j => cell_of_row _ w.heap.size j _ t (0, 0) (heap_alloc_new w (.cells #[.int .i64 x.le, .int .i64 x.wi, .int .i64 x.de, .int .i64 x.dn] t))
  exact ⟨h 0, h 1, h 2, h 3⟩
theorem boxPat_size (w : World) (x : Pat) (t : TypeId) : (boxPat w x t).heap.size = w.heap.size + 1 := by simp [boxPat]
theorem boxPat_below (w : World) (x : Pat) (t : TypeId) : Below w.heap.size w (boxPat w x t) := (Below.refl _ _).alloc (Nat.le_refl _) _
/-- what lies in the box lies there still -/
theorem boxPat_kept {w w1 : World} {x : Pat} {t : TypeId} (h : Below (boxPat w x t).heap.size (boxPat w x t) w1) : PaCells w1 w.heap.size 0 x := (boxPat_cells w x t).below h (by rw [boxPat_size]; omega)
/-! ### arguments -/
section
variable {H : Type} {enc : TypeId × Value → H} {P : Program} {w : World} {base : Nat} {spare : Nat → Bool} {held : Bool}
theorem open_Part {r : Reach} {b0 : Nat} {t tI : TypeId} {fs : Array Field} {v : Value} {d : DataW H} {p : List MemPlace} (hs : P.underlying t = some (.struct fs)) (hone : oneCellFields P fs = true) (hC : P.cellsOf t = fs.size) (h7 : fs.size = 4)
    (hI : fs.all (fun f => f.type == tI) = true) (hu : P.underlying tI = some (.int .i64)) (hv : Value.okWide P w r b0 t v) (h : DataW.Trod enc P w base spare held t v d p) : ∃ x : Pat, v = .agg #[.int .i64 x.le, .int .i64 x.wi, .int .i64 x.de, .int .i64 x.dn] := by
  obtain ⟨cs, rfl, hsz⟩ := okWide_struct hs hv
  obtain ⟨l⟩ := cs
  obtain ⟨fuel, hf⟩ := h
  obtain ⟨hl, hn⟩ := nums_of hs hone hC hI hu hf
  have hl' : l.length = 4 := by rw [← h7, ← hl]; rfl
  match l, hl' with
  | [c0, c1, c2, c3], _ =>
    rw [h7] at hn
    obtain ⟨z0, e0⟩ := hn 0 (by omega)
    obtain ⟨z1, e1⟩ := hn 1 (by omega)
    obtain ⟨z2, e2⟩ := hn 2 (by omega)
    obtain ⟨z3, e3⟩ := hn 3 (by omega)
    have f0 : c0 = .int .i64 z0 := by simpa [Value.cells] using e0
    have f1 : c1 = .int .i64 z1 := by simpa [Value.cells] using e1
    have f2 : c2 = .int .i64 z2 := by simpa [Value.cells] using e2
    have f3 : c3 = .int .i64 z3 := by simpa [Value.cells] using e3
    subst f0 f1 f2 f3
    exact ⟨⟨z0, z1, z2, z3⟩, rfl⟩
def atPat (w : World) (b o : Nat) : Pat := ⟨numAt w b (o), numAt w b (o + 1), numAt w b (o + 2), numAt w b (o + 3)⟩
def atsPat (w : World) (b o n : Nat) : List Pat := (List.range n).map fun i => atPat w b (o + i * 4)
theorem fl_rangePat (f : Nat → Pat) (n j : Nat) (z : Int) (h : (Pa.fl ((List.range n).map f))[j]? = some z) : ∃ i k, i < n ∧ k < 4 ∧ j = 4 * i + k ∧ (Pa.lv (f i))[k]? = some z := by
  have hj : j < 4 * n := by
    have := (List.getElem?_eq_some_iff.1 h).1
    rw [Pa.fl_length] at this; simpa using this
  refine ⟨j / 4, j % 4, by omega, by omega, by omega, ?_⟩
  have hi : ((List.range n).map f)[j / 4]? = some (f (j / 4)) := by
    rw [List.getElem?_map, List.getElem?_range (by omega)]; rfl
  rw [← Pa.fl_at hi (show j % 4 < 4 by omega), ← h]
  congr 1; omega
theorem open_PartS {t e tI : TypeId} {fs : Array Field} {fuel : Nat} {cs : List Value} {x : DataW H × List MemPlace} (ht : P.underlying t = some (.slice e)) (he : P.underlying e = some (.struct fs)) (hone : oneCellFields P fs = true) (hC : P.cellsOf e = fs.size) (h7 : fs.size = 4)
    (hI : fs.all (fun f => f.type == tI) = true) (hu : P.underlying tI = some (.int .i64)) (h : DataW.trod enc P w base spare held fuel t cs = some x) :
    ∃ (a : Option Addr) (len cap : Nat) (xs : List Pat), cs = [.slice a len cap] ∧ len ≤ maxLen ∧ xs.length = len ∧ PaSl w (.slice a len cap) xs := by
  rcases open_slice ht h with ⟨rfl, _⟩ | ⟨a, len, cap, m, n, D, Pl, rfl, hb, hl, hm, hmm, hx, hi⟩
  · exact ⟨none, 0, 0, [], rfl, by unfold maxLen; omega, rfl, Or.inl ⟨rfl, _, _, rfl⟩⟩
  · have hlm : len ≤ m := by rw [hmm]; split <;> omega
    rcases Nat.eq_zero_or_pos len with h0 | h0
    · subst h0; exact ⟨_, 0, cap, [], rfl, by omega, rfl, Or.inl ⟨rfl, _, _, rfl⟩⟩
    · have hc : ∀ i, i < len → ∀ j, j < 4 → ∃ z, w.cell? (a.add (i * 4 + j)) = some (.int .i64 z) := by
        intro i hil j hj
        obtain ⟨cs', hc', htr⟩ := hi i (by omega)
        obtain ⟨_, hz⟩ := nums_of he hone hC hI hu htr
        obtain ⟨_, hcl, hat⟩ := World.cells?_some hc'
        rw [hC, h7] at hat
        obtain ⟨z, e⟩ := hz j (by omega)
        refine ⟨z, ?_⟩
        rw [← Go.Deep.add_add, hat j hj, e]
      obtain ⟨b, off, spot⟩ := a
      obtain ⟨z0, e0⟩ := hc 0 h0 0 (by omega)
      have hspot : spot = none := by simpa [Addr.add] using World.cell?_spot e0
      subst hspot
      have hcc : ∀ i, i < len → ∀ j, j < 4 → ∃ z, w.cell? ⟨b, off + i * 4 + j, none⟩ = some (.int .i64 z) := by
        intro i hil j hj
        obtain ⟨z, e⟩ := hc i hil j hj
        rw [add_plain] at e
        exact ⟨z, by rw [Nat.add_assoc]; exact e⟩
      have hlay : ∀ i, i < len → PaCells w b (off + i * 4) (atPat w b (off + i * 4)) := by
        intro i hil
        have g : ∀ j, j < 4 → w.cell? ⟨b, off + i * 4 + j, none⟩ = some (.int .i64 (numAt w b (off + i * 4 + j))) := fun j hj => by
          obtain ⟨z, e⟩ := hcc i hil j hj
          exact numAt_of e
        exact ⟨g 0 (by omega), g 1 (by omega), g 2 (by omega), g 3 (by omega)⟩
      refine ⟨_, len, cap, atsPat w b off len, rfl, by omega, by unfold atsPat; simp, Or.inr ⟨b, off, cap, by unfold atsPat; simp, ?_, ?_⟩⟩
      · obtain ⟨z, e⟩ := hcc 0 h0 0 (by omega)
        exact World.block_lt_of_cell? w _ e
      · intro j z hz
        obtain ⟨i, k, hin, hk, rfl, hlv⟩ := fl_rangePat _ _ _ _ hz
        have L := hlay i hin
        have hk' : k = 0 ∨ k = 1 ∨ k = 2 ∨ k = 3 := by omega
        have ea : off + (4 * i + k) = off + i * 4 + k := by omega
        rw [ea]
        rcases hk' with rfl | rfl | rfl | rfl <;> simp only [Pa.lv, List.getElem?_cons_zero, List.getElem?_cons_succ, Option.some.injEq] at hlv <;> subst hlv
        · exact L.c0
        · exact L.c1
        · exact L.c2
        · exact L.c3
end
end Go.Proofs.YtobcflcmlejajaaDoor
