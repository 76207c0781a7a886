import Derived.Test.YtaldmdammipfjaaGen
import Derived.Test.YtaldmdammipfjaaStd
/-
  Slices of Stand: what they read as, rows of the call's own, arguments opened. No condition of its own.
-/
namespace Go.Proofs.Ytaldmdammipfjaa
open Go.RowKit Go.ChangeShapes Go.WideShapes Go.Deep
set_option linter.unusedVariables false
set_option maxRecDepth 100000

/-- slice value v reads in world w as these -/
def SnSl (w : World) (v : Value) (xs : List Std) : Prop :=
  (xs = [] ∧ ∃ a cap, v = .slice a 0 cap) ∨ ∃ b off cap, v = .slice (some ⟨b, off, none⟩) xs.length cap ∧ b < w.heap.size ∧ ∀ j z, (Sn.fl xs)[j]? = some z → w.cell? ⟨b, off + j, none⟩ = some z
theorem SnSl.below {w w1 : World} {v : Value} {xs : List Std} (h : SnSl w v xs) (hb : Below w.heap.size w w1) : SnSl w1 v xs := by
  rcases h with h | ⟨b, off, cap, rfl, hlt, hc⟩
  · exact Or.inl h
  · exact Or.inr ⟨b, off, cap, rfl, Nat.lt_of_lt_of_le hlt hb.size, fun j x hx => (hb.cell (p := ⟨b, off + j, none⟩) hlt).trans (hc j x hx)⟩
theorem SnSl.form {w : World} {v : Value} {xs : List Std} (h : SnSl w v xs) : ∃ a cap, v = .slice a xs.length cap := by
  rcases h with ⟨rfl, a, cap, rfl⟩ | ⟨b, off, cap, rfl, _⟩ <;> exact ⟨_, _, rfl⟩
/-- the 5 cells of one -/
structure SnCells (w : World) (b o : Nat) (x : Std) : Prop where
  c0 : w.cell? ⟨b, o, none⟩ = some (.string ⟨x.id.toArray⟩)
  c1 : w.cell? ⟨b, o + 1, none⟩ = some (.int .i64 x.tr)
  c2 : w.cell? ⟨b, o + 2, none⟩ = some (.int .i64 x.he)
  c3 : w.cell? ⟨b, o + 3, none⟩ = some (.int .i64 x.co)
  c4 : w.cell? ⟨b, o + 4, none⟩ = some (.int .i64 x.ga)
theorem SnCells.below {w w1 : World} {b o : Nat} {x : Std} (h : SnCells w b o x) {B : Nat} (hb : Below B w w1) (hlt : b < B) : SnCells w1 b o x :=
  ⟨(hb.cell (p := ⟨b, o, none⟩) hlt).trans h.c0, (hb.cell (p := ⟨b, o + 1, none⟩) hlt).trans h.c1, (hb.cell (p := ⟨b, o + 2, none⟩) hlt).trans h.c2, (hb.cell (p := ⟨b, o + 3, none⟩) hlt).trans h.c3, (hb.cell (p := ⟨b, o + 4, none⟩) hlt).trans h.c4⟩
theorem SnCells.zero {w : World} {b : Nat} {x : Std} (h : SnCells w b 0 x) : w.cell? ⟨b, 0, none⟩ = some (.string ⟨x.id.toArray⟩) ∧ w.cell? ⟨b, 1, none⟩ = some (.int .i64 x.tr) ∧ w.cell? ⟨b, 2, none⟩ = some (.int .i64 x.he) ∧ w.cell? ⟨b, 3, none⟩ = some (.int .i64 x.co) ∧ w.cell? ⟨b, 4, none⟩ = some (.int .i64 x.ga) := ⟨h.c0, h.c1, h.c2, h.c3, h.c4⟩
theorem SnCells.drewN {w : World} {b o : Nat} {x : Std} (h : SnCells w b o x) (q : Nat) : SnCells (w.drewN q) b o x :=
  ⟨by simpa using h.c0, by simpa using h.c1, by simpa using h.c2, by simpa using h.c3, by simpa using h.c4⟩
theorem Sncells_of {w : World} {b off : Nat} {xs : List Std} (hc : ∀ j z, (Sn.fl xs)[j]? = some z → w.cell? ⟨b, off + j, none⟩ = some z) {k : Nat} (hk : k < xs.length) : SnCells w b (off + k * 5) xs[k] := by
  have e : ∀ j, j < 5 → w.cell? ⟨b, off + k * 5 + j, none⟩ = (Sn.lv xs[k])[j]? := by
    intro j hj
    have h1 := Sn.fl_at (List.getElem?_eq_getElem hk) hj
    have hlt : j < (Sn.lv xs[k]).length := by rw [Sn.lv_length]; exact hj
    rw [List.getElem?_eq_getElem hlt] at h1 ⊢
    rw [show off + k * 5 + j = off + (5 * k + j) by omega]
    exact hc _ _ h1
  exact ⟨e 0 (by omega), e 1 (by omega), e 2 (by omega), e 3 (by omega), e 4 (by omega)⟩
theorem SnSl.at_ {w : World} {v : Value} {xs : List Std} (h : SnSl w v xs) {k : Nat} (hk : k < xs.length) :
    ∃ b off cap, v = .slice (some ⟨b, off, none⟩) xs.length cap ∧ b < w.heap.size ∧ ∀ j (hj : j < xs.length), SnCells w b (off + j * 5) xs[j] := by
  rcases h with ⟨rfl, _⟩ | ⟨b, off, cap, rfl, hlt, hc⟩
  · cases hk
  · exact ⟨b, off, cap, rfl, hlt, fun j hj => Sncells_of hc hj⟩
theorem SnSl.drewN {w : World} {v : Value} {xs : List Std} (h : SnSl w v xs) (q : Nat) : SnSl (w.drewN q) v xs := h.below (below_drewW w q)
/-! ### rows of the call's own -/
theorem info_Stand : (Try.prog.info? 101).map (fun i => (i.zero, i.size, i.bytes)) = some (some (.agg #[.string ⟨#[]⟩, .int .i64 0, .int .i64 0, .int .i64 0, .int .i64 0]), 5, 48) := by kernel_rfl
/-- slice value v is a row of the call's own (from block B on) that holds these -/
def SnOwn (B : Nat) (w : World) (v : Value) (xs : List Std) : Prop := w.ownsRow B 101 5 v xs.length (Sn.fl xs)
theorem SnOwn.sl {B : Nat} {w : World} {v : Value} {xs : List Std} (h : SnOwn B w v xs) : SnSl w v xs := by
  rcases Go.Joins.ownsRow_forms h with ⟨rfl, hn⟩ | ⟨g, cap, rfl⟩
  · exact Or.inl ⟨List.eq_nil_of_length_eq_zero hn, _, _, rfl⟩
  · refine Or.inr ⟨g, 0, cap, rfl, (World.ownsRow.lt h g rfl).2, fun j x hx => ?_⟩
    have hj : j < (Sn.fl xs).length := (List.getElem?_eq_some_iff.1 hx).1
    rw [Sn.fl_length] at hj
    rw [Nat.zero_add, World.ownsRow.cellAt h j (by omega)]
    exact hx
theorem SnOwn.belowAll {B : Nat} {w w1 : World} {v : Value} {xs : List Std} (h : SnOwn B w v xs) (hb : Below w.heap.size w w1) : SnOwn B w1 v xs := own_belowAll h hb
theorem SnOwn.le {B B' : Nat} {w : World} {v : Value} {xs : List Std} (h : SnOwn B w v xs) (hb : B' ≤ B) : SnOwn B' w v xs := Go.Joins.ownsRow_le h hb
theorem SnOwn.nil (B : Nat) (w : World) : SnOwn B w (.slice none 0 0) [] := World.ownsRow_nil _ _ _ _
theorem SnOwn.far {B x : Nat} {w w1 : World} {v : Value} {xs : List Std} (h : SnOwn B w v xs) (hg : w.grownBy w1 (some x)) (hx : x < B) : SnOwn B w1 v xs := own_far h hg hx
theorem SnOwn.drewN {B : Nat} {w : World} {v : Value} {xs : List Std} (h : SnOwn B w v xs) (q : Nat) : SnOwn B (w.drewN q) v xs := h.belowAll (below_drewW w q)
/-- its cells -/
def lcStd (x : Std) : List Value := [.string ⟨x.id.toArray⟩, .int .i64 x.tr, .int .i64 x.he, .int .i64 x.co, .int .i64 x.ga]
theorem lcStd_eq (x : Std) : lcStd x = Sn.lv x := rfl
/-- a world with one stored at an element -/
def setStd (w : World) (g k : Nat) (x : Std) : World := w.setCells g (k * 5) (lcStd x)
theorem own_setStd {B n cap g k : Nat} {w : World} {ys : List Value} {xs : List Std} (h : w.ownsRow B 101 5 (.slice (some ⟨g, 0, none⟩) n cap) n ys) (ht : ys.take (5 * k) = Sn.fl (xs.take k)) (hk : k < n) (hx : k < xs.length) :
    ∃ zs : List Value, (setStd w g k xs[k]).ownsRow B 101 5 (.slice (some ⟨g, 0, none⟩) n cap) n zs ∧ zs.take (5 * (k + 1)) = Sn.fl (xs.take (k + 1)) := by
  refine ⟨_, own_setCells (lcStd xs[k]) (k * 5) h, ?_⟩
  have hl := h.1
  have e : (lcStd xs[k]).length = 5 := rfl
  have := putAll_take (lcStd xs[k]) ys (k * 5) (by rw [e]; omega)
  rw [e] at this
  rw [show 5 * (k + 1) = k * 5 + 5 by omega, this, Nat.mul_comm, ht, Sn.fl_snoc hx]; rfl
/-- the world with one in a new block: a parameter -/
def boxStd (w : World) (x : Std) (t : TypeId) : World := w.alloc (.cells #[.string ⟨x.id.toArray⟩, .int .i64 x.tr, .int .i64 x.he, .int .i64 x.co, .int .i64 x.ga] t)
theorem boxStd_cells (w : World) (x : Std) (t : TypeId) : SnCells (boxStd w x t) w.heap.size 0 x := by
  have h := fun j => cell_of_row _ w.heap.size j _ t (0, 0) (heap_alloc_new w (.cells #[.string ⟨x.id.toArray⟩, .int .i64 x.tr, .int .i64 x.he, .int .i64 x.co, .int .i64 x.ga] t))
  exact ⟨h 0, h 1, h 2, h 3, h 4⟩
theorem boxStd_size (w : World) (x : Std) (t : TypeId) : (boxStd w x t).heap.size = w.heap.size + 1 := by simp [boxStd]
theorem boxStd_below (w : World) (x : Std) (t : TypeId) : Below w.heap.size w (boxStd w x t) := (Below.refl _ _).alloc (Nat.le_refl _) _
/-- what lies in the box lies there still -/
theorem boxStd_kept {w w1 : World} {x : Std} {t : TypeId} (h : Below (boxStd w x t).heap.size (boxStd w x t) w1) : SnCells w1 w.heap.size 0 x := (boxStd_cells w x t).below h (by rw [boxStd_size]; omega)
/-! ### arguments -/
section
variable {H : Type} {enc : TypeId × Value → H} {P : Program} {w : World} {base : Nat} {spare : Nat → Bool} {held : Bool}
/-- a struct's cells, one a field: each reads as its field's type says -/
theorem Snparts_of {t t0 t1 t2 t3 t4 : TypeId} {fs : Array Field} {fuel : Nat} {cs : List Value} {x : DataW H × List MemPlace} (hs : P.underlying t = some (.struct fs)) (hone : oneCellFields P fs = true) (hC : P.cellsOf t = fs.size) (hF : fs.toList.map (·.type) = [t0, t1, t2, t3, t4])
    (u0 : P.underlying t0 = some .string) (u1 : P.underlying t1 = some (.int .i64)) (u2 : P.underlying t2 = some (.int .i64)) (u3 : P.underlying t3 = some (.int .i64)) (u4 : P.underlying t4 = some (.int .i64)) (h : DataW.trod enc P w base spare held fuel t cs = some x) : ∃ x : Std, cs = Sn.lv x ∧ Sn.Bd x := by
  obtain ⟨ys, n, _, _, hlen, hyl, hf⟩ := DataW.trod_struct hs h
  have h7 : fs.size = 5 := by
    have := congrArg List.length hF
    simpa using this
  have hl' : cs.length = 5 := by rw [hlen, hC, h7]
  have part : ∀ (j : Nat) (tj : TypeId), ([t0, t1, t2, t3, t4] : List TypeId)[j]? = some tj → ∃ (v : Value) (y : DataW H × List MemPlace), cs[j]? = some v ∧ DataW.trod enc P w base spare held n tj [v] = some y := by
    intro j tj hj
    rw [← hF, List.getElem?_map] at hj
    obtain ⟨f, hfj, rfl⟩ := Option.map_eq_some_iff.1 hj
    have hfj' : fs[j]? = some f := by simpa using hfj
    have hjs : j < fs.size := (Array.getElem?_eq_some_iff.1 hfj').1
    have h1 := hf j f hfj'
    obtain ⟨ho, hk⟩ := hone_of hone j f hfj'
    rw [ho, hk] at h1
    have hjc : j < cs.length := by omega
    have hone' : (cs.drop j).take 1 = [cs[j]] := by
      rw [List.drop_eq_getElem_cons hjc]; rfl
    rw [hone'] at h1
    have hjy : j < ys.length := by rw [hyl]; exact hjs
    rw [List.getElem?_eq_getElem hjy] at h1
    exact ⟨cs[j], _, List.getElem?_eq_getElem hjc, h1⟩
  obtain ⟨v0, y0, e0, d0⟩ := part 0 t0 rfl
  obtain ⟨z0, f0, -, m0⟩ := DataW.trod_string u0 d0
  simp only [List.cons.injEq, and_true] at f0
  obtain ⟨v1, y1, e1, d1⟩ := part 1 t1 rfl
  obtain ⟨z1, f1, -⟩ := DataW.trod_int u1 d1
  simp only [List.cons.injEq, and_true] at f1
  obtain ⟨v2, y2, e2, d2⟩ := part 2 t2 rfl
  obtain ⟨z2, f2, -⟩ := DataW.trod_int u2 d2
  simp only [List.cons.injEq, and_true] at f2
  obtain ⟨v3, y3, e3, d3⟩ := part 3 t3 rfl
  obtain ⟨z3, f3, -⟩ := DataW.trod_int u3 d3
  simp only [List.cons.injEq, and_true] at f3
  obtain ⟨v4, y4, e4, d4⟩ := part 4 t4 rfl
  obtain ⟨z4, f4, -⟩ := DataW.trod_int u4 d4
  simp only [List.cons.injEq, and_true] at f4
  have hcs : cs = [v0, v1, v2, v3, v4] := by
    apply List.ext_getElem?
    intro j
    have hj : j = 0 ∨ j = 1 ∨ j = 2 ∨ j = 3 ∨ j = 4 ∨ 5 ≤ j := by omega
    rcases hj with rfl | rfl | rfl | rfl | rfl | hj
    · exact e0
    · exact e1
    · exact e2
    · exact e3
    · exact e4
    · rw [List.getElem?_eq_none (by omega), List.getElem?_eq_none (by show 5 ≤ j; exact hj)]
  refine ⟨⟨z0.data.toList, z1, z2, z3, z4⟩, ?_, by simpa [Sn.Bd] using m0⟩
  rw [hcs]
  simp only [Sn.lv, List.cons.injEq, and_true]
  exact ⟨f0, f1, f2, f3, f4⟩
theorem open_Stand {r : Reach} {b0 : Nat} {t t0 t1 t2 t3 t4 : TypeId} {fs : Array Field} {v : Value} {d : DataW H} {p : List MemPlace} (hs : P.underlying t = some (.struct fs)) (hone : oneCellFields P fs = true) (hC : P.cellsOf t = fs.size) (hF : fs.toList.map (·.type) = [t0, t1, t2, t3, t4])
    (u0 : P.underlying t0 = some .string) (u1 : P.underlying t1 = some (.int .i64)) (u2 : P.underlying t2 = some (.int .i64)) (u3 : P.underlying t3 = some (.int .i64)) (u4 : P.underlying t4 = some (.int .i64)) (hv : Value.okWide P w r b0 t v) (h : DataW.Trod enc P w base spare held t v d p) : ∃ x : Std, v = .agg #[.string ⟨x.id.toArray⟩, .int .i64 x.tr, .int .i64 x.he, .int .i64 x.co, .int .i64 x.ga] ∧ Sn.Bd x := by
  obtain ⟨cs, rfl, hsz⟩ := okWide_struct hs hv
  obtain ⟨l⟩ := cs
  obtain ⟨fuel, hf⟩ := h
  obtain ⟨x, hx, hb⟩ := Snparts_of hs hone hC hF u0 u1 u2 u3 u4 hf
  have hl : l = Sn.lv x := by rw [← hx]; rfl
  subst hl
  exact ⟨x, rfl, hb⟩
/-- the one whose cells lie there -/
noncomputable def atStd (w : World) (b o : Nat) : Std := open Classical in if h : ∃ x : Std, SnCells w b o x ∧ Sn.Bd x then h.choose else ⟨[], 0, 0, 0, 0⟩
theorem atStd_of {w : World} {b o : Nat} (h : ∃ x : Std, SnCells w b o x ∧ Sn.Bd x) : SnCells w b o (atStd w b o) ∧ Sn.Bd (atStd w b o) := by
  unfold atStd
  rw [dif_pos h]
  exact h.choose_spec
noncomputable def atsStd (w : World) (b o n : Nat) : List Std := (List.range n).map fun i => atStd w b (o + i * 5)
theorem fl_rangeStd (f : Nat → Std) (n j : Nat) (z : Value) (h : (Sn.fl ((List.range n).map f))[j]? = some z) : ∃ i k, i < n ∧ k < 5 ∧ j = 5 * i + k ∧ (Sn.lv (f i))[k]? = some z := by
  have hj : j < 5 * n := by
    have := (List.getElem?_eq_some_iff.1 h).1
    rw [Sn.fl_length] at this; simpa using this
  refine ⟨j / 5, j % 5, by omega, by omega, by omega, ?_⟩
  have hi : ((List.range n).map f)[j / 5]? = some (f (j / 5)) := by
    rw [List.getElem?_map, List.getElem?_range (by omega)]; rfl
  rw [← Sn.fl_at hi (show j % 5 < 5 by omega), ← h]
  congr 1; omega
theorem open_StandS {t e t0 t1 t2 t3 t4 : TypeId} {fs : Array Field} {fuel : Nat} {cs : List Value} {x : DataW H × List MemPlace} (ht : P.underlying t = some (.slice e)) (he : P.underlying e = some (.struct fs)) (hone : oneCellFields P fs = true) (hC : P.cellsOf e = fs.size) (hF : fs.toList.map (·.type) = [t0, t1, t2, t3, t4])
    (u0 : P.underlying t0 = some .string) (u1 : P.underlying t1 = some (.int .i64)) (u2 : P.underlying t2 = some (.int .i64)) (u3 : P.underlying t3 = some (.int .i64)) (u4 : P.underlying t4 = some (.int .i64)) (h : DataW.trod enc P w base spare held fuel t cs = some x) :
    ∃ (a : Option Addr) (len cap : Nat) (xs : List Std), cs = [.slice a len cap] ∧ len ≤ maxLen ∧ xs.length = len ∧ SnSl w (.slice a len cap) xs ∧ ∀ x ∈ xs, Sn.Bd x := by
  have h7 : fs.size = 5 := by
    have := congrArg List.length hF
    simpa using this
  rcases open_slice ht h with ⟨rfl, _⟩ | ⟨a, len, cap, m, n, D, Pl, rfl, hb, hl, hm, hmm, hx, hi⟩
  · exact ⟨none, 0, 0, [], rfl, by unfold maxLen; omega, rfl, Or.inl ⟨rfl, _, _, rfl⟩, fun _ h => by cases h⟩
  · have hlm : len ≤ m := by rw [hmm]; split <;> omega
    rcases Nat.eq_zero_or_pos len with h0 | h0
    · subst h0; exact ⟨_, 0, cap, [], rfl, by omega, rfl, Or.inl ⟨rfl, _, _, rfl⟩, fun _ h => by cases h⟩
    · have hc : ∀ i, i < len → ∃ y : Std, (∀ j, j < 5 → w.cell? (a.add (i * 5 + j)) = (Sn.lv y)[j]?) ∧ Sn.Bd y := by
        intro i hil
        obtain ⟨cs', hc', htr⟩ := hi i (by omega)
        obtain ⟨y, hy, hbd⟩ := Snparts_of he hone hC hF u0 u1 u2 u3 u4 htr
        obtain ⟨_, hcl, hat⟩ := World.cells?_some hc'
        rw [hC, h7] at hat
        refine ⟨y, fun j hj => ?_, hbd⟩
        rw [← Go.Deep.add_add, hat j hj, hy]
      obtain ⟨b, off, spot⟩ := a
      obtain ⟨y0, e0, _⟩ := hc 0 h0
      have e00 := e0 0 (by omega)
      rw [List.getElem?_eq_getElem (show 0 < (Sn.lv y0).length by rw [Sn.lv_length]; omega)] at e00
      have hspot : spot = none := by simpa [Addr.add] using World.cell?_spot e00
      subst hspot
      have hlay : ∀ i, i < len → SnCells w b (off + i * 5) (atStd w b (off + i * 5)) ∧ Sn.Bd (atStd w b (off + i * 5)) := by
        intro i hil
        obtain ⟨y, hy, hbd⟩ := hc i hil
        apply atStd_of
        have g : ∀ j, j < 5 → w.cell? ⟨b, off + i * 5 + j, none⟩ = (Sn.lv y)[j]? := fun j hj => by
          have e := hy j hj
          rw [add_plain] at e
          rw [← e, Nat.add_assoc]
        exact ⟨y, ⟨g 0 (by omega), g 1 (by omega), g 2 (by omega), g 3 (by omega), g 4 (by omega)⟩, hbd⟩
      refine ⟨_, len, cap, atsStd w b off len, rfl, by omega, by unfold atsStd; simp, Or.inr ⟨b, off, cap, by unfold atsStd; simp, ?_, ?_⟩, ?_⟩
      · exact World.block_lt_of_cell? w _ (hlay 0 h0).1.c0
      · intro j z hz
        obtain ⟨i, k, hin, hk, rfl, hlv⟩ := fl_rangeStd _ _ _ _ hz
        have L := (hlay i hin).1
        have hk' : k = 0 ∨ k = 1 ∨ k = 2 ∨ k = 3 ∨ k = 4 := by omega
        have ea : off + (5 * i + k) = off + i * 5 + k := by omega
        rw [ea]
        rcases hk' with rfl | rfl | rfl | rfl | rfl <;> simp only [Sn.lv, List.getElem?_cons_zero, List.getElem?_cons_succ, Option.some.injEq] at hlv <;> subst hlv
        · exact L.c0
        · exact L.c1
        · exact L.c2
        · exact L.c3
        · exact L.c4
      · intro x hx
        unfold atsStd at hx
        obtain ⟨i, hi', rfl⟩ := List.mem_map.1 hx
        exact (hlay i (List.mem_range.1 hi')).2
end
end Go.Proofs.Ytaldmdammipfjaa
