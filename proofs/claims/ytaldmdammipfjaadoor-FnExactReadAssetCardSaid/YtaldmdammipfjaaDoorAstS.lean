import Derived.Test.YtaldmdammipfjaaDoorAst
import Derived.Test.YtaldmdammipfjaaDoorFdL
/-
  Asset: its cells, slices of it, rows of the call's own, arguments opened. No condition of its own.
-/
namespace Go.Proofs.YtaldmdammipfjaaDoor
open Go.RowKit Go.ChangeShapes Go.WideShapes Go.Deep
set_option linter.unusedVariables false
set_option maxRecDepth 100000

/-- the cells of one, its list in u -/
structure AsCells (w : World) (b o : Nat) (x : Ast) (u : Value) : Prop where
  c0 : w.cell? ⟨b, o, none⟩ = some (.string ⟨x.id.toArray⟩)
  c1 : w.cell? ⟨b, o + 1, none⟩ = some (u)
  c2 : w.cell? ⟨b, o + 2, none⟩ = some (.int .i64 x.wo)
  sl : Sl w u x.ce
theorem AsCells.lt {w : World} {b o : Nat} {x : Ast} {u : Value} (h : AsCells w b o x u) : b < w.heap.size := World.block_lt_of_cell? w _ h.c0
theorem AsCells.all {w w1 : World} {b o : Nat} {x : Ast} {u : Value} (h : AsCells w b o x u) (hb : Below w.heap.size w w1) : AsCells w1 b o x u :=
  ⟨(hb.cell (p := ⟨b, o, none⟩) h.lt).trans h.c0, (hb.cell (p := ⟨b, o + 1, none⟩) h.lt).trans h.c1, (hb.cell (p := ⟨b, o + 2, none⟩) h.lt).trans h.c2, h.sl.below hb⟩
theorem AsCells.drewN {w : World} {b o : Nat} {x : Ast} {u : Value} (h : AsCells w b o x u) (k : Nat) : AsCells (w.drewN k) b o x u := h.all (below_drewW w k)
/-- slice value v reads in world w as these -/
def AsSl (w : World) (v : Value) (xs : List Ast) : Prop :=
  (xs = [] ∧ ∃ a cap, v = .slice a 0 cap) ∨ ∃ b off cap, v = .slice (some ⟨b, off, none⟩) xs.length cap ∧ b < w.heap.size ∧ ∀ j (hj : j < xs.length), ∃ u, AsCells w b (off + j * 3) xs[j] u
theorem AsSl.below {w w1 : World} {v : Value} {xs : List Ast} (h : AsSl w v xs) (hb : Below w.heap.size w w1) : AsSl w1 v xs := by
  rcases h with h | ⟨b, off, cap, rfl, hlt, hc⟩
  · exact Or.inl h
  · exact Or.inr ⟨b, off, cap, rfl, Nat.lt_of_lt_of_le hlt hb.size, fun j hj => by obtain ⟨u, h⟩ := hc j hj; exact ⟨u, h.all hb⟩⟩
theorem AsSl.drewN {w : World} {v : Value} {xs : List Ast} (h : AsSl w v xs) (k : Nat) : AsSl (w.drewN k) v xs := h.below (below_drewW w k)
theorem AsSl.form {w : World} {v : Value} {xs : List Ast} (h : AsSl w v xs) : ∃ a cap, v = .slice a xs.length cap := by
  rcases h with ⟨rfl, a, cap, rfl⟩ | ⟨b, off, cap, rfl, _⟩ <;> exact ⟨_, _, rfl⟩
theorem AsSl.at_ {w : World} {v : Value} {xs : List Ast} (h : AsSl w v xs) {k : Nat} (hk : k < xs.length) :
    ∃ b off cap, v = .slice (some ⟨b, off, none⟩) xs.length cap ∧ b < w.heap.size ∧ ∀ j (hj : j < xs.length), ∃ u, AsCells w b (off + j * 3) xs[j] u := by
  rcases h with ⟨rfl, _⟩ | ⟨b, off, cap, rfl, hlt, hc⟩
  · cases hk
  · exact ⟨b, off, cap, rfl, hlt, hc⟩
/-- where the elements lie, and the values of their lists -/
noncomputable def Asu (w : World) (b o : Nat) : Value := match w.cell? ⟨b, o + 1, none⟩ with | some v => v | none => .slice none 0 0
theorem AsSl.known {w : World} {v : Value} {xs : List Ast} (h : AsSl w v xs) {k : Nat} (hk : k < xs.length) :
    ∃ b off cap, v = .slice (some ⟨b, off, none⟩) xs.length cap ∧ b < w.heap.size ∧ ∀ j (hj : j < xs.length), AsCells w b (off + j * 3) xs[j] (Asu w b (off + j * 3)) := by
  obtain ⟨b, off, cap, h1, h2, hc⟩ := h.at_ hk
  refine ⟨b, off, cap, h1, h2, fun j hj => ?_⟩
  obtain ⟨u, hu⟩ := hc j hj
  have : Asu w b (off + j * 3) = u := by unfold Asu; rw [hu.c1]
  rw [this]; exact hu
/-! ### rows of the call's own -/
theorem info_Asset : (Tryd.prog.info? 48).map (fun i => (i.zero, i.size)) = some (some (.agg #[.string ⟨#[]⟩, .slice none 0 0, .int .i64 0]), 3) := by kernel_rfl
/-- one with the block of its list -/
structure AstR where
  x : Ast
  b : Nat
namespace As
def rv (t : AstR) : Value := .slice (some ⟨t.b, 0, none⟩) t.x.ce.length t.x.ce.length
def lr (t : AstR) : List Value := [.string ⟨t.x.id.toArray⟩, rv t, .int .i64 t.x.wo]
def fr (L : List AstR) : List Value := L.flatMap lr
theorem lr_length (t : AstR) : (lr t).length = 3 := rfl
theorem fr_cons (t : AstR) (L : List AstR) : fr (t :: L) = lr t ++ fr L := rfl
theorem fr_app (a b : List AstR) : fr (a ++ b) = fr a ++ fr b := by unfold fr; rw [List.flatMap_append]
theorem fr_one (t : AstR) : fr [t] = lr t := by simp [fr]
theorem fr_length (L : List AstR) : (fr L).length = 3 * L.length := by
  induction L with
  | nil => rfl
  | cons x xs ih => rw [fr_cons, List.length_append, lr_length, ih, List.length_cons]; omega
theorem fr_at {L : List AstR} {i : Nat} {t : AstR} (h : L[i]? = some t) {j : Nat} (hj : j < 3) : (fr L)[3 * i + j]? = (lr t)[j]? := by
  induction L generalizing i with
  | nil => cases h
  | cons y ys ih =>
    rw [fr_cons]
    cases i with
    | zero =>
      simp only [List.getElem?_cons_zero, Option.some.injEq] at h
      subst h
      rw [Nat.mul_zero, Nat.zero_add, List.getElem?_append_left (by rw [lr_length]; omega)]
    | succ i =>
      rw [List.getElem?_cons_succ] at h
      rw [List.getElem?_append_right (by rw [lr_length]; omega), lr_length, show 3 * (i + 1) + j - 3 = 3 * i + j by omega]
      exact ih h
end As
/-- a row of them, with the lists that go with it; all blocks from B on and below n -/
structure AsG (B n : Nat) (w : World) (g : Nat) (L : List AstR) : Prop where
  outer : w.ownsRow B 48 3 (.slice (some ⟨g, 0, none⟩) L.length L.length) L.length (As.fr L)
  row : ∀ t ∈ L, Own B w (As.rv t) t.x.ce
  nd : (L.map (·.b)).Nodup
  far : ∀ t ∈ L, g < t.b ∧ t.b < n
  top : g < n
def AsOwn (B n : Nat) (w : World) (g : Nat) (xs : List Ast) : Prop := ∃ L, AsG B n w g L ∧ L.map (·.x) = xs
theorem AsG.belowAll {B n g : Nat} {w w1 : World} {L : List AstR} (h : AsG B n w g L) (hb : Below w.heap.size w w1) : AsG B n w1 g L :=
  ⟨own_belowAll h.outer hb, fun t ht => (h.row t ht).belowAll hb, h.nd, h.far, h.top⟩
theorem AsOwn.belowAll {B n g : Nat} {w w1 : World} {xs : List Ast} (h : AsOwn B n w g xs) (hb : Below w.heap.size w w1) : AsOwn B n w1 g xs := by
  obtain ⟨L, h, e⟩ := h; exact ⟨L, h.belowAll hb, e⟩
theorem AsOwn.far {B n g x : Nat} {w w1 : World} {xs : List Ast} (h : AsOwn B n w g xs) (hg : w.grownBy w1 (some x)) (hx : x < B) : AsOwn B n w1 g xs := by
  obtain ⟨L, h, e⟩ := h; exact ⟨L, ⟨own_far h.outer hg hx, fun t ht => (h.row t ht).far hg hx, h.nd, h.far, h.top⟩, e⟩
theorem AsG.cells {B n g : Nat} {w : World} {L : List AstR} (h : AsG B n w g L) {k : Nat} (hk : k < L.length) : AsCells w g (k * 3) L[k].x (As.rv L[k]) := by
  have e : ∀ j, j < 3 → w.cell? ⟨g, k * 3 + j, none⟩ = (As.lr L[k])[j]? := by
    intro j hj
    have h1 := As.fr_at (List.getElem?_eq_getElem hk) hj
    have := h.outer.cellAt (k * 3 + j) (by omega)
    rw [this, show k * 3 + j = 3 * k + j by omega, h1]
  exact ⟨e 0 (by omega), e 1 (by omega), e 2 (by omega), (h.row _ (List.getElem_mem hk)).sl⟩
theorem AsOwn.sl {B n g : Nat} {w : World} {xs : List Ast} (h : AsOwn B n w g xs) : AsSl w (.slice (some ⟨g, 0, none⟩) xs.length xs.length) xs := by
  obtain ⟨L, h, rfl⟩ := h
  refine Or.inr ⟨g, 0, _, rfl, (World.ownsRow.lt h.outer g rfl).2, fun j hj => ⟨As.rv (L[j]'(by simpa using hj)), ?_⟩⟩
  rw [Nat.zero_add, List.getElem_map]
  exact h.cells (by simpa using hj)
/-! ### arguments -/
section
variable {H : Type} {enc : TypeId × Value → H} {P : Program} {w : World} {base : Nat} {held : Bool}
theorem Asparts_of {t t0 t1 t2 tI : TypeId} {fs : Array Field} {fuel : Nat} {cs : List Value} {x : DataW H × List MemPlace} (hs : P.underlying t = some (.struct fs)) (hone : oneCellFields P fs = true) (hC : P.cellsOf t = fs.size) (hF : fs.toList.map (·.type) = [t0, t1, t2])
    (u0 : P.underlying t0 = some .string) (u1 : P.underlying t1 = some (.slice tI)) (u2 : P.underlying t2 = some (.int .i64)) (uI : P.underlying tI = some (.int .i64)) (hc1 : P.cellsOf tI = 1) (h : DataW.trod enc P w base (fun _ => true) held fuel t cs = some x) : ∃ (x : Ast) (u : Value), cs = [.string ⟨x.id.toArray⟩, u, .int .i64 x.wo] ∧ As.Bd x ∧ Sl w u x.ce ∧ ∃ a cap, u = .slice a x.ce.length cap := by
  obtain ⟨ys, n, _, _, hlen, hyl, hf⟩ := DataW.trod_struct hs h
  have h7 : fs.size = 3 := by
    have := congrArg List.length hF
    simpa using this
  have hl' : cs.length = 3 := by rw [hlen, hC, h7]
  have part : ∀ (j : Nat) (tj : TypeId), ([t0, t1, t2] : List TypeId)[j]? = some tj → ∃ (v : Value) (y : DataW H × List MemPlace), cs[j]? = some v ∧ DataW.trod enc P w base (fun _ => true) held n tj [v] = some y := by
    intro j tj hj
    rw [← hF, List.getElem?_map] at hj
    obtain ⟨f, hfj, rfl⟩ := Option.map_eq_some_iff.1 hj
    have hfj' : fs[j]? = some f := by simpa using hfj
    have hjs : j < fs.size := (Array.getElem?_eq_some_iff.1 hfj').1
    have h1 := hf j f hfj'
    obtain ⟨ho, hk⟩ := hone_of hone j f hfj'
    rw [ho, hk] at h1
    have hjc : j < cs.length := by omega
    have hone' : (cs.drop j).take 1 = [cs[j]] := by
      rw [List.drop_eq_getElem_cons hjc]; rfl
    rw [hone'] at h1
    have hjy : j < ys.length := by rw [hyl]; exact hjs
    rw [List.getElem?_eq_getElem hjy] at h1
    exact ⟨cs[j], _, List.getElem?_eq_getElem hjc, h1⟩
  obtain ⟨v0, y0, e0, d0⟩ := part 0 t0 rfl
  obtain ⟨z0, f0, -, m0⟩ := DataW.trod_string u0 d0
  simp only [List.cons.injEq, and_true] at f0
  obtain ⟨v1, y1, e1, d1⟩ := part 1 t1 rfl
  obtain ⟨a1, p1, z1, f1, m1, s1⟩ : ∃ (a : Option Addr) (cap : Nat) (zs : List Int), v1 = .slice a zs.length cap ∧ zs.length ≤ maxLen ∧ Sl w (.slice a zs.length cap) zs := by
    rcases open_ints u1 uI hc1 d1 with ⟨hcs, _⟩ | ⟨a, len, cap, zs, hcs, _, hl1, hm, hz, _, hcell, hwz⟩
    · simp only [List.cons.injEq, and_true] at hcs
      subst hcs
      exact ⟨none, 0, [], rfl, by simp, Or.inl ⟨rfl, _, _, rfl⟩⟩
    · simp only [List.cons.injEq, and_true] at hcs
      subst hcs
      have hz' : zs.length = cap := by simpa using hz
      obtain ⟨s1, s2⟩ := Sl.of_row (w := w) (a := some a) (len := len) (cap := cap) (zs := zs) (Or.inr ⟨a, rfl, hl1, hm, hz', hcell, hwz⟩)
      exact ⟨some a, cap, zs.take len, by rw [s2], by rw [s2]; omega, by rw [s2]; exact s1⟩
  obtain ⟨v2, y2, e2, d2⟩ := part 2 t2 rfl
  obtain ⟨z2, f2, -⟩ := DataW.trod_int u2 d2
  simp only [List.cons.injEq, and_true] at f2
  have hcs : cs = [v0, v1, v2] := by
    apply List.ext_getElem?
    intro j
    have hj : j = 0 ∨ j = 1 ∨ j = 2 ∨ 3 ≤ j := by omega
    rcases hj with rfl | rfl | rfl | hj
    · exact e0
    · exact e1
    · exact e2
    · rw [List.getElem?_eq_none (by omega), List.getElem?_eq_none (by show 3 ≤ j; exact hj)]
  refine ⟨⟨z0.data.toList, z1, z2⟩, v1, ?_, ⟨by simpa using m0, m1⟩, by rw [f1]; exact s1, a1, p1, f1⟩
  rw [hcs]
  rw [f0, f2]
theorem open_Asset {r : Reach} {b0 : Nat} {t t0 t1 t2 tI : TypeId} {fs : Array Field} {v : Value} {d : DataW H} {p : List MemPlace} (hs : P.underlying t = some (.struct fs)) (hone : oneCellFields P fs = true) (hC : P.cellsOf t = fs.size) (hF : fs.toList.map (·.type) = [t0, t1, t2])
    (u0 : P.underlying t0 = some .string) (u1 : P.underlying t1 = some (.slice tI)) (u2 : P.underlying t2 = some (.int .i64)) (uI : P.underlying tI = some (.int .i64)) (hc1 : P.cellsOf tI = 1) (hv : Value.okWide P w r b0 t v) (h : DataW.Trod enc P w base (fun _ => true) held t v d p) : ∃ (x : Ast) (a : Option Addr) (cap : Nat), v = .agg #[.string ⟨x.id.toArray⟩, .slice a x.ce.length cap, .int .i64 x.wo] ∧ As.Bd x ∧ Sl w (.slice a x.ce.length cap) x.ce := by
  obtain ⟨cs, rfl, hsz⟩ := okWide_struct hs hv
  obtain ⟨l⟩ := cs
  obtain ⟨fuel, hf⟩ := h
  obtain ⟨x, u, hx, hb, hsl, a, cap, rfl⟩ := Asparts_of hs hone hC hF u0 u1 u2 uI hc1 hf
  have hl : l = [.string ⟨x.id.toArray⟩, .slice a x.ce.length cap, .int .i64 x.wo] := by rw [← hx]; rfl
  subst hl
  exact ⟨x, a, cap, rfl, hb, hsl⟩
/-- the one whose cells lie there -/
noncomputable def atAst (w : World) (b o : Nat) : Ast := open Classical in if h : ∃ (x : Ast) (u : Value), AsCells w b o x u ∧ As.Bd x then h.choose else ⟨[], [], 0⟩
theorem atAst_of {w : World} {b o : Nat} (h : ∃ (x : Ast) (u : Value), AsCells w b o x u ∧ As.Bd x) : ∃ u, AsCells w b o (atAst w b o) u ∧ As.Bd (atAst w b o) := by
  unfold atAst
  rw [dif_pos h]
  exact h.choose_spec
noncomputable def atsAst (w : World) (b o n : Nat) : List Ast := (List.range n).map fun i => atAst w b (o + i * 3)
theorem open_AssetS {t e t0 t1 t2 tI : TypeId} {fs : Array Field} {fuel : Nat} {cs : List Value} {x : DataW H × List MemPlace} (ht : P.underlying t = some (.slice e)) (he : P.underlying e = some (.struct fs)) (hone : oneCellFields P fs = true) (hC : P.cellsOf e = fs.size) (hF : fs.toList.map (·.type) = [t0, t1, t2])
    (u0 : P.underlying t0 = some .string) (u1 : P.underlying t1 = some (.slice tI)) (u2 : P.underlying t2 = some (.int .i64)) (uI : P.underlying tI = some (.int .i64)) (hc1 : P.cellsOf tI = 1) (h : DataW.trod enc P w base (fun _ => true) held fuel t cs = some x) :
    ∃ (a : Option Addr) (len cap : Nat) (xs : List Ast), cs = [.slice a len cap] ∧ len ≤ maxLen ∧ xs.length = len ∧ AsSl w (.slice a len cap) xs ∧ ∀ x ∈ xs, As.Bd x := by
  have h7 : fs.size = 3 := by
    have := congrArg List.length hF
    simpa using this
  rcases open_slice ht h with ⟨rfl, _⟩ | ⟨a, len, cap, m, n, D, Pl, rfl, hb, hl, hm, hmm, hx, hi⟩
  · exact ⟨none, 0, 0, [], rfl, by unfold maxLen; omega, rfl, Or.inl ⟨rfl, _, _, rfl⟩, fun _ h => by cases h⟩
  · have hlm : len ≤ m := by rw [hmm]; split <;> omega
    rcases Nat.eq_zero_or_pos len with h0 | h0
    · subst h0; exact ⟨_, 0, cap, [], rfl, by omega, rfl, Or.inl ⟨rfl, _, _, rfl⟩, fun _ h => by cases h⟩
    · have hc : ∀ i, i < len → ∃ (x : Ast) (u : Value), (∀ j, j < 3 → w.cell? (a.add (i * 3 + j)) = ([.string ⟨x.id.toArray⟩, u, .int .i64 x.wo] : List Value)[j]?) ∧ As.Bd x ∧ Sl w u x.ce := by
        intro i hil
        obtain ⟨cs', hc', htr⟩ := hi i (by omega)
        obtain ⟨y, u, hy, hbd, hsl, -⟩ := Asparts_of he hone hC hF u0 u1 u2 uI hc1 htr
        obtain ⟨_, hcl, hat⟩ := World.cells?_some hc'
        rw [hC, h7] at hat
        refine ⟨y, u, fun j hj => ?_, hbd, hsl⟩
        rw [← Go.Deep.add_add, hat j hj, hy]
      obtain ⟨b, off, spot⟩ := a
      obtain ⟨y0, u0', e0, _⟩ := hc 0 h0
      have e00 := e0 0 (by omega)
      rw [List.getElem?_cons_zero] at e00
      have hspot : spot = none := by simpa [Addr.add] using World.cell?_spot e00
      subst hspot
      have hlay : ∀ i, i < len → ∃ u, AsCells w b (off + i * 3) (atAst w b (off + i * 3)) u ∧ As.Bd (atAst w b (off + i * 3)) := by
        intro i hil
        obtain ⟨y, u, hy, hbd, hsl⟩ := hc i hil
        apply atAst_of
        have g : ∀ j, j < 3 → w.cell? ⟨b, off + i * 3 + j, none⟩ = ([.string ⟨y.id.toArray⟩, u, .int .i64 y.wo] : List Value)[j]? := fun j hj => by
          have e := hy j hj
          rw [add_plain] at e
          rw [← e, Nat.add_assoc]
        exact ⟨y, u, ⟨g 0 (by omega), g 1 (by omega), g 2 (by omega), hsl⟩, hbd⟩
      refine ⟨_, len, cap, atsAst w b off len, rfl, by omega, by unfold atsAst; simp, Or.inr ⟨b, off, cap, by unfold atsAst; simp, ?_, ?_⟩, ?_⟩
      · obtain ⟨u, hu, -⟩ := hlay 0 h0
        exact hu.lt
      · intro j hj
        have hj' : j < len := by unfold atsAst at hj; simpa using hj
        obtain ⟨u, hu, -⟩ := hlay j hj'
        refine ⟨u, ?_⟩
        simp only [atsAst, List.getElem_map, List.getElem_range]
        exact hu
      · intro x hx
        unfold atsAst at hx
        obtain ⟨i, hi', rfl⟩ := List.mem_map.1 hx
        obtain ⟨u, -, h⟩ := hlay i (List.mem_range.1 hi')
        exact h
end
end Go.Proofs.YtaldmdammipfjaaDoor
