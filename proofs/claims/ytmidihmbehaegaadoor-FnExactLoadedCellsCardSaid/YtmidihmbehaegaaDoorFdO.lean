/-
  Fields as arguments: two numbers and a slice of numbers; a field in a block. No condition of its own.
-/
import Derived.Test.YtmidihmbehaegaaDoorGen
import Derived.Test.YtmidihmbehaegaaDoorIntsM
namespace Go.Proofs.YtmidihmbehaegaaDoor
open Go.RowKit Go.ChangeShapes Go.WideShapes Go.Deep
set_option linter.unusedVariables false
set_option maxRecDepth 100000

section
variable {H : Type} {enc : TypeId × Value → H} {P : Program} {w : World} {base : Nat} {held : Bool}
theorem open_field {r : Reach} {b0 : Nat} {t tI tS : TypeId} {fs : Array Field} {v : Value} {d : DataW H} {p : List MemPlace} (hs : P.underlying t = some (.struct fs)) (hone : oneCellFields P fs = true) (hC : P.cellsOf t = fs.size)
    (hT : fs.toList.map (·.type) = [tI, tI, tS]) (hu : P.underlying tI = some (.int .i64)) (hS : P.underlying tS = some (.slice tI)) (hc : P.cellsOf tI = 1) (hv : Value.okWide P w r b0 t v) (h : DataW.Trod enc P w base (fun _ => true) held t v d p) :
    ∃ (x y : Int) (a : Option Addr) (cap : Nat) (zs : List Int), v = .agg #[.int .i64 x, .int .i64 y, .slice a zs.length cap] ∧ zs.length ≤ maxLen ∧ Sl w (.slice a zs.length cap) zs ∧ (Lit.int .i64 x).wf = true ∧ (Lit.int .i64 y).wf = true := by
  obtain ⟨cs, rfl, hsz⟩ := okWide_struct hs hv
  obtain ⟨l⟩ := cs
  obtain ⟨fuel, hf⟩ := h
  obtain ⟨ys, n, _, _, hlen, hyl, hf⟩ := DataW.trod_struct hs hf
  obtain ⟨fs⟩ := fs
  have hlf : fs.length = 3 := by have := congrArg List.length hT; simpa using this
  match fs, hlf, hT with
  | [f0, f1, f2], _, hT =>
    simp only [List.map_cons, List.map_nil, List.cons.injEq, and_true] at hT
    obtain ⟨t0, t1, t2⟩ := hT
    have hl : l.length = 3 := by
      have : l.length = P.cellsOf t := hlen
      rw [this, hC]; rfl
    match l, hl with
    | [c0, c1, c2], _ =>
      match ys, hyl with
      | [y0, y1, y2], _ =>
        obtain ⟨o0, k0⟩ := hone_of hone 0 f0 rfl
        obtain ⟨o1, k1⟩ := hone_of hone 1 f1 rfl
        obtain ⟨o2, k2⟩ := hone_of hone 2 f2 rfl
        have h0 := hf 0 f0 rfl
        have h1 := hf 1 f1 rfl
        have h2 := hf 2 f2 rfl
        rw [o0, k0, t0] at h0
        rw [o1, k1, t1] at h1
        rw [o2, k2, t2] at h2
        simp only [Value.cells, List.drop_zero, List.drop_succ_cons, List.take_succ_cons, List.take_zero, List.getElem?_cons_zero, List.getElem?_cons_succ] at h0 h1 h2
        obtain ⟨x, hx, gx⟩ := DataW.trod_int hu h0
        obtain ⟨y, hy, gy⟩ := DataW.trod_int hu h1
        simp only [List.cons.injEq, and_true] at hx hy
        subst hx hy
        rcases open_ints hS hu hc h2 with ⟨hcs, _⟩ | ⟨a, len, cap, zs, hcs, _, hl1, hm, hz, _, hcell, hwz⟩
        · simp only [List.cons.injEq, and_true] at hcs
          subst hcs
          exact ⟨x, y, none, 0, [], rfl, by simp, Or.inl ⟨rfl, _, _, rfl⟩, gx.2, gy.2⟩
        · simp only [List.cons.injEq, and_true] at hcs
          subst hcs
          have hz' : zs.length = cap := by simpa using hz
          obtain ⟨s1, s2⟩ := Sl.of_row (w := w) (a := some a) (len := len) (cap := cap) (zs := zs) (Or.inr ⟨a, rfl, hl1, hm, hz', hcell, hwz⟩)
          refine ⟨x, y, some a, cap, zs.take len, by rw [s2], by rw [s2]; omega, by rw [s2]; exact s1, gx.2, gy.2⟩
end
/-- the three cells of a field -/
structure FC (w : World) (b : Nat) (r c : Int) (v : Value) : Prop where
  c0 : w.cell? ⟨b, 0, none⟩ = some (.int .i64 r)
  c1 : w.cell? ⟨b, 1, none⟩ = some (.int .i64 c)
  c2 : w.cell? ⟨b, 2, none⟩ = some v
theorem FC.below {w w1 : World} {b : Nat} {r c : Int} {v : Value} (h : FC w b r c v) {B : Nat} (hb : Below B w w1) (hlt : b < B) : FC w1 b r c v :=
  ⟨(hb.cell (p := ⟨b, 0, none⟩) hlt).trans h.c0, (hb.cell (p := ⟨b, 1, none⟩) hlt).trans h.c1, (hb.cell (p := ⟨b, 2, none⟩) hlt).trans h.c2⟩
theorem FC.lt {w : World} {b : Nat} {r c : Int} {v : Value} (h : FC w b r c v) : b < w.heap.size := World.block_lt_of_cell? w _ h.c0
theorem FC.all {w w1 : World} {b : Nat} {r c : Int} {v : Value} (h : FC w b r c v) (hb : Below w.heap.size w w1) : FC w1 b r c v := h.below hb h.lt
theorem FC.drewN {w : World} {b : Nat} {r c : Int} {v : Value} (h : FC w b r c v) (q : Nat) : FC (w.drewN q) b r c v := ⟨by simpa using h.c0, by simpa using h.c1, by simpa using h.c2⟩
/-- the world with a field in a new block -/
def boxF (w : World) (r c : Int) (v : Value) (t : TypeId) : World := w.alloc (.cells #[.int .i64 r, .int .i64 c, v] t)
theorem boxF_cells (w : World) (r c : Int) (v : Value) (t : TypeId) : FC (boxF w r c v t) w.heap.size r c v := by
  have h := fun j => cell_of_row _ w.heap.size j _ t (0, 0) (heap_alloc_new w (.cells #[.int .i64 r, .int .i64 c, v] t))
  exact ⟨h 0, h 1, h 2⟩
theorem boxF_size (w : World) (r c : Int) (v : Value) (t : TypeId) : (boxF w r c v t).heap.size = w.heap.size + 1 := by simp [boxF]
theorem boxF_below (w : World) (r c : Int) (v : Value) (t : TypeId) : Below w.heap.size w (boxF w r c v t) := (Below.refl _ _).alloc (Nat.le_refl _) _
theorem boxF_kept {w w1 : World} {r c : Int} {v : Value} {t : TypeId} (h : Below (boxF w r c v t).heap.size (boxF w r c v t) w1) : FC w1 w.heap.size r c v := (boxF_cells w r c v t).below h (by rw [boxF_size]; omega)
/-- a row is as it was where one other block alone has changed -/
theorem own_other {B x g n cap : Nat} {w w1 : World} {e : TypeId} {size : Nat} {xs : List Value} (h : w.ownsRow B e size (.slice (some ⟨g, 0, none⟩) n cap) n xs) (hg : w.grownBy w1 (some x)) (hx : g ≠ x) : w1.ownsRow B e size (.slice (some ⟨g, 0, none⟩) n cap) n xs := by
  refine ⟨h.1, ?_⟩
  rcases h.2 with ⟨hv, hn⟩ | ⟨g', cap', cur, hv, hbg, hh, hnc, hcm, hs, ht⟩
  · cases hv
  · simp only [Value.slice.injEq, Option.some.injEq, Addr.mk.injEq, and_true] at hv
    obtain ⟨rfl, -, rfl⟩ := hv
    have hg' : g < w.heap.size := by
      rcases Nat.lt_or_ge g w.heap.size with h' | h'
      · exact h'
      · rw [Array.getElem?_eq_none h'] at hh; cases hh
    exact Or.inr ⟨g, cap, cur, rfl, hbg, (hg.block g hg' (by simp; omega)).trans hh, hnc, hcm, hs, ht⟩
end Go.Proofs.YtmidihmbehaegaaDoor
