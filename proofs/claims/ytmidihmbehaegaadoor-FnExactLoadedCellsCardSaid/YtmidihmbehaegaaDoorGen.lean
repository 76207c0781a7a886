/-
  What serves slices of every struct type of int64 fields: rows of the call's own, cells put one after the other, a struct's cells as numbers. No condition of its own.
-/
import Derived.Test.YtmidihmbehaegaaDoorInts
import Derived.Deep.MidRow
import Derived.Laws.MakeOwn
import Derived.Laws.IdiomCopy
import Derived.Deep.Slices
import Derived.Deep.Fields
import Derived.ChangeSame
import Derived.ChangeArms
import Derived.DataReads
import Derived.OpenShut
namespace Go.Proofs.YtmidihmbehaegaaDoor
open Go.RowKit Go.ChangeShapes Go.WideShapes Go.Deep
set_option linter.unusedVariables false

theorem below_drewW (w : World) (n : Nat) : Below w.heap.size w (w.drewN n) := ⟨rfl, rfl, rfl, Nat.le_refl _, fun _ _ => rfl⟩
theorem drew_below {w w1 : World} (h : Below w.drew.heap.size w.drew w1) : Below w.heap.size w w1 := ⟨h.os, h.tape, h.output, h.size, h.block⟩
theorem own_belowAll {B : Nat} {w w1 : World} {e : TypeId} {size : Nat} {v : Value} {n : Nat} {xs : List Value} (h : w.ownsRow B e size v n xs) (hb : Below w.heap.size w w1) : w1.ownsRow B e size v n xs := by
  refine ⟨h.1, ?_⟩
  rcases h.2 with ⟨rfl, hn⟩ | ⟨g, cap, cur, rfl, hbg, hh, hnc, hcm, hs, ht⟩
  · exact Or.inl ⟨rfl, hn⟩
  · have hg : g < w.heap.size := by
      rcases Nat.lt_or_ge g w.heap.size with h' | h'
      · exact h'
      · rw [Array.getElem?_eq_none h'] at hh; cases hh
    exact Or.inr ⟨g, cap, cur, rfl, hbg, (hb.block g hg).trans hh, hnc, hcm, hs, ht⟩
/-- a row is as it was where another block alone has changed -/
theorem own_far {B x : Nat} {w w1 : World} {e : TypeId} {size : Nat} {v : Value} {n : Nat} {xs : List Value} (h : w.ownsRow B e size v n xs) (hg : w.grownBy w1 (some x)) (hx : x < B) : w1.ownsRow B e size v n xs := by
  refine ⟨h.1, ?_⟩
  rcases h.2 with ⟨rfl, hn⟩ | ⟨g, cap, cur, rfl, hbg, hh, hnc, hcm, hs, ht⟩
  · exact Or.inl ⟨rfl, hn⟩
  · have hg' : g < w.heap.size := by
      rcases Nat.lt_or_ge g w.heap.size with h' | h'
      · exact h'
      · rw [Array.getElem?_eq_none h'] at hh; cases hh
    exact Or.inr ⟨g, cap, cur, rfl, hbg, (hg.block g hg' (by simp; omega)).trans hh, hnc, hcm, hs, ht⟩
theorem iv_append (a b : List Int) : iv (a ++ b) = iv a ++ iv b := by unfold iv; rw [List.map_append]
theorem row_new (w : World) (cs : List Value) (t : TypeId) : ∀ j u, cs[j]? = some u → (w.alloc (.cells cs.toArray t)).cell? ((⟨w.heap.size, 0, none⟩ : Addr).add j) = some u := by
  intro j u hj
  have ea : (⟨w.heap.size, 0, none⟩ : Addr).add j = ⟨w.heap.size, j, none⟩ := by
    by_cases h0 : j = 0
    · subst h0; simp [Addr.add]
    · simp [Addr.add, h0]
  rw [ea, cell_of_row _ w.heap.size j _ t (0, 0) (heap_alloc_new w (.cells cs.toArray t)), ← hj]; simp
theorem iv_cell (zs : List Int) : ∀ u ∈ iv zs, u.oneCell' = true := by
  intro u hu
  unfold iv at hu
  obtain ⟨z, _, rfl⟩ := List.mem_map.1 hu
  rfl
/-- cells put one after the other -/
def putAll : List Value → Nat → List Value → List Value
  | ys, _, [] => ys
  | ys, o, v :: vs => putAll (ys.set o v) (o + 1) vs
theorem putAll_take : ∀ (vs ys : List Value) (o : Nat), o + vs.length ≤ ys.length → (putAll ys o vs).take (o + vs.length) = ys.take o ++ vs
  | [], ys, o, _ => by simp [putAll]
  | v :: vs, ys, o, h => by
    rw [List.length_cons] at h
    have := putAll_take vs (ys.set o v) (o + 1) (by rw [List.length_set]; omega)
    rw [putAll, List.length_cons, show o + (vs.length + 1) = o + 1 + vs.length by omega, this]
    rw [set_take (by omega) rfl, List.append_assoc]; rfl
theorem own_setCells {B : Nat} {e : TypeId} {size : Nat} {n cap g : Nat} : ∀ (vs : List Value) (o : Nat) {w : World} {ys : List Value}, w.ownsRow B e size (.slice (some ⟨g, 0, none⟩) n cap) n ys →
    (w.setCells g o vs).ownsRow B e size (.slice (some ⟨g, 0, none⟩) n cap) n (putAll ys o vs)
  | [], _, _, _, h => h
  | v :: vs, o, _, _, h => own_setCells vs (o + 1) (h.stored o v).1
theorem below_setCells {B : Nat} {w0 : World} {g : Nat} (hg : B ≤ g) : ∀ (vs : List Value) (o : Nat) {w : World}, Below B w0 w → Below B w0 (w.setCells g o vs)
  | [], _, _, h => h
  | v :: vs, o, _, h => below_setCells hg vs (o + 1) (h.setCell (p := ⟨g, o, none⟩) hg v)
theorem only_setCell {a w : World} {g : Nat} (h : a.grownBy w (some g)) {p : Addr} (hp : p.block = g) (u : Value) : a.grownBy (w.setCell p u) (some g) :=
  ⟨h.os, h.tape, h.output, by simpa [World.setCell] using h.size, fun i hi hne => (Below.heap_setCell w p u i (by rintro rfl; exact hne (by rw [hp]))).trans (h.block i hi hne)⟩
theorem only_setCells {a : World} {g : Nat} : ∀ (vs : List Value) (o : Nat) {w : World}, a.grownBy w (some g) → a.grownBy (w.setCells g o vs) (some g)
  | [], _, _, h => h
  | v :: vs, o, _, h => only_setCells vs (o + 1) (only_setCell (p := ⟨g, o, none⟩) h rfl v)
theorem only_below {w w1 : World} {g B : Nat} (h : w.grownBy w1 (some g)) (hg : B ≤ g) (hB : B ≤ w.heap.size) : Below B w w1 :=
  (Below.refl B w).grown h hB (fun j hj => by simp only [Option.some.injEq] at hj; omega)
theorem grown_size {w w1 : World} {r : Option Nat} (h : w.grownBy w1 r) : w.heap.size ≤ w1.heap.size := h.size

section
variable {H : Type} {enc : TypeId × Value → H} {P : Program} {w : World} {base : Nat} {spare : Nat → Bool} {held : Bool}
/-- a struct's cells, one an int64 field: numbers -/
theorem nums_of {e tI : TypeId} {fs : Array Field} {fuel : Nat} {cs : List Value} {x : DataW H × List MemPlace} (he : P.underlying e = some (.struct fs)) (hone : oneCellFields P fs = true) (hC : P.cellsOf e = fs.size)
    (hI : fs.all (fun f => f.type == tI) = true) (hu : P.underlying tI = some (.int .i64)) (h : DataW.trod enc P w base spare held fuel e cs = some x) :
    cs.length = fs.size ∧ ∀ j, j < fs.size → ∃ z, cs[j]? = some (.int .i64 z) := by
  obtain ⟨ys, n, _, _, hlen, hyl, hf⟩ := DataW.trod_struct he h
  refine ⟨hlen.trans hC, fun j hj => ?_⟩
  have hfj : fs[j]? = some fs[j] := Array.getElem?_eq_getElem hj
  have h1 := hf j _ hfj
  obtain ⟨ho, hk⟩ := hone_of hone j _ hfj
  have htI : fs[j].type = tI := by
    have := (Array.all_eq_true.1 hI) j hj
    simpa using this
  rw [ho, hk, htI] at h1
  have hjc : j < cs.length := by rw [hlen, hC]; exact hj
  have hone' : (cs.drop j).take 1 = [cs[j]] := by
    rw [List.drop_eq_getElem_cons hjc]; rfl
  rw [hone'] at h1
  have hjy : j < ys.length := by rw [hyl]; exact hj
  rw [List.getElem?_eq_getElem hjy] at h1
  obtain ⟨z, hz, _⟩ := DataW.trod_int hu h1
  simp only [List.cons.injEq, and_true] at hz
  exact ⟨z, by rw [List.getElem?_eq_getElem hjc, hz]⟩
end
/-! ### a block that is known whole -/
def Whole (w : World) (g : Nat) (t : TypeId) (cs : Array Value) : Prop := w.heap[g]? = some (.cells cs t (0, 0))
section
variable {w w' : World} {g : Nat} {t : TypeId} {cs : Array Value}
theorem Whole.lt (h : Whole w g t cs) : g < w.heap.size := by
  unfold Whole at h
  rcases Nat.lt_or_ge g w.heap.size with hlt | hge
  · exact hlt
  · rw [Array.getElem?_eq_none hge] at h; cases h
theorem Whole.at_ (h : Whole w g t cs) (i : Nat) : w.cell? ⟨g, i, none⟩ = cs[i]? := cell_of_row w g i cs t (0, 0) h
theorem Whole.free (h : Whole w g t cs) (i : Nat) : w.frozen? ⟨g, i, none⟩ = false := by unfold Whole at h; simp [World.frozen?, h]
theorem Whole.new (w : World) (t : TypeId) (cs : Array Value) : Whole (w.alloc (.cells cs t)) w.heap.size t cs := heap_alloc_new w _
theorem Whole.drewN (h : Whole w g t cs) (n : Nat) : Whole (w.drewN n) g t cs := h
theorem Whole.put (h : Whole w g t cs) (i : Nat) (u : Value) : Whole (w.setCell ⟨g, i, none⟩ u) g t (cs.setIfInBounds i u) := by
  unfold Whole at h ⊢; simp [World.setCell, Array.getElem?_modify, h]
theorem Whole.alloc (h : Whole w g t cs) (o : Obj) : Whole (w.alloc o) g t cs := (Below.heap_alloc w o g h.lt).trans h
theorem Whole.below {B : Nat} (h : Whole w g t cs) (hb : Below B w w') (hg : g < B) : Whole w' g t cs := (hb.block g hg).trans h
theorem Whole.all (h : Whole w g t cs) (hb : Below w.heap.size w w') : Whole w' g t cs := h.below hb h.lt
theorem Whole.far {x : Nat} (h : Whole w g t cs) (hb : w.grownBy w' (some x)) (hg : g ≠ x) : Whole w' g t cs := (hb.block g h.lt (by simp; omega)).trans h
end
theorem Whole.grow {w w' : World} {g : Nat} {t : TypeId} {cs : Array Value} {r : Option Nat} (h : Whole w g t cs) (hb : w.grownBy w' r) (hg : ∀ j, r = some j → g ≠ j) : Whole w' g t cs := (hb.block g h.lt (fun e => hg g e.symm rfl)).trans h
theorem only_drewN {a w : World} {r : Option Nat} (h : a.grownBy w r) (n : Nat) : a.grownBy (w.drewN n) r := ⟨h.os, h.tape, h.output, h.size, h.block⟩
theorem only_alloc {a w : World} {r : Option Nat} (h : a.grownBy w r) (o : Obj) : a.grownBy (w.alloc o) r :=
  ⟨h.os, h.tape, h.output, Nat.le_trans h.size (by simp), fun i hi hne => (Below.heap_alloc w o i (Nat.lt_of_lt_of_le hi h.size)).trans (h.block i hi hne)⟩
theorem only_trans {a b c : World} {r : Option Nat} (h : a.grownBy b r) (k : b.grownBy c r) : a.grownBy c r :=
  ⟨k.os.trans h.os, k.tape.trans h.tape, k.output.trans h.output, Nat.le_trans h.size k.size, fun i hi hne => (k.block i (Nat.lt_of_lt_of_le hi h.size) hne).trans (h.block i hi hne)⟩
theorem only_of_below {a w : World} (h : Below a.heap.size a w) (r : Option Nat) : a.grownBy w r := ⟨h.os, h.tape, h.output, h.size, fun i hi _ => h.block i hi⟩
/-- what a change of one new block leaves: all that was there -/
theorem below_only {B : Nat} {a b c : World} {g : Nat} (h : Below B a b) (k : b.grownBy c (some g)) (hg : B ≤ g) (hB : B ≤ b.heap.size) : Below B a c := h.trans (only_below k hg hB)
/-- the number that a cell holds -/
def numAt (w : World) (b o : Nat) : Int := match w.cell? ⟨b, o, none⟩ with | some v => intOf v | none => 0
theorem numAt_of {w : World} {b o : Nat} {z : Int} (h : w.cell? ⟨b, o, none⟩ = some (.int .i64 z)) : w.cell? ⟨b, o, none⟩ = some (.int .i64 (numAt w b o)) := by
  unfold numAt; rw [h]; rfl
end Go.Proofs.YtmidihmbehaegaaDoor
