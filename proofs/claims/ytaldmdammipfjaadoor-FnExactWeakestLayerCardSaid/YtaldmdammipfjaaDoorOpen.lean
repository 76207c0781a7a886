/-
  Arguments that are layers, or slices of layers, opened: a layer's cells are seven numbers. No condition of its own.
-/
import Derived.Test.YtaldmdammipfjaaDoorLays
import Derived.Deep.Slices
import Derived.Deep.Fields
import Derived.ChangeSame
import Derived.ChangeArms
import Derived.DataReads
import Derived.OpenShut
namespace Go.Proofs.YtaldmdammipfjaaDoor
open Go.RowKit Go.ChangeShapes Go.WideShapes Go.Deep
set_option linter.unusedVariables false
set_option maxRecDepth 100000

section
variable {H : Type} {enc : TypeId × Value → H} {P : Program} {w : World} {base : Nat} {spare : Nat → Bool} {held : Bool}
/-- a layer as an argument -/
theorem open_layer {r : Reach} {b0 : Nat} {t tI : TypeId} {fs : Array Field} {v : Value} {d : DataW H} {p : List MemPlace} (hs : P.underlying t = some (.struct fs)) (hone : oneCellFields P fs = true) (hC : P.cellsOf t = fs.size) (h7 : fs.size = 7)
    (hI : fs.all (fun f => f.type == tI) = true) (hu : P.underlying tI = some (.int .i64)) (hv : Value.okWide P w r b0 t v) (h : DataW.Trod enc P w base spare held t v d p) : ∃ x : Lay, v = .agg #[.int .i64 x.fo, .int .i64 x.ic, .int .i64 x.wa, .int .i64 x.de, .int .i64 x.dg, .int .i64 x.ha, .int .i64 x.ag] := by
  obtain ⟨cs, rfl, hsz⟩ := okWide_struct hs hv
  obtain ⟨l⟩ := cs
  obtain ⟨fuel, hf⟩ := h
  obtain ⟨hl, hn⟩ := nums_of hs hone hC hI hu hf
  have hl' : l.length = 7 := by rw [← h7, ← hl]; rfl
  match l, hl' with
  | [c0, c1, c2, c3, c4, c5, c6], _ =>
    rw [h7] at hn
    obtain ⟨z0, e0⟩ := hn 0 (by omega)
    obtain ⟨z1, e1⟩ := hn 1 (by omega)
    obtain ⟨z2, e2⟩ := hn 2 (by omega)
    obtain ⟨z3, e3⟩ := hn 3 (by omega)
    obtain ⟨z4, e4⟩ := hn 4 (by omega)
    obtain ⟨z5, e5⟩ := hn 5 (by omega)
    obtain ⟨z6, e6⟩ := hn 6 (by omega)
    have f0 : c0 = .int .i64 z0 := by simpa [Value.cells] using e0
    have f1 : c1 = .int .i64 z1 := by simpa [Value.cells] using e1
    have f2 : c2 = .int .i64 z2 := by simpa [Value.cells] using e2
    have f3 : c3 = .int .i64 z3 := by simpa [Value.cells] using e3
    have f4 : c4 = .int .i64 z4 := by simpa [Value.cells] using e4
    have f5 : c5 = .int .i64 z5 := by simpa [Value.cells] using e5
    have f6 : c6 = .int .i64 z6 := by simpa [Value.cells] using e6
    subst f0 f1 f2 f3 f4 f5 f6
    exact ⟨⟨z0, z1, z2, z3, z4, z5, z6⟩, rfl⟩
def layAt (w : World) (b o : Nat) : Lay := ⟨numAt w b o, numAt w b (o + 1), numAt w b (o + 2), numAt w b (o + 3), numAt w b (o + 4), numAt w b (o + 5), numAt w b (o + 6)⟩
def laysAt (w : World) (b o n : Nat) : List Lay := (List.range n).map fun i => layAt w b (o + i * 7)
theorem fl_range (f : Nat → Lay) (n j : Nat) (z : Int) (h : (La.fl ((List.range n).map f))[j]? = some z) : ∃ i k, i < n ∧ k < 7 ∧ j = 7 * i + k ∧ (La.lv (f i))[k]? = some z := by
  have hj : j < 7 * n := by
    have := (List.getElem?_eq_some_iff.1 h).1
    rw [La.fl_length] at this; simpa using this
  refine ⟨j / 7, j % 7, by omega, by omega, by omega, ?_⟩
  have hi : ((List.range n).map f)[j / 7]? = some (f (j / 7)) := by
    rw [List.getElem?_map, List.getElem?_range (by omega)]; rfl
  rw [← La.fl_at hi (show j % 7 < 7 by omega), ← h]
  congr 1; omega
/-- a slice of layers as an argument -/
theorem open_layers {t e tI : TypeId} {fs : Array Field} {fuel : Nat} {cs : List Value} {x : DataW H × List MemPlace} (ht : P.underlying t = some (.slice e)) (he : P.underlying e = some (.struct fs)) (hone : oneCellFields P fs = true) (hC : P.cellsOf e = fs.size) (h7 : fs.size = 7)
    (hI : fs.all (fun f => f.type == tI) = true) (hu : P.underlying tI = some (.int .i64)) (h : DataW.trod enc P w base spare held fuel t cs = some x) :
    ∃ (a : Option Addr) (len cap : Nat) (xs : List Lay), cs = [.slice a len cap] ∧ len ≤ maxLen ∧ xs.length = len ∧ LSl w (.slice a len cap) xs := by
  rcases open_slice ht h with ⟨rfl, _⟩ | ⟨a, len, cap, m, n, D, Pl, rfl, hb, hl, hm, hmm, hx, hi⟩
  · exact ⟨none, 0, 0, [], rfl, by unfold maxLen; omega, rfl, Or.inl ⟨rfl, _, _, rfl⟩⟩
  · have hlm : len ≤ m := by rw [hmm]; split <;> omega
    rcases Nat.eq_zero_or_pos len with h0 | h0
    · subst h0; exact ⟨_, 0, cap, [], rfl, by omega, rfl, Or.inl ⟨rfl, _, _, rfl⟩⟩
    · have hc : ∀ i, i < len → ∀ j, j < 7 → ∃ z, w.cell? (a.add (i * 7 + j)) = some (.int .i64 z) := by
        intro i hil j hj
        obtain ⟨cs', hc', htr⟩ := hi i (by omega)
        obtain ⟨_, hz⟩ := nums_of he hone hC hI hu htr
        obtain ⟨_, hcl, hat⟩ := World.cells?_some hc'
        rw [hC, h7] at hat
        obtain ⟨z, e⟩ := hz j (by omega)
        refine ⟨z, ?_⟩
        rw [← Go.Deep.add_add, hat j hj, e]
      obtain ⟨b, off, spot⟩ := a
      obtain ⟨z0, e0⟩ := hc 0 h0 0 (by omega)
      have hspot : spot = none := by simpa [Addr.add] using World.cell?_spot e0
      subst hspot
      have hcc : ∀ i, i < len → ∀ j, j < 7 → ∃ z, w.cell? ⟨b, off + i * 7 + j, none⟩ = some (.int .i64 z) := by
        intro i hil j hj
        obtain ⟨z, e⟩ := hc i hil j hj
        rw [add_plain] at e
        exact ⟨z, by rw [Nat.add_assoc]; exact e⟩
      have hlay : ∀ i, i < len → LCells w b (off + i * 7) (layAt w b (off + i * 7)) := by
        intro i hil
        have g : ∀ j, j < 7 → w.cell? ⟨b, off + i * 7 + j, none⟩ = some (.int .i64 (numAt w b (off + i * 7 + j))) := fun j hj => by
          obtain ⟨z, e⟩ := hcc i hil j hj
          exact numAt_of e
        exact ⟨g 0 (by omega), g 1 (by omega), g 2 (by omega), g 3 (by omega), g 4 (by omega), g 5 (by omega), g 6 (by omega)⟩
      refine ⟨_, len, cap, laysAt w b off len, rfl, by omega, by unfold laysAt; simp, Or.inr ⟨b, off, cap, by unfold laysAt; simp, ?_, ?_⟩⟩
      · obtain ⟨z, e⟩ := hcc 0 h0 0 (by omega)
        exact World.block_lt_of_cell? w _ e
      · intro j z hz
        obtain ⟨i, k, hin, hk, rfl, hlv⟩ := fl_range _ _ _ _ hz
        have L := hlay i hin
        have hk' : k = 0 ∨ k = 1 ∨ k = 2 ∨ k = 3 ∨ k = 4 ∨ k = 5 ∨ k = 6 := by omega
        have ea : off + (7 * i + k) = off + i * 7 + k := by omega
        rw [ea]
        rcases hk' with rfl | rfl | rfl | rfl | rfl | rfl | rfl <;> simp only [La.lv, List.getElem?_cons_zero, List.getElem?_cons_succ, Option.some.injEq] at hlv <;> subst hlv
        · exact L.c0
        · exact L.c1
        · exact L.c2
        · exact L.c3
        · exact L.c4
        · exact L.c5
        · exact L.c6
end
end Go.Proofs.YtaldmdammipfjaaDoor
