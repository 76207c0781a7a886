/-
  A package-level variable that is an array of structs of numbers: its cells, from what the list of variables says. No condition of its own.
-/
import Derived.Test.YtmidihmbehaegaaDoorGen
import Derived.Lib.LaidTab
import Derived.LaidSub
namespace Go.Proofs.YtmidihmbehaegaaDoor
open Go.RowKit Go.ChangeShapes Go.WideShapes Go.Deep
set_option linter.unusedVariables false

/-- rows of numbers as data -/
def rowData {H : Type} (r : List Int) : DataW H := .agg (r.map fun z => .lit (.int .i64 z))
def rowsData {H : Type} (rs : List (List Int)) : DataW H := .agg (rs.map rowData)
section
variable {H : Type} {enc : TypeId × Value → H} {P : Program} {w : World} {base : Nat} {spare : Nat → Bool} {held : Bool}
/-- one row: a struct's cells are the numbers of the data -/
theorem row_cells {e tI : TypeId} {fs : Array Field} {fuel : Nat} {cs : List Value} {r : List Int} {p : List MemPlace} (he : P.underlying e = some (.struct fs)) (hone : oneCellFields P fs = true) (hC : P.cellsOf e = fs.size)
    (hI : fs.all (fun f => f.type == tI) = true) (hu : P.underlying tI = some (.int .i64)) (h : DataW.trod enc P w base spare held fuel e cs = some (rowData r, p)) :
    cs.length = fs.size ∧ r.length = fs.size ∧ ∀ (j : Nat) (z : Int), r[j]? = some z → cs[j]? = some (Value.int .i64 z) := by
  obtain ⟨ys, n, _, hx, hlen, hyl, hf⟩ := DataW.trod_struct he h
  unfold rowData at hx
  have hag : ys.map (·.1) = r.map fun z => (DataW.lit (Lit.int .i64 z) : DataW H) := by
    have := congrArg Prod.fst hx
    simpa using this.symm
  have hrl : r.length = fs.size := by
    have := congrArg List.length hag
    simp at this
    omega
  refine ⟨hlen.trans hC, hrl, fun j z hz => ?_⟩
  have hj : j < fs.size := by
    have := (List.getElem?_eq_some_iff.1 hz).1
    omega
  have hfj : fs[j]? = some fs[j] := Array.getElem?_eq_getElem hj
  have h1 := hf j _ hfj
  obtain ⟨ho, hk⟩ := hone_of hone j _ hfj
  have htI : fs[j].type = tI := by
    have := (Array.all_eq_true.1 hI) j hj
    simpa using this
  rw [ho, hk, htI] at h1
  have hjc : j < cs.length := by rw [hlen, hC]; exact hj
  have hone' : (cs.drop j).take 1 = [cs[j]] := by
    rw [List.drop_eq_getElem_cons hjc]; rfl
  rw [hone'] at h1
  have hjy : j < ys.length := by rw [hyl]; exact hj
  rw [List.getElem?_eq_getElem hjy] at h1
  obtain ⟨z', hz', hy, _⟩ := DataW.trod_int hu h1
  simp only [List.cons.injEq, and_true] at hz'
  have e2 : (ys.map (·.1))[j]? = some (DataW.lit (Lit.int .i64 z') : DataW H) := by
    rw [List.getElem?_map, List.getElem?_eq_getElem hjy]
    simp [hy]
  rw [hag, List.getElem?_map, hz] at e2
  simp only [Option.map_some, Option.some.injEq, DataW.lit.injEq, Lit.int.injEq, true_and] at e2
  rw [List.getElem?_eq_getElem hjc, hz', e2]
/-- all rows -/
theorem rows_cells {t e tI : TypeId} {fs : Array Field} {n fuel : Nat} {cs : List Value} {rs : List (List Int)} {p : List MemPlace} (ht : P.underlying t = some (.array n e)) (he : P.underlying e = some (.struct fs)) (hone : oneCellFields P fs = true) (hC : P.cellsOf e = fs.size)
    (hI : fs.all (fun f => f.type == tI) = true) (hu : P.underlying tI = some (.int .i64)) (h : DataW.trod enc P w base spare held fuel t cs = some (rowsData rs, p)) :
    ∀ (i : Nat) (r : List Int), rs[i]? = some r → ∀ (j : Nat) (z : Int), r[j]? = some z → cs[i * fs.size + j]? = some (Value.int .i64 z) := by
  intro i r hr j z hz
  cases fuel with
  | zero => simp [DataW.trod] at h
  | succ fuel =>
    simp only [DataW.trod, ht, hC] at h
    split at h
    · rename_i hl
      obtain ⟨xs, hm, hx⟩ := Option.map_eq_some_iff.1 h
      have hxs : xs.map (·.1) = rs.map fun r => (rowData r : DataW H) := by
        have := congrArg Prod.fst hx
        simpa [rowsData] using this
      have hxl : xs.length = n := by simpa using Lib.mapM_length hm
      have hil : i < n := by
        have h1 := congrArg List.length hxs
        simp at h1
        have := (List.getElem?_eq_some_iff.1 hr).1
        omega
      obtain ⟨b, hb, hf⟩ := Lib.mapM_at hm i i (by simp [hil])
      have h2 : (xs.map (·.1))[i]? = some b.1 := by rw [List.getElem?_map, hb]; rfl
      rw [hxs, List.getElem?_map, hr] at h2
      simp only [Option.map_some, Option.some.injEq] at h2
      obtain ⟨b1, b2⟩ := b
      simp only at h2
      subst h2
      obtain ⟨c1, c2, c3⟩ := row_cells he hone hC hI hu hf
      have h3 := c3 j z hz
      have hjl : j < fs.size := by
        have := (List.getElem?_eq_some_iff.1 hz).1
        omega
      rw [List.getElem?_take] at h3
      rw [if_pos hjl, List.getElem?_drop] at h3
      exact h3
    · cases h
end
/-- from the list's condition: the variable stands first -/
theorem rowsAt_of_head {P : Program} {W : World} {name : String} {rs : List (List Int)} {rest : List (String × DataW Unit)} {g : Nat} {t e tI : TypeId} {fs : Array Field} {n : Nat}
    (hg : P.globalNamed name = some g) (hty : (P.globals[g]?).map (·.type) = some t) (ht : P.underlying t = some (.array n e)) (he : P.underlying e = some (.struct fs)) (hone : oneCellFields P fs = true) (hC : P.cellsOf e = fs.size)
    (hI : fs.all (fun f => f.type == tI) = true) (hu : P.underlying tI = some (.int .i64)) (h : laidMet P ((name, rowsData rs) :: rest) W) :
    ∀ (i : Nat) (r : List Int), rs[i]? = some r → ∀ (j : Nat) (z : Int), r[j]? = some z → W.cell? ⟨g, i * fs.size + j, none⟩ = some (.int .i64 z) := by
  obtain ⟨ps, ⟨g', t', cs, fuel, p, q, hg', ht', hvar, hd, _, _⟩, _⟩ := h
  obtain rfl := Option.some.inj (hg.symm.trans hg')
  obtain rfl := Option.some.inj (hty.symm.trans ht')
  intro i r hr j z hz
  have h1 := rows_cells ht he hone hC hI hu hd i r hr j z hz
  have := World.var?_cell hg hvar (i * fs.size + j)
  rw [this]
  simpa using h1
end Go.Proofs.YtmidihmbehaegaaDoor
