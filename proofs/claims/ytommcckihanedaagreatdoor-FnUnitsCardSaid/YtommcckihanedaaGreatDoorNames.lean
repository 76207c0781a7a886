/-
  Tables of texts: a package-level array of strings holds what the program's text lays.
-/
import Derived.Test.YtommcckihanedaaGreatDoorUnits
import Derived.Lib.LaidTab
import Derived.LaidSub
import Derived.LaidMore
import Derived.Below
import Derived.WalkSmall
import Derived.ChangeVars
import Derived.OpenShut
import Derived.ShutString
namespace Go.Proofs.YtommcckihanedaaGreatDoor
open Go.RowKit Go.ChangeShapes Go.WideShapes
set_option linter.unusedVariables false

/-- an array of strings that reads as these texts holds them, cell for cell -/
theorem textCells {H : Type} {enc : TypeId × Value → H} {P : Program} {w : World} {base : Nat} {sp : Nat → Bool} {held : Bool} {fuel : Nat} {t e : TypeId} {n : Nat} {cs : List Value} {ss : List (List UInt8)} {x : DataW H × List MemPlace}
    (ht : P.underlying t = some (.array n e)) (he : P.underlying e = some .string) (hce : P.cellsOf e = 1) (h : DataW.trod enc P w base sp held fuel t cs = some x) (hx : x.1 = .agg (ss.map fun b => .lit (.string b))) (i : Nat) (b : List UInt8) (hi : ss[i]? = some b) (hin : i < n) :
    ∃ s : ByteArray, cs[i]? = some (.string s) ∧ s.data.toList = b := by
  obtain ⟨xs, m, rfl, rfl, hl, hn, hel⟩ := DataW.trod_array ht h
  simp only [DataW.agg.injEq] at hx
  have hi' := hel i hin
  rw [hce, Nat.mul_one] at hi'
  obtain ⟨y, hy⟩ : ∃ y, xs[i]? = some y := ⟨xs[i]'(by omega), by rw [List.getElem?_eq_getElem]⟩
  rw [hy] at hi'
  obtain ⟨s, e1, e2, _⟩ := DataW.trod_string he hi'
  have h1 : (xs.map (·.1))[i]? = some (.lit (.string s.data.toList)) := by rw [List.getElem?_map, hy, e2]; rfl
  rw [hx, List.getElem?_map, hi] at h1
  simp only [Option.map_some, Option.some.injEq, DataW.lit.injEq, Lit.string.injEq] at h1
  refine ⟨s, ?_, h1.symm⟩
  have := congrArg (·[0]?) e1
  simpa [List.getElem?_take, List.getElem?_drop] using this
theorem texts_of {l : List (String × DataW Unit)} {w : World} {nm : String} {gi ti si n : Nat} {ss : List (List UInt8)} (h : laidMet Tryz.prog l w) (hf : (l.filter fun x => x.1 == nm) = [(nm, .agg (ss.map fun b => .lit (.string b)))])
    (hg : Tryz.prog.globalNamed nm = some gi) (ht : (Tryz.prog.globals[gi]?).map (·.type) = some ti) (hu : Tryz.prog.underlying ti = some (.array n si)) (hs : Tryz.prog.underlying si = some .string) (hc : Tryz.prog.cellsOf si = 1) :
    ∀ (i : Nat) (b : List UInt8), ss[i]? = some b → i < n → w.cell? ⟨gi, i, none⟩ = some (.string ⟨b.toArray⟩) := by
  intro i b hi hin
  have h' := laidMet.filter (fun x => x.1 == nm) h
  rw [hf] at h'
  obtain ⟨ps, ⟨g, t, cs, fuel, p, q, hg', ht', hvar, hd, _, _⟩, _⟩ := h'
  obtain rfl := Option.some.inj (hg.symm.trans hg')
  obtain rfl := Option.some.inj (ht.symm.trans ht')
  obtain ⟨s, h1, h2⟩ := textCells (ss := ss) hu hs hc hd rfl i b hi hin
  have := World.var?_cell hg hvar i
  rw [this]
  have e : s = ⟨b.toArray⟩ := by rw [← h2]
  rw [← e]
  simpa using h1
theorem ret_str {a b : ByteArray} (h : a = b) : Ending.returned (.string a) = .returned (.string b) := by rw [h]
theorem texts_below {w w1 : World} {gi n : Nat} {ss : List (List UInt8)} (h : ∀ (i : Nat) (b : List UInt8), ss[i]? = some b → i < n → w.cell? ⟨gi, i, none⟩ = some (.string ⟨b.toArray⟩)) (hb : Below w.heap.size w w1) :
    ∀ (i : Nat) (b : List UInt8), ss[i]? = some b → i < n → w1.cell? ⟨gi, i, none⟩ = some (.string ⟨b.toArray⟩) := fun i b hi hin =>
  (hb.cell (p := ⟨gi, i, none⟩) (World.block_lt_of_cell? w _ (h i b hi hin))).trans (h i b hi hin)
end Go.Proofs.YtommcckihanedaaGreatDoor
