/-
  The rules of the kinds of tests: the cells of impl.testRules, from what the list of variables says. No condition of its own.
-/
import Derived.Test.YteileaeeiejonaaDoorGen
import Derived.Test.YteileaeeiejonaaDoorNum
import Derived.Lib.LaidTab
import Derived.LaidSub
import Derived.LaidMore
namespace Go.Proofs.YteileaeeiejonaaDoor
open Go.RowKit Go.ChangeShapes Go.WideShapes Go.Deep
set_option linter.unusedVariables false
set_option maxRecDepth 100000

section
variable {H : Type} {enc : TypeId × Value → H} {P : Program} {w : World} {base : Nat} {sp : Nat → Bool} {held : Bool}
/-- an array of numbers -/
theorem nums_cells {fuel n : Nat} {t e : TypeId} {cs : List Value} {x : DataW H × List MemPlace} {ns : List Int} (ht : P.underlying t = some (.array n e)) (he : P.underlying e = some (.int .i64)) (hce : P.cellsOf e = 1)
    (h : DataW.trod enc P w base sp held fuel t cs = some x) (hx : x.1 = .agg (ns.map fun z => .lit (.int .i64 z))) : ∀ (j : Nat) (z : Int), ns[j]? = some z → cs[j]? = some (.int .i64 z) := by
  obtain ⟨xs, m, rfl, rfl, hl, hn, hel⟩ := DataW.trod_array ht h
  simp only [DataW.agg.injEq] at hx
  intro j z hz
  have hj : j < n := by
    have h1 := congrArg List.length hx
    have h2 := (List.getElem?_eq_some_iff.1 hz).1
    simp at h1; omega
  have hi' := hel j hj
  rw [hce, Nat.mul_one] at hi'
  obtain ⟨y, hy⟩ : ∃ y, xs[j]? = some y := ⟨xs[j]'(by omega), by rw [List.getElem?_eq_getElem]⟩
  rw [hy] at hi'
  obtain ⟨z', e1, e2, _⟩ := DataW.trod_int he hi'
  have h1 : (xs.map (·.1))[j]? = some (.lit (.int .i64 z')) := by rw [List.getElem?_map, hy, e2]; rfl
  rw [hx, List.getElem?_map, hz] at h1
  simp only [Option.map_some, Option.some.injEq, DataW.lit.injEq, Lit.int.injEq, true_and] at h1
  subst h1
  have := congrArg (·[0]?) e1
  simpa [List.getElem?_take, List.getElem?_drop] using this
/-- a rule: a text, a number, an array of numbers -/
theorem rule_cells {fuel : Nat} {t tS tI tA : TypeId} {fs : Array Field} {cs : List Value} {x : DataW H × List MemPlace} {s : List UInt8} {l : Int} {ns : List Int}
    (ht : P.underlying t = some (.struct fs)) (hT : fs.toList.map (fun f => (f.type, f.offset)) = [(tS, 0), (tI, 1), (tA, 2)]) (hS : P.underlying tS = some .string) (hI : P.underlying tI = some (.int .i64)) (hA : P.underlying tA = some (.array 4 tI))
    (cS : P.cellsOf tS = 1) (cI : P.cellsOf tI = 1) (cA : P.cellsOf tA = 4) (h : DataW.trod enc P w base sp held fuel t cs = some x) (hx : x.1 = .agg [.lit (.string s), .lit (.int .i64 l), .agg (ns.map fun z => .lit (.int .i64 z))]) :
    cs[0]? = some (.string ⟨s.toArray⟩) ∧ cs[1]? = some (.int .i64 l) ∧ ∀ (j : Nat) (z : Int), ns[j]? = some z → cs[2 + j]? = some (.int .i64 z) := by
  obtain ⟨ys, n, _, hxx, hlen, hyl, hf⟩ := DataW.trod_struct ht h
  subst hxx
  obtain ⟨fs⟩ := fs
  have hlf : fs.length = 3 := by have := congrArg List.length hT; simpa using this
  match fs, hlf, hT with
  | [f0, f1, f2], _, hT =>
    simp only [List.map_cons, List.map_nil, List.cons.injEq, and_true, Prod.mk.injEq] at hT
    obtain ⟨⟨t0, o0⟩, ⟨t1, o1⟩, t2, o2⟩ := hT
    match ys, hyl with
    | [y0, y1, y2], _ =>
      have h0 := hf 0 f0 rfl
      have h1 := hf 1 f1 rfl
      have h2 := hf 2 f2 rfl
      rw [o0, t0, cS] at h0
      rw [o1, t1, cI] at h1
      rw [o2, t2, cA] at h2
      simp only [List.getElem?_cons_zero, List.getElem?_cons_succ] at h0 h1 h2
      simp only [List.map_cons, List.map_nil, DataW.agg.injEq, List.cons.injEq, and_true] at hx
      obtain ⟨x0, x1, x2⟩ := hx
      obtain ⟨s', e1, e2, _⟩ := DataW.trod_string hS h0
      obtain ⟨l', g1, g2, _⟩ := DataW.trod_int hI h1
      have hc := nums_cells hA hI cI h2 x2
      rw [e2] at x0
      rw [g2] at x1
      simp only [DataW.lit.injEq, Lit.string.injEq] at x0
      simp only [DataW.lit.injEq, Lit.int.injEq, true_and] at x1
      subst x1
      refine ⟨?_, ?_, fun j z hz => ?_⟩
      · have := congrArg (·[0]?) e1
        have e : s' = ⟨s.toArray⟩ := by rw [← x0]
        rw [← e]
        simpa [List.getElem?_take, List.getElem?_drop] using this
      · have := congrArg (·[0]?) g1
        simpa [List.getElem?_take, List.getElem?_drop] using this
      · have h3 := hc j z hz
        have hj : j < 4 := by
          have h4 := (List.getElem?_eq_some_iff.1 h3).1
          have : ((cs.drop 2).take 4).length ≤ 4 := List.length_take_le _ _
          omega
        rw [List.getElem?_take, if_pos hj, List.getElem?_drop] at h3
        exact h3
end
/-- the rules: the name, the least score, the greatest score of each class -/
def ruleTab : List (List UInt8 × Int × List Int) := [([99, 111, 108, 117, 109, 110], 0, [10, 20, 30, 31]), ([101, 120, 116, 101, 110, 100, 101, 100], 0, [13, 22, 30, 31]), ([98, 108, 111, 99, 107], 1, [2, 4, 6, 7])]
def ruleData {H : Type} : DataW H := .agg (ruleTab.map fun r => .agg [.lit (.string r.1), .lit (.int .i64 r.2.1), .agg (r.2.2.map fun z => .lit (.int .i64 z))])
def RulesT (w : World) : Prop := ∀ (i : Nat) (s : List UInt8) (l : Int) (ns : List Int), ruleTab[i]? = some (s, l, ns) →
  w.cell? ⟨0, i * 6, none⟩ = some (.string ⟨s.toArray⟩) ∧ w.cell? ⟨0, i * 6 + 1, none⟩ = some (.int .i64 l) ∧ ∀ (j : Nat) (z : Int), ns[j]? = some z → w.cell? ⟨0, i * 6 + (2 + j), none⟩ = some (.int .i64 z)
theorem RulesT.below {w w1 : World} (h : RulesT w) (hb : Below w.heap.size w w1) : RulesT w1 := by
  intro i s l ns hr
  obtain ⟨a, b, c⟩ := h i s l ns hr
  exact ⟨(hb.cell (p := ⟨0, i * 6, none⟩) (World.block_lt_of_cell? w _ a)).trans a, (hb.cell (p := ⟨0, i * 6 + 1, none⟩) (World.block_lt_of_cell? w _ b)).trans b,
    fun j z hz => (hb.cell (p := ⟨0, i * 6 + (2 + j), none⟩) (World.block_lt_of_cell? w _ (c j z hz))).trans (c j z hz)⟩
/-- the six cells of one rule, from a place on -/
structure RuleAt (w : World) (o : Nat) (s : List UInt8) (l a b c d : Int) : Prop where
  c0 : w.cell? ⟨0, o, none⟩ = some (.string ⟨s.toArray⟩)
  c1 : w.cell? ⟨0, o + 1, none⟩ = some (.int .i64 l)
  c2 : w.cell? ⟨0, o + 2, none⟩ = some (.int .i64 a)
  c3 : w.cell? ⟨0, o + 3, none⟩ = some (.int .i64 b)
  c4 : w.cell? ⟨0, o + 4, none⟩ = some (.int .i64 c)
  c5 : w.cell? ⟨0, o + 5, none⟩ = some (.int .i64 d)
theorem RulesT.at_ {w : World} (h : RulesT w) {i : Nat} {s : List UInt8} {l a b c d : Int} (hr : ruleTab[i]? = some (s, l, [a, b, c, d])) : RuleAt w (i * 6) s l a b c d := by
  obtain ⟨x, y, z⟩ := h i s l _ hr
  exact ⟨x, y, z 0 _ rfl, z 1 _ rfl, z 2 _ rfl, z 3 _ rfl⟩
theorem gRulesT : Tryd.prog.globalNamed "loop.example/g01013/impl.testRules" = some 0 := by kernel_rfl
theorem tRulesT : (Tryd.prog.globals[0]?).map (·.type) = some 102 := by kernel_rfl
theorem fRulesT : Tryd.prog.underlying 93 = some (.struct (Tryd.prog.fieldsOf 93)) := by kernel_rfl
theorem lRulesT : (Tryd.prog.fieldsOf 93).toList.map (fun f => (f.type, f.offset)) = [(9, 0), (2, 1), (91, 2)] := by kernel_rfl
theorem c1RulesT : Tryd.prog.cellsOf 9 = 1 := by kernel_rfl
theorem c2RulesT : Tryd.prog.cellsOf 2 = 1 := by kernel_rfl
theorem c3RulesT : Tryd.prog.cellsOf 91 = 4 := by kernel_rfl
theorem c4RulesT : Tryd.prog.cellsOf 93 = 6 := by kernel_rfl
theorem rulesT_of {l : List (String × DataW Unit)} {w : World} (h : laidMet Tryd.prog l w) (hf : (l.filter fun x => x.1 == "loop.example/g01013/impl.testRules") = [("loop.example/g01013/impl.testRules", ruleData)]) : RulesT w := by
  have h' := laidMet.filter (fun x => x.1 == "loop.example/g01013/impl.testRules") h
  rw [hf] at h'
  obtain ⟨ps, ⟨g', t', cs, fuel, p, q, hg', ht', hvar, hd, _, _⟩, _⟩ := h'
  obtain rfl := Option.some.inj (gRulesT.symm.trans hg')
  obtain rfl := Option.some.inj (tRulesT.symm.trans ht')
  obtain ⟨xs, m, rfl, hx, hl, hn, hel⟩ := DataW.trod_array Tryd.underlying102 hd
  have hx1 := congrArg Prod.fst hx
  simp only [ruleData, DataW.agg.injEq] at hx1
  intro i s l ns hr
  have hi : i < 3 := by have := (List.getElem?_eq_some_iff.1 hr).1; simpa [ruleTab] using this
  have hi' := hel i hi
  rw [c4RulesT] at hi'
  obtain ⟨y, hy⟩ : ∃ y, xs[i]? = some y := ⟨xs[i]'(by omega), by rw [List.getElem?_eq_getElem]⟩
  rw [hy] at hi'
  have h1 : (xs.map (·.1))[i]? = some y.1 := by rw [List.getElem?_map, hy]; rfl
  rw [← hx1, List.getElem?_map, hr] at h1
  simp only [Option.map_some, Option.some.injEq] at h1
  obtain ⟨a, b, c⟩ := rule_cells fRulesT lRulesT Tryd.underlying9 Tryd.underlying2 Tryd.underlying91 c1RulesT c2RulesT c3RulesT hi' h1.symm
  have cut : ∀ (j : Nat) (v : Value), ((cs.toList.drop (i * 6)).take 6)[j]? = some v → cs.toList[i * 6 + j]? = some v := fun j v hj => by
    have hj6 : j < 6 := by
      have h4 := (List.getElem?_eq_some_iff.1 hj).1
      have : ((cs.toList.drop (i * 6)).take 6).length ≤ 6 := List.length_take_le _ _
      omega
    rw [List.getElem?_take, if_pos hj6, List.getElem?_drop] at hj
    exact hj
  have got : ∀ (j : Nat) (v : Value), ((cs.toList.drop (i * 6)).take 6)[j]? = some v → w.cell? ⟨0, i * 6 + j, none⟩ = some v := fun j v hj => by
    rw [World.var?_cell gRulesT hvar (i * 6 + j)]
    simpa using cut j v hj
  exact ⟨got 0 _ a, got 1 _ b, fun j z hz => got (2 + j) _ (c j z hz)⟩
end Go.Proofs.YteileaeeiejonaaDoor
