/-
  Profiles compared: slices.Equal at layers, and the model's comparison. No condition of its own.
-/
import Derived.Test.YtfbfdiejffjbmaaDoorFind
import Derived.Laws.StructEq
namespace Go.Proofs.YtfbfdiejffjbmaaDoor
open Go.RowKit Go.Shelf
set_option linter.unusedVariables false
set_option maxRecDepth 100000

theorem fields_layer : Tryd.prog.underlying 27 = some (.struct (Tryd.prog.fieldsOf 27)) := by kernel_rfl
theorem stood_layer : Tryd.prog.stoodInHeld 27 = false := by kernel_rfl
theorem flist_layer : (Tryd.prog.fieldsOf 27).toList.map (fun f => (f.name != "_", f.type, f.offset)) = [(true, 2, 0), (true, 2, 1), (true, 2, 2), (true, 2, 3), (true, 2, 4), (true, 2, 5), (true, 2, 6)] := by kernel_rfl
/-- one field after the other -/
theorem eqFields_cons (d : Nat) (xs ys : Array Value) (f : Field) (fs : List Field) (a b : Int) (W : World) (hn : (f.name != "_") = true) (hu : Tryd.prog.underlying f.type = some (.int .i64)) (h1 : (part f.type xs f.offset).run Tryd.prog W = .ok (.int .i64 a) W) (h2 : (part f.type ys f.offset).run Tryd.prog W = .ok (.int .i64 b) W) :
    (Op.eqFields (d + 1) xs ys (f :: fs)).run Tryd.prog W = if a = b then (Op.eqFields (d + 1) xs ys fs).run Tryd.prog W else .ok false W := by
  have hn' : f.name ≠ "_" := by simpa using hn
  have h3 := run_equalIn_int (P := Tryd.prog) W d f.type .i64 .i64 a b hu
  simp only [Op.eqFields, if_pos hn', Sem.run_bind, h1, h2, h3, Result.andThen_ok]
  by_cases h : a = b
  · subst h; simp
  · have : (a == b) = false := beq_eq_false_iff_ne.2 h
    simp [this, h]
theorem eqFields_nil (d : Nat) (xs ys : Array Value) (W : World) : (Op.eqFields d xs ys []).run Tryd.prog W = .ok true W := rfl
theorem part_0 (x : Lay) (W : World) : (part 2 #[.int .i64 x.fo, .int .i64 x.ic, .int .i64 x.wa, .int .i64 x.de, .int .i64 x.dg, .int .i64 x.ha, .int .i64 x.ag] 0).run Tryd.prog W = .ok (.int .i64 x.fo) W := by kernel_rfl
theorem part_1 (x : Lay) (W : World) : (part 2 #[.int .i64 x.fo, .int .i64 x.ic, .int .i64 x.wa, .int .i64 x.de, .int .i64 x.dg, .int .i64 x.ha, .int .i64 x.ag] 1).run Tryd.prog W = .ok (.int .i64 x.ic) W := by kernel_rfl
theorem part_2 (x : Lay) (W : World) : (part 2 #[.int .i64 x.fo, .int .i64 x.ic, .int .i64 x.wa, .int .i64 x.de, .int .i64 x.dg, .int .i64 x.ha, .int .i64 x.ag] 2).run Tryd.prog W = .ok (.int .i64 x.wa) W := by kernel_rfl
theorem part_3 (x : Lay) (W : World) : (part 2 #[.int .i64 x.fo, .int .i64 x.ic, .int .i64 x.wa, .int .i64 x.de, .int .i64 x.dg, .int .i64 x.ha, .int .i64 x.ag] 3).run Tryd.prog W = .ok (.int .i64 x.de) W := by kernel_rfl
theorem part_4 (x : Lay) (W : World) : (part 2 #[.int .i64 x.fo, .int .i64 x.ic, .int .i64 x.wa, .int .i64 x.de, .int .i64 x.dg, .int .i64 x.ha, .int .i64 x.ag] 4).run Tryd.prog W = .ok (.int .i64 x.dg) W := by kernel_rfl
theorem part_5 (x : Lay) (W : World) : (part 2 #[.int .i64 x.fo, .int .i64 x.ic, .int .i64 x.wa, .int .i64 x.de, .int .i64 x.dg, .int .i64 x.ha, .int .i64 x.ag] 5).run Tryd.prog W = .ok (.int .i64 x.ha) W := by kernel_rfl
theorem part_6 (x : Lay) (W : World) : (part 2 #[.int .i64 x.fo, .int .i64 x.ic, .int .i64 x.wa, .int .i64 x.de, .int .i64 x.dg, .int .i64 x.ha, .int .i64 x.ag] 6).run Tryd.prog W = .ok (.int .i64 x.ag) W := by kernel_rfl
theorem part_at (x : Lay) (W : World) : ∀ (o : Nat) (z : Int), (La.lv x)[o]? = some z → (part 2 #[.int .i64 x.fo, .int .i64 x.ic, .int .i64 x.wa, .int .i64 x.de, .int .i64 x.dg, .int .i64 x.ha, .int .i64 x.ag] o).run Tryd.prog W = .ok (.int .i64 z) W := by
  intro o z h
  have ho : o < 7 := (List.getElem?_eq_some_iff.1 h).1
  have hc : o = 0 ∨ o = 1 ∨ o = 2 ∨ o = 3 ∨ o = 4 ∨ o = 5 ∨ o = 6 := by omega
  rcases hc with rfl | rfl | rfl | rfl | rfl | rfl | rfl <;> simp only [La.lv, List.getElem?_cons_zero, List.getElem?_cons_succ, Option.some.injEq] at h <;> subst h
  · exact part_0 x W
  · exact part_1 x W
  · exact part_2 x W
  · exact part_3 x W
  · exact part_4 x W
  · exact part_5 x W
  · exact part_6 x W
theorem dec_cons_t {a b : Int} {l m : List Int} (h : a = b) : (a :: l == b :: m) = (l == m) := by subst h; simp
theorem dec_cons_f {a b : Int} {l m : List Int} (h : ¬ a = b) : (a :: l == b :: m) = false := by rw [beq_eq_false_iff_ne]; intro e; exact h (List.cons.inj e).1
theorem eqF_any (d : Nat) (x y : Lay) (W : World) : ∀ (fs : List Field) (o : Nat) (m : List (Bool × TypeId × Nat)), fs.map (fun f => (f.name != "_", f.type, f.offset)) = m → m = (List.range (7 - o)).map (fun i => (true, 2, o + i)) → o ≤ 7 →
    (Op.eqFields (d + 1) #[.int .i64 x.fo, .int .i64 x.ic, .int .i64 x.wa, .int .i64 x.de, .int .i64 x.dg, .int .i64 x.ha, .int .i64 x.ag] #[.int .i64 y.fo, .int .i64 y.ic, .int .i64 y.wa, .int .i64 y.de, .int .i64 y.dg, .int .i64 y.ha, .int .i64 y.ag] fs).run Tryd.prog W = .ok ((La.lv x).drop o == (La.lv y).drop o) W
  | [], o, m, h, hm, ho => by
    have : o = 7 := by
      have := congrArg List.length (h.trans hm); simp at this; omega
    subst this
    rw [eqFields_nil]; rfl
  | f :: fs, o, m, h, hm, ho => by
    have hlt : o < 7 := by
      have := congrArg List.length (h.trans hm); simp at this; omega
    have hh := h.trans hm
    rw [show 7 - o = (7 - (o + 1)) + 1 by omega, List.range_succ_eq_map, List.map_cons, List.map_cons, List.map_map] at hh
    injection hh with h1 h2
    simp only [Nat.add_zero, Prod.mk.injEq] at h1
    obtain ⟨n1, n2, n3⟩ := h1
    have lx : o < (La.lv x).length := by rw [La.lv_length]; exact hlt
    have ly : o < (La.lv y).length := by rw [La.lv_length]; exact hlt
    have ih := eqF_any d x y W fs (o + 1) _ rfl (h2.trans (by
      refine List.map_congr_left (fun i _ => ?_)
      simp only [Function.comp, Nat.succ_eq_add_one]
      rw [show o + (i + 1) = o + 1 + i by omega])) (by omega)
    rw [eqFields_cons d _ _ f fs (La.lv x)[o] (La.lv y)[o] W n1 (by rw [n2]; exact Tryd.underlying2) (by rw [n2, n3]; exact part_at x W o _ (List.getElem?_eq_getElem lx)) (by rw [n2, n3]; exact part_at y W o _ (List.getElem?_eq_getElem ly)), ih,
      List.drop_eq_getElem_cons lx, List.drop_eq_getElem_cons ly]
    by_cases he : (La.lv x)[o] = (La.lv y)[o]
    · rw [if_pos he]
      exact congrArg (fun b => Result.ok b W) (dec_cons_t he).symm
    · rw [if_neg he]
      exact congrArg (fun b => Result.ok b W) (dec_cons_f he).symm
theorem neq_layer (x y : Lay) (W : World) : (binOp .neq 27 (.agg #[.int .i64 x.fo, .int .i64 x.ic, .int .i64 x.wa, .int .i64 x.de, .int .i64 x.dg, .int .i64 x.ha, .int .i64 x.ag]) (.agg #[.int .i64 y.fo, .int .i64 y.ic, .int .i64 y.wa, .int .i64 y.de, .int .i64 y.dg, .int .i64 y.ha, .int .i64 y.ag])).run Tryd.prog W = .ok (.bool (!La.eqL x y)) W := by
  have h := eqF_any 9998 x y W _ 0 _ rfl flist_layer (by omega)
  have e : La.eqL x y = ((La.lv x).drop 0 == (La.lv y).drop 0) := rfl
  rw [run_neq_struct, show (10000 : Nat) = 9999 + 1 from rfl, run_equalIn_struct W 9999 _ _ _ fields_layer stood_layer, show (9999 : Nat) = 9998 + 1 from rfl, h, e]
  rfl
end Go.Proofs.YtfbfdiejffjbmaaDoor
