/-
  A profile read back out of its text: what is answered, and one layer's part by the program. No condition of its own but what ReadList asks.
-/
import Derived.Test.YtmieckchppfogaaDoorFind
import Derived.Test.YtmieckchppfogaaDoorReadL
import Derived.Deep.RegionHeld3
import Derived.Deep.AppendLies
namespace Go.Proofs.YtmieckchppfogaaDoor
open Go.RowKit Go.ChangeShapes Go.WideShapes Go.Deep
set_option linter.unusedVariables false
set_option maxRecDepth 100000

namespace La
def lz : Lay := ⟨0, 0, 0, 0, 0, 0, 0⟩
/-- the layer with seven numbers -/
def l7 (zs : List Int) : Option Lay := match zs with
  | [a, b, c, d, e, f, g] => some ⟨a, b, c, d, e, f, g⟩
  | _ => none
/-- the layer with a text -/
def ry (l : List UInt8) : Option Lay := (rl l).bind l7
/-- the layers with texts -/
def mpy : List (List UInt8) → Option (List Lay)
  | [] => some []
  | p :: ps => match ry p, mpy ps with | some v, some vs => some (v :: vs) | _, _ => none
/-- a list that is a profile -/
def vp (o : Option (List Lay)) : Option (List Lay) := o.bind fun xs => if okP xs = true then some xs else none
/-- the profile with a text -/
def rp (l : List UInt8) : Option (List Lay) := if l = [45] then some [] else vp (mpy (spl 59 l))
theorem ry_n {l : List UInt8} (h : rl l = none) : ry l = none := by unfold ry; rw [h]; rfl
theorem ry_len {l : List UInt8} {zs : List Int} (h : rl l = some zs) (h2 : zs.length ≠ 7) : ry l = none := by
  unfold ry; rw [h]
  show l7 zs = none
  unfold l7
  split
  · simp at h2
  · rfl
theorem seven {zs : List Int} (h : zs.length = 7) : ∃ a b c d e f g, zs = [a, b, c, d, e, f, g] := by
  match zs, h with
  | [a, b, c, d, e, f, g], _ => exact ⟨a, b, c, d, e, f, g, rfl⟩
theorem ry_y {l : List UInt8} {a b c d e f g : Int} (h : rl l = some [a, b, c, d, e, f, g]) : ry l = some ⟨a, b, c, d, e, f, g⟩ := by unfold ry; rw [h]; rfl
theorem mpy_snoc {l : List (List UInt8)} {p : List UInt8} {zs : List Lay} {v : Lay} (h1 : mpy l = some zs) (h2 : ry p = some v) : mpy (l ++ [p]) = some (zs ++ [v]) := by
  induction l generalizing zs with
  | nil => simp only [mpy, Option.some.injEq] at h1; subst h1; simp [mpy, h2]
  | cons q l ih =>
    simp only [mpy] at h1
    split at h1
    · rename_i w vs hq hl
      simp only [Option.some.injEq] at h1
      subst h1
      rw [List.cons_append, mpy, hq, ih hl]
      rfl
    · cases h1
theorem mpy_none {l : List (List UInt8)} {p : List UInt8} (h : p ∈ l) (h2 : ry p = none) : mpy l = none := by
  induction l with
  | nil => cases h
  | cons q l ih =>
    rw [mpy]
    rcases List.mem_cons.1 h with h | h
    · subst h; rw [h2]
    · rw [ih h]; split <;> simp_all
theorem mpy_len {l : List (List UInt8)} {zs : List Lay} (h : mpy l = some zs) : zs.length = l.length := by
  induction l generalizing zs with
  | nil => simp only [mpy, Option.some.injEq] at h; subst h; rfl
  | cons q l ih =>
    simp only [mpy] at h
    split at h
    · rename_i w vs hq hl
      simp only [Option.some.injEq] at h
      subst h
      simp [ih hl]
    · cases h
theorem vp_none : vp none = none := rfl
theorem vp_bad {xs : List Lay} (h : okP xs = false) : vp (some xs) = none := by show (if okP xs = true then some xs else none) = none; rw [h]; rfl
theorem vp_ok {xs : List Lay} (h : okP xs = true) : vp (some xs) = some xs := by show (if okP xs = true then some xs else none) = _; rw [if_pos h]
theorem vp_long {l : List (List UInt8)} (h : 16 < l.length) : vp (mpy l) = none := by
  cases hm : mpy l with
  | none => rfl
  | some xs => exact vp_bad (okP_long (by have := mpy_len hm; omega))
theorem vp_len (o : Option (List Lay)) : ((vp o).getD []).length ≤ 16 := by
  cases o with
  | none => simp [vp_none]
  | some xs =>
    cases h : okP xs with
    | false => rw [vp_bad h]; simp
    | true => rw [vp_ok h]; exact ((okP_iff xs).1 h).1
theorem rp_len (l : List UInt8) : ((rp l).getD []).length ≤ 1048576 := by
  unfold rp
  split
  · simp
  · have := vp_len (mpy (spl 59 l)); omega
theorem ry_nil : ry [] = none := ry_n (by decide)
/-- a part that holds something leaves room for fewer parts -/
theorem spl_room (c : UInt8) : ∀ l : List UInt8, (∃ p ∈ spl c l, p ≠ []) → (spl c l).length ≤ l.length
  | [], ⟨p, h, hn⟩ => by simp [spl] at h; exact absurd h hn
  | x :: r, ⟨p, h, hn⟩ => by
    have hl := spl_len c r
    rw [spl] at h ⊢
    split
    · rename_i hx
      rw [if_pos hx] at h
      rcases List.mem_cons.1 h with h | h
      · exact absurd h hn
      · have := spl_room c r ⟨p, h, hn⟩
        simp; omega
    · split
      · simp
      · rename_i q ps hq; rw [hq] at hl; simp at hl ⊢; omega
theorem parts_room {l : List UInt8} {zs : List Lay} (h : mpy (spl 59 l) = some zs) : zs.length ≤ l.length := by
  rw [mpy_len h]
  refine spl_room 59 l ?_
  have hpos := List.length_pos_iff.2 (spl_ne 59 l)
  refine ⟨(spl 59 l)[0], List.getElem_mem hpos, fun e => ?_⟩
  have := mpy_none (List.getElem_mem hpos) (by rw [e]; exact ry_nil)
  rw [h] at this; cases this
end La
/-- the parts that the program sees: 17 at most -/
def cut59 (s : ByteArray) : List (List UInt8) := Lib.splitK [59] 0 (min 17 (s.size + 1) - 1) s.data.toList
theorem cut59_vp (s : ByteArray) : La.vp (La.mpy (cut59 s)) = La.vp (La.mpy (spl 59 s.data.toList)) := by
  have hl := spl_len 59 s.data.toList
  have hz : s.data.toList.length = s.size := by simp
  by_cases h : (spl 59 s.data.toList).length ≤ min 17 (s.size + 1) - 1 + 1
  · unfold cut59; rw [(splitK_spl 59 _ _).1 h]
  · have he : min 17 (s.size + 1) - 1 = 16 := by omega
    have h2 := (splitK_spl 59 (min 17 (s.size + 1) - 1) s.data.toList).2 (by omega)
    rw [La.vp_long (by unfold cut59; rw [h2, he]; omega), La.vp_long (by omega)]
theorem cut59_len (s : ByteArray) : (cut59 s).length ≤ 17 := by
  by_cases h : (spl 59 s.data.toList).length ≤ min 17 (s.size + 1) - 1 + 1
  · unfold cut59; rw [(splitK_spl 59 _ _).1 h]; omega
  · have h2 := (splitK_spl 59 (min 17 (s.size + 1) - 1) s.data.toList).2 (by omega)
    unfold cut59; rw [h2]; omega
theorem own_nums {B : Nat} {w : World} {u : Value} {zs : List Int} (h : Own B w u zs) (hn : 0 < zs.length) :
    ∃ g cap, u = .slice (some ⟨g, 0, none⟩) zs.length cap ∧ ∀ j x, zs[j]? = some x → w.cell? ⟨g, j, none⟩ = some (.int .i64 x) := by
  obtain ⟨g, cap, rfl⟩ := Go.Joins.ownsRow_form h hn
  refine ⟨g, cap, rfl, fun j x hx => ?_⟩
  have hj : j < zs.length := (List.getElem?_eq_some_iff.1 hx).1
  rw [World.ownsRow.cellAt h j (by omega)]
  exact iv_at hx
/-- the box of a layer that has been written -/
def setY (w : World) (g : Nat) (x : Lay) : World := ((((((w.setCell ⟨g, 0, none⟩ (.int .i64 x.fo)).setCell ⟨g, 1, none⟩ (.int .i64 x.ic)).setCell ⟨g, 2, none⟩ (.int .i64 x.wa)).setCell ⟨g, 3, none⟩ (.int .i64 x.de)).setCell ⟨g, 4, none⟩ (.int .i64 x.dg)).setCell ⟨g, 5, none⟩ (.int .i64 x.ha)).setCell ⟨g, 6, none⟩ (.int .i64 x.ag)
theorem setY_cells {w : World} {g : Nat} {t : TypeId} (h : Whole w g t #[.int .i64 0, .int .i64 0, .int .i64 0, .int .i64 0, .int .i64 0, .int .i64 0, .int .i64 0]) (x : Lay) : Whole (setY w g x) g t #[.int .i64 x.fo, .int .i64 x.ic, .int .i64 x.wa, .int .i64 x.de, .int .i64 x.dg, .int .i64 x.ha, .int .i64 x.ag] := by
  have := ((((((h.put 0 (.int .i64 x.fo)).put 1 (.int .i64 x.ic)).put 2 (.int .i64 x.wa)).put 3 (.int .i64 x.de)).put 4 (.int .i64 x.dg)).put 5 (.int .i64 x.ha)).put 6 (.int .i64 x.ag)
  unfold setY
  simpa using this
theorem setY_below {w0 w : World} {g : Nat} (h : Below w0.heap.size w0 w) (hg : w0.heap.size ≤ g) (x : Lay) : Below w0.heap.size w0 (setY w g x) := by
  unfold setY
  exact ((((((h.setCell (p := ⟨g, 0, none⟩) hg _).setCell (p := ⟨g, 1, none⟩) hg _).setCell (p := ⟨g, 2, none⟩) hg _).setCell (p := ⟨g, 3, none⟩) hg _).setCell (p := ⟨g, 4, none⟩) hg _).setCell (p := ⟨g, 5, none⟩) hg _).setCell (p := ⟨g, 6, none⟩) hg _
/-- what reading one layer leaves -/
def RY (w : World) (o : Option Lay) (e : Ending) (w' : World) : Prop :=
  e = .returned (.tuple #[.agg #[.int .i64 (o.getD La.lz).fo, .int .i64 (o.getD La.lz).ic, .int .i64 (o.getD La.lz).wa, .int .i64 (o.getD La.lz).de, .int .i64 (o.getD La.lz).dg, .int .i64 (o.getD La.lz).ha, .int .i64 (o.getD La.lz).ag], .bool o.isSome]) ∧ Below w.heap.size w w'
theorem RY.no {w w' : World} {o : Option Lay} (ho : o = none) (hb : Below w.heap.size w w') : RY w o (.returned (.tuple #[.agg #[.int .i64 0, .int .i64 0, .int .i64 0, .int .i64 0, .int .i64 0, .int .i64 0, .int .i64 0], .bool false])) w' := by
  subst ho; exact ⟨rfl, hb⟩
theorem RY.yes {w w' : World} {o : Option Lay} {a b c d e f g : Int} (ho : o = some ⟨a, b, c, d, e, f, g⟩) (hb : Below w.heap.size w w') : RY w o (.returned (.tuple #[.agg #[.int .i64 a, .int .i64 b, .int .i64 c, .int .i64 d, .int .i64 e, .int .i64 f, .int .i64 g], .bool true])) w' := by
  subst ho; exact ⟨rfl, hb⟩
end Go.Proofs.YtmieckchppfogaaDoor
