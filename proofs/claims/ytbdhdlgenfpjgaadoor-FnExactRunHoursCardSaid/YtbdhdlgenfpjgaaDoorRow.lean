/-
  One layer of a row of layers is written anew, whole or one number of it. No condition of its own.
-/
import Derived.Test.YtbdhdlgenfpjgaaDoorLays
import Derived.Test.YtbdhdlgenfpjgaaDoorHr
namespace Go.Proofs.YtbdhdlgenfpjgaaDoor
open Go.RowKit
set_option linter.unusedVariables false
set_option maxRecDepth 100000

theorem putAll_eq : ∀ (vs ys : List Value) (o : Nat), o + vs.length ≤ ys.length → putAll ys o vs = ys.take o ++ vs ++ ys.drop (o + vs.length)
  | [], ys, o, _ => by simp [putAll]
  | v :: vs, ys, o, h => by
    rw [List.length_cons] at h
    rw [putAll, putAll_eq vs (ys.set o v) (o + 1) (by rw [List.length_set]; omega), set_take (by omega) rfl, List.drop_set_of_lt (by omega), List.length_cons, show o + 1 + vs.length = o + (vs.length + 1) by omega]
    simp
namespace La
theorem fl_parts {zs : List Lay} {j : Nat} (h : j < zs.length) : fl zs = fl (zs.take j) ++ lv zs[j] ++ fl (zs.drop (j + 1)) := by
  have e : zs = zs.take j ++ zs[j] :: zs.drop (j + 1) := by rw [← List.drop_eq_getElem_cons h, List.take_append_drop]
  conv => lhs; rw [e]
  rw [fl_app, fl_cons, List.append_assoc]
theorem fl_set {zs : List Lay} {j : Nat} (h : j < zs.length) (y : Lay) : fl (zs.set j y) = fl (zs.take j) ++ lv y ++ fl (zs.drop (j + 1)) := by
  have h' : j < (zs.set j y).length := by rw [List.length_set]; exact h
  rw [fl_parts h', List.getElem_set_self, List.take_set_of_le (Nat.le_refl _), List.drop_set_of_lt (by omega)]
theorem fl_take7 (zs : List Lay) (j : Nat) : (fl zs).take (j * 7) = fl (zs.take j) := by rw [Nat.mul_comm]; exact fl_take zs j
theorem fl_drop7 {zs : List Lay} {j : Nat} (h : j < zs.length) : (fl zs).drop (j * 7 + 7) = fl (zs.drop (j + 1)) := by
  have e : (fl (zs.take j) ++ lv zs[j]).length = j * 7 + 7 := by rw [List.length_append, fl_length, List.length_take, lv_length]; omega
  rw [fl_parts h, ← e, List.drop_left]
end La
theorem putAll_fl {zs : List Lay} {j : Nat} (h : j < zs.length) (y : Lay) : putAll (iv (La.fl zs)) (j * 7) (lc y) = iv (La.fl (zs.set j y)) := by
  have hl : (lc y).length = 7 := rfl
  have hlen : (iv (La.fl zs)).length = 7 * zs.length := by rw [iv_length, La.fl_length]
  rw [putAll_eq _ _ _ (by rw [hl, hlen]; omega), hl, La.fl_set h, iv_append, iv_append, lc_eq]
  unfold iv
  rw [← List.map_take, ← List.map_drop, La.fl_take7, La.fl_drop7 h]
/-- the row behind a store of a whole layer -/
theorem LOwn.put {B n cap g : Nat} {w : World} {zs : List Lay} (ho : LOwn B w (.slice (some ⟨g, 0, none⟩) n cap) zs) {j : Nat} (h : j < zs.length) (y : Lay) :
    LOwn B (lset w g j y) (.slice (some ⟨g, 0, none⟩) n cap) (zs.set j y) := by
  have hn : n = zs.length := by
    rcases ho.2 with ⟨hv, _⟩ | ⟨g', cap', cur, hv, _⟩
    · cases hv
    · simp only [Value.slice.injEq] at hv; exact hv.2.1
  subst hn
  have := own_setCells (lc y) (j * 7) ho
  rw [putAll_fl h] at this
  unfold LOwn lset
  rw [List.length_set]; exact this
/-- the row behind a store of one number of a layer -/
theorem LOwn.put1 {B n cap g : Nat} {w : World} {zs : List Lay} (ho : LOwn B w (.slice (some ⟨g, 0, none⟩) n cap) zs) {j : Nat} (h : j < zs.length) (c : Nat) (hc : c < 7) (z : Int) (y : Lay) (hy : La.lv y = (La.lv zs[j]).set c z) :
    LOwn B (w.setCell ⟨g, j * 7 + c, none⟩ (.int .i64 z)) (.slice (some ⟨g, 0, none⟩) n cap) (zs.set j y) := by
  have hn : n = zs.length := by
    rcases ho.2 with ⟨hv, _⟩ | ⟨g', cap', cur, hv, _⟩
    · cases hv
    · simp only [Value.slice.injEq] at hv; exact hv.2.1
  subst hn
  have h1 := (World.ownsRow.stored ho (j * 7 + c) (.int .i64 z)).1
  have hs : (iv (La.fl zs)).set (j * 7 + c) (.int .i64 z) = iv (La.fl (zs.set j y)) := by
    rw [La.fl_set h, hy]
    conv => lhs; rw [La.fl_parts h]
    unfold iv
    rw [← List.map_set]
    congr 1
    have hl : (La.fl (zs.take j)).length = j * 7 := by rw [La.fl_length, List.length_take]; omega
    rw [List.append_assoc, List.set_append_right _ _ (by omega), hl, Nat.add_sub_cancel_left, List.set_append_left _ _ (by rw [La.lv_length]; exact hc), List.append_assoc]
  rw [hs] at h1
  unfold LOwn
  rw [List.length_set]; exact h1
theorem lset_below {B : Nat} {w0 w : World} {g : Nat} (hg : B ≤ g) (j : Nat) (y : Lay) (h : Below B w0 w) : Below B w0 (lset w g j y) := below_setCells hg _ _ h
/-- a layer's cells in a row of the call's own, and that they may be written -/
theorem LOwn.cells {B n cap g : Nat} {w : World} {zs : List Lay} (ho : LOwn B w (.slice (some ⟨g, 0, none⟩) n cap) zs) {j : Nat} (h : j < zs.length) : LCells w g (j * 7) zs[j] := by
  rcases ho.sl with ⟨rfl, _⟩ | ⟨b, off, cap', hv, _, hc⟩
  · cases h
  · simp only [Value.slice.injEq, Option.some.injEq, Addr.mk.injEq, and_true] at hv
    obtain ⟨⟨rfl, rfl⟩, -, -⟩ := hv
    have := lcells_of hc h
    rwa [Nat.zero_add] at this
theorem LOwn.lenEq {B n cap g : Nat} {w : World} {zs : List Lay} (ho : LOwn B w (.slice (some ⟨g, 0, none⟩) n cap) zs) : n = zs.length := by
  rcases ho.2 with ⟨hv, _⟩ | ⟨g', cap', cur, hv, _⟩
  · cases hv
  · simp only [Value.slice.injEq] at hv; exact hv.2.1
theorem LOwn.free {B n cap g : Nat} {w : World} {zs : List Lay} (ho : LOwn B w (.slice (some ⟨g, 0, none⟩) n cap) zs) (j : Nat) : w.frozen? ⟨g, j, none⟩ = false := by
  have := ho.lenEq
  subst this
  exact World.ownsRow.frozenAt ho j
theorem LOwn.src {w : World} {v : Value} {xs : List Lay} (h : LSl w v xs) (a : Option Addr) (n cap : Nat) (hv : v = .slice a n cap) : 0 < n → ∃ ad, a = some ad ∧ ∀ j u, (iv (La.fl xs))[j]? = some u → w.cell? (ad.add j) = some u := by
  intro hn
  subst hv
  rcases h with ⟨rfl, a', cap', hv⟩ | ⟨b, off, cap', hv, hlt, hc⟩
  · simp only [Value.slice.injEq] at hv; omega
  · simp only [Value.slice.injEq] at hv
    obtain ⟨rfl, -, -⟩ := hv
    refine ⟨_, rfl, fun j u hj => ?_⟩
    unfold iv at hj
    rw [List.getElem?_map] at hj
    obtain ⟨z, hz, rfl⟩ := Option.map_eq_some_iff.1 hj
    have := hc j z hz
    rw [show (⟨b, off, none⟩ : Addr).add j = ⟨b, off + j, none⟩ by unfold Addr.add; split <;> simp_all]
    exact this
/-- a row with one layer changed number by number -/
theorem LOwn.self {B n cap g : Nat} {w : World} {zs : List Lay} (ho : LOwn B w (.slice (some ⟨g, 0, none⟩) n cap) zs) {j : Nat} (h : j < zs.length) : LOwn B w (.slice (some ⟨g, 0, none⟩) n cap) (zs.set j zs[j]) := by
  rw [List.set_getElem_self]; exact ho
theorem LOwn.chg {B n cap g : Nat} {w : World} {zs : List Lay} {j : Nat} {y : Lay} (ho : LOwn B w (.slice (some ⟨g, 0, none⟩) n cap) (zs.set j y)) (h : j < zs.length) (c : Nat) (hc : c < 7) (z : Int) (y' : Lay) (hy : La.lv y' = (La.lv y).set c z) :
    LOwn B (w.setCell ⟨g, j * 7 + c, none⟩ (.int .i64 z)) (.slice (some ⟨g, 0, none⟩) n cap) (zs.set j y') := by
  have h' : j < (zs.set j y).length := by rw [List.length_set]; exact h
  have := ho.put1 h' c hc z y' (by rw [List.getElem_set_self]; exact hy)
  rwa [List.set_set] at this
theorem mid_get {xs ys : List Lay} {j : Nat} (h : j < xs.length) (h' : j < (xs.take (j + 1) ++ ys).length) : (xs.take (j + 1) ++ ys)[j] = xs[j] := by
  rw [List.getElem_append_left (by rw [List.length_take]; omega), List.getElem_take]
theorem mid_set {xs ys : List Lay} {j : Nat} (h : j < xs.length) (y : Lay) : (xs.take (j + 1) ++ ys).set j y = xs.take j ++ (y :: ys) := by
  rw [List.take_succ_eq_append_getElem h, List.append_assoc, List.set_append_right _ _ (by rw [List.length_take]; omega), List.length_take, Nat.min_eq_left (by omega), Nat.sub_self]; rfl
theorem mid_len {xs ys : List Lay} {j : Nat} (h : j < xs.length) : j < (xs.take (j + 1) ++ ys).length := by rw [List.length_append, List.length_take]; omega
theorem LOwn.mid {B n cap g : Nat} {w : World} {xs ys : List Lay} {j : Nat} (h : j < xs.length) (ho : LOwn B w (.slice (some ⟨g, 0, none⟩) n cap) (xs.take (j + 1) ++ ys)) : LOwn B w (.slice (some ⟨g, 0, none⟩) n cap) ((xs.take (j + 1) ++ ys).set j xs[j]) := by
  have := ho.self (mid_len (ys := ys) h)
  rwa [mid_get h] at this
/-- the row of the layers up to one and what has been made of those above it, behind a store of that one -/
theorem LOwn.mid_put {B n cap g : Nat} {w : World} {xs ys : List Lay} {j : Nat} (h : j < xs.length) (ho : LOwn B w (.slice (some ⟨g, 0, none⟩) n cap) (xs.take (j + 1) ++ ys)) (y : Lay) :
    LOwn B (lset w g j y) (.slice (some ⟨g, 0, none⟩) n cap) (xs.take j ++ (y :: ys)) := by
  have := ho.put (mid_len (ys := ys) h) y
  rwa [mid_set h] at this
theorem LOwn.mid_cells {B n cap g : Nat} {w : World} {xs ys : List Lay} {j : Nat} (h : j < xs.length) (ho : LOwn B w (.slice (some ⟨g, 0, none⟩) n cap) (xs.take (j + 1) ++ ys)) : LCells w g (j * 7) xs[j] := by
  have := ho.cells (mid_len (ys := ys) h)
  rwa [mid_get h] at this
theorem LOwn.mid_done {B n cap g : Nat} {w : World} {xs ys : List Lay} {j : Nat} (h : j < xs.length) {y : Lay} (ho : LOwn B w (.slice (some ⟨g, 0, none⟩) n cap) ((xs.take (j + 1) ++ ys).set j y)) :
    LOwn B w (.slice (some ⟨g, 0, none⟩) n cap) (xs.take j ++ (y :: ys)) := by
  rwa [mid_set h] at ho
theorem LOwn.base {B n cap g : Nat} {w : World} {zs : List Lay} (ho : LOwn B w (.slice (some ⟨g, 0, none⟩) n cap) zs) : B ≤ g := (World.ownsRow.lt ho g rfl).1
end Go.Proofs.YtbdhdlgenfpjgaaDoor
