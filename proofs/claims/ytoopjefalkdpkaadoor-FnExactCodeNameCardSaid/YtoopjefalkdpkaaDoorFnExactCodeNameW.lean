/-
  The walk of the law FnExactCodeName and what it stands on: For every int64 the program's CodeName answers as its model, where impl.codeNames holds what the program's text lays (tied by the card). No other condition.
-/
import Derived.Test.YtoopjefalkdpkaaDoorRows
import Derived.WalkKit
import Derived.WalkSpells
import Derived.WalkLawsBesides
import Derived.Outline
import Derived.IntWalk
import Derived.Lib.Hide
import Derived.ProofKit
import Derived.OpenShut
import Derived.ShutString
import Derived.ChangeOld
import Derived.ChangeVars
import Derived.Below
import Derived.WalkSmall
import Derived.Lib.LaidTab
import Derived.LaidMore
import Derived.LaidSub
namespace Go.Proofs.YtoopjefalkdpkaaDoor.fnExactCodeName
open Go.ChangeShapes Go.WideShapes Go.ChangeAt Go.RowKit
open Go.ChangeMaps (open_string shut_string)
set_option linter.unusedVariables false
theorem gvar : Tryd.prog.globalNamed "loop.example/g01013/impl.codeNames" = some 0 := by kernel_rfl
theorem gtype : (Tryd.prog.globals[0]?).map (·.type) = some 45 := by kernel_rfl
theorem cellsA : Tryd.prog.cellsOf 45 = 12 := by kernel_rfl
theorem cellsS : Tryd.prog.cellsOf 9 = 1 := by kernel_rfl
theorem var_lt {W : World} {cs : Array Value} {g : Nat} {s : String} (hg : Tryd.prog.globalNamed s = some g) (h : W.var? Tryd.prog s = some cs) : g < W.heap.size := by
  simp only [World.var?, hg, Option.bind_some] at h
  rcases Nat.lt_or_ge g W.heap.size with h' | h'
  · exact h'
  · rw [Array.getElem?_eq_none h'] at h; cases h
/-- an array of strings that reads as these texts holds them, cell for cell -/
theorem strCells {H : Type} {enc : TypeId × Value → H} {P : Program} {w : World} {base : Nat} {sp : Nat → Bool} {held : Bool} {fuel : Nat} {t e : TypeId} {n : Nat} {cs : List Value} {ss : List (List UInt8)} {x : DataW H × List MemPlace}
    (ht : P.underlying t = some (.array n e)) (he : P.underlying e = some .string) (hce : P.cellsOf e = 1) (h : DataW.trod enc P w base sp held fuel t cs = some x) (hx : x.1 = .agg (ss.map fun b => .lit (.string b))) (i : Nat) (b : List UInt8) (hi : ss[i]? = some b) (hin : i < n) :
    ∃ s : ByteArray, cs[i]? = some (.string s) ∧ s.data.toList = b := by
  obtain ⟨xs, m, rfl, rfl, hl, hn, hel⟩ := DataW.trod_array ht h
  simp only [DataW.agg.injEq] at hx
  have hi' := hel i hin
  rw [hce, Nat.mul_one] at hi'
  obtain ⟨y, hy⟩ : ∃ y, xs[i]? = some y := ⟨xs[i]'(by omega), by rw [List.getElem?_eq_getElem]⟩
  rw [hy] at hi'
  obtain ⟨s, e1, e2, _⟩ := DataW.trod_string he hi'
  have h1 : (xs.map (·.1))[i]? = some (.lit (.string s.data.toList)) := by rw [List.getElem?_map, hy, e2]; rfl
  rw [hx, List.getElem?_map, hi] at h1
  simp only [Option.map_some, Option.some.injEq, DataW.lit.injEq, Lit.string.injEq] at h1
  refine ⟨s, ?_, h1.symm⟩
  have := congrArg (·[0]?) e1
  simpa [List.getElem?_take, List.getElem?_drop] using this
def names : List (List UInt8) := [[111, 107], [105, 110, 118, 97, 108, 105, 100], [114, 97, 110, 103, 101], [110, 111, 116, 45, 102, 111, 117, 110, 100], [101, 120, 105, 115, 116, 115], [102, 117, 108, 108], [115, 116, 97, 116, 101], [111, 114, 100, 101, 114], [115, 121, 110, 116, 97, 120], [102, 111, 114, 109, 97, 116], [99, 104, 101, 99, 107, 115, 117, 109], [116, 114, 117, 110, 99, 97, 116, 101, 100]]
theorem cell_of {W : World} (h : laidMetH Tryd.prog Rows.fnExactCodeNameRow.laid W) (i : Nat) (b : List UInt8) (hi : names[i]? = some b) (hin : i < 12) : W.cell? ⟨0, i, none⟩ = some (.string ⟨b.toArray⟩) := by
  obtain ⟨ps, ⟨g, t, cs, fuel, p, q, hg, ht, hvar, hd, _, _⟩, _⟩ := h
  obtain rfl := Option.some.inj (gvar.symm.trans hg)
  obtain rfl := Option.some.inj (gtype.symm.trans ht)
  obtain ⟨s, h1, h2⟩ := strCells (ss := names) Tryd.underlying45 Tryd.underlying9 cellsS hd rfl i b hi hin
  have := World.var?_cell hg hvar i
  rw [this]
  have e : s = ⟨b.toArray⟩ := by rw [← h2]
  rw [← e]
  simpa using h1

theorem ret_str {a b : ByteArray} (h : a = b) : Ending.returned (.string a) = .returned (.string b) := by rw [h]
/-- the name of a code -/
def nameOf (a : Int) : ByteArray := if 0 ≤ a ∧ a ≤ 11 then ⟨(names.getD a.toNat []).toArray⟩ else ⟨#[]⟩
set_option maxHeartbeats 4000000 in
theorem spec_any (a : Int) (w : World) : Calls Tryd.prog 9 #[.int .i64 a] w fun e w' => e = .returned (.string (nameOf a)) ∧ Below w.heap.size w w' := by
  by_cases h : 0 ≤ a ∧ a ≤ 11
  · have hc : a = 0 ∨ a = 1 ∨ a = 2 ∨ a = 3 ∨ a = 4 ∨ a = 5 ∨ a = 6 ∨ a = 7 ∨ a = 8 ∨ a = 9 ∨ a = 10 ∨ a = 11 := by omega
    clear h
    rcases hc with rfl | rfl | rfl | rfl | rfl | rfl | rfl | rfl | rfl | rfl | rfl | rfl
    all_goals
      go_enter Tryd.func9, Tryd.ntmps9
      go_wp2
      go_ret
      exact ⟨rfl, (Below.refl _ _).alloc (Nat.le_refl _) _⟩
  · have hn : Hid (nameOf a = ⟨#[]⟩) := Lib.hid (by unfold nameOf; rw [if_neg h])
    by_cases h1 : 0 ≤ a
    · have h2 : ¬ a ≤ 11 := by omega
      clear h
      go_enter Tryd.func9, Tryd.ntmps9
      go_wp2
      go_ret
      exact ⟨ret_str hn.out.symm, (Below.refl _ _).alloc (Nat.le_refl _) _⟩
    · clear h
      go_enter Tryd.func9, Tryd.ntmps9
      go_wp2
      go_ret
      exact ⟨ret_str hn.out.symm, (Below.refl _ _).alloc (Nat.le_refl _) _⟩
theorem impl_at (i : Nat) (b : List UInt8) (hi : names[i]? = some b) (hin : i < 12) (w : World) (hc : w.cell? ⟨0, i, none⟩ = some (.string ⟨b.toArray⟩)) :
    Calls Tryd.prog 10 #[.int .i64 i] w fun e w' => e = .returned (.string (nameOf i)) ∧ w = w' := by
  have hn : Hid (nameOf i = ⟨b.toArray⟩) := Lib.hid (by unfold nameOf; rw [if_pos (by omega), Int.toNat_natCast, List.getD_eq_getElem?_getD, hi]; rfl)
  have hle : decide ((i : Int) ≤ 11) = true := by simp; omega
  clear hi
  go_enter Tryd.func10, Tryd.ntmps10
  go_wp2
  go_ret
  exact ⟨ret_str hn.out.symm, rfl⟩
theorem impl_out (a : Int) (w : World) (h : ¬ (0 ≤ a ∧ a ≤ 11)) :
    Calls Tryd.prog 10 #[.int .i64 a] w fun e w' => e = .returned (.string (nameOf a)) ∧ w = w' := by
  have hn : Hid (nameOf a = ⟨#[]⟩) := Lib.hid (by unfold nameOf; rw [if_neg h])
  by_cases h1 : 0 ≤ a
  · have h2 : ¬ a ≤ 11 := by omega
    clear h
    go_enter Tryd.func10, Tryd.ntmps10
    go_wp2
    go_ret
    exact ⟨ret_str hn.out.symm, rfl⟩
  · clear h
    go_enter Tryd.func10, Tryd.ntmps10
    go_wp2
    go_ret
    exact ⟨ret_str hn.out.symm, rfl⟩
theorem impl_any (a : Int) (w : World) (hc : ∀ (i : Nat) b, names[i]? = some b → i < 12 → w.cell? ⟨0, i, none⟩ = some (.string ⟨b.toArray⟩)) :
    Calls Tryd.prog 10 #[.int .i64 a] w fun e w' => e = .returned (.string (nameOf a)) ∧ w = w' := by
  by_cases h : 0 ≤ a ∧ a ≤ 11
  · obtain ⟨i, rfl⟩ := Int.eq_ofNat_of_zero_le h.1
    have hi : i < names.length := by simp [names]; omega
    exact impl_at i names[i] (List.getElem?_eq_getElem hi) (by omega) w (hc i _ (List.getElem?_eq_getElem hi) (by omega))
  · exact impl_out a w h
theorem walk (a0 : Int) (w : World) (w0 : (Lit.int .i64 a0).wf = true) (hL : laidMetH Tryd.prog Rows.fnExactCodeNameRow.laid w) (hsh : w.ShapedOpen Tryd.prog) :
    Calls Tryd.prog 3 #[.int .i64 a0] w fun e w' => e = .returned (.bool true) ∧ Below w.heap.size w w' := by
  have hz : 0 < w.heap.size := by
    obtain ⟨ps, ⟨g, t, cs, fuel, p, q, hg, ht, hvar, hd, _, _⟩, _⟩ := hL
    obtain rfl := Option.some.inj (gvar.symm.trans hg)
    exact var_lt hg hvar
  have hcs := Lib.hid (cell_of hL)
  clear hL hsh
  go_enter Tryd.func3, Tryd.ntmps3
  go_wp2_with fail
  refine (spec_any _ _).mono ?_
  rintro e w1 ⟨rfl, hb⟩
  have hc1 : Hid (∀ (i : Nat) b, names[i]? = some b → i < 12 → w1.cell? ⟨0, i, none⟩ = some (.string ⟨b.toArray⟩)) := Lib.hid fun i b hi hin => (hb.cell (p := ⟨0, i, none⟩) hz).trans (hcs.out i b hi hin)
  go_wp2_with fail
  refine (impl_any _ _ hc1.out).mono ?_
  rintro e w2 ⟨rfl, rfl⟩
  go_wp2_with fail
  go_ret
  exact ⟨rfl, hb⟩
end Go.Proofs.YtoopjefalkdpkaaDoor.fnExactCodeName
