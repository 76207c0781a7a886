/-
  Chapter 5 by the model: a profile of its own, settled, warmed, cooled, drained. No condition of its own.
-/
import Derived.Test.YtbdhdlgenfpjgaaDoorHrA
import Derived.Test.YtbdhdlgenfpjgaaDoorRow
import Derived.Test.YtbdhdlgenfpjgaaDoorLoad
import Derived.Laws.AppendOwn
import Derived.Laws.OwnMore
namespace Go.Proofs.YtbdhdlgenfpjgaaDoor
open Go.RowKit Go.Shelf
set_option linter.unusedVariables false
set_option maxRecDepth 100000

/-- how a call ends that answers layers, or layers and a number -/
def RL (w : World) (xs : List Lay) (e : Ending) (w' : World) : Prop := ∃ g cap, e = .returned (.slice (some ⟨g, 0, none⟩) xs.length cap) ∧ LOwn w.heap.size w' (.slice (some ⟨g, 0, none⟩) xs.length cap) xs ∧ Below w.heap.size w w'
def RLI (w : World) (xs : List Lay) (r : Int) (e : Ending) (w' : World) : Prop := ∃ g cap, e = .returned (.tuple #[.slice (some ⟨g, 0, none⟩) xs.length cap, .int .i64 r]) ∧ LOwn w.heap.size w' (.slice (some ⟨g, 0, none⟩) xs.length cap) xs ∧ Below w.heap.size w w'
theorem RL.yes {w w' : World} {g n cap : Nat} {xs ys : List Lay} (h : xs = ys) (ho : LOwn w.heap.size w' (.slice (some ⟨g, 0, none⟩) n cap) ys) (hb : Below w.heap.size w w') : RL w xs (.returned (.slice (some ⟨g, 0, none⟩) n cap)) w' := by
  subst h
  have := ho.lenEq
  subst this
  exact ⟨g, cap, rfl, ho, hb⟩
theorem RLI.yes {w w' : World} {g n cap : Nat} {xs ys : List Lay} {r s : Int} (h : xs = ys ∧ r = s) (ho : LOwn w.heap.size w' (.slice (some ⟨g, 0, none⟩) n cap) ys) (hb : Below w.heap.size w w') : RLI w xs r (.returned (.tuple #[.slice (some ⟨g, 0, none⟩) n cap, .int .i64 s])) w' := by
  obtain ⟨rfl, rfl⟩ := h
  have := ho.lenEq
  subst this
  exact ⟨g, cap, rfl, ho, hb⟩
set_option maxHeartbeats 1600000 in
theorem l05Own_any (B b cap : Nat) (w : World) (xs : List Lay) (ho : LOwn B w (.slice (some ⟨b, 0, none⟩) xs.length cap) xs) (hl : xs.length ≤ 1048576) :
    Calls Tryd.prog 17 #[.slice (some ⟨b, 0, none⟩) xs.length cap] w (RL w xs) := by
  obtain ⟨i0, hi, hz0, hz1, hz2⟩ := info_parts info_layer
  have HO := Lib.hid ho
  have HC : Hid (∀ W, Below w.heap.size w W → ∀ j u, (iv (La.fl xs))[j]? = some u → W.cell? ((⟨b, 0, none⟩ : Addr).add j) = some u) := Lib.hid (fun W h j u hj => World.ownsRow.cells (HO.out.belowAll h) (g := b) rfl j u hj)
  have HL : Hid ((iv (La.fl xs)).length = xs.length * 7) := Lib.hid (by rw [iv_length, La.fl_length, Nat.mul_comm])
  clear ho
  go_enter Tryd.func17, Tryd.ntmps17
  go_wp2_with (at_builtin; refine wpList_append_own _ rfl _ _ 25 rfl w.heap.size 42 i0 _ 7 56 Tryd.underlying25 hi hz0 hz1 hz2 rfl (by decide) _ 0 [] rfl (World.ownsRow_lit _ _ _ (Nat.le_refl _) (by decide) (by decide)) ⟨b, 0, none⟩ xs.length cap (iv (La.fl xs)) rfl HL.out (HC.out _ ((Below.refl _ _).alloc (Nat.le_refl _) _)) (iv_cell _) ?c3 ?c4 ?c5 ?_)
  case c3 => unfold maxLen; omega
  case c4 => omega
  case c5 => first | omega | (simp; done) | (simp; omega)
  intro v' w3 hown' hgrow hnil
  have hform : ∃ g cap', v' = .slice (some ⟨g, 0, none⟩) xs.length cap' := by
    rcases Go.Joins.ownsRow_forms hown' with ⟨hv, -⟩ | ⟨g, cap', hv⟩
    · exact absurd hv (by simpa using hnil)
    · exact ⟨g, cap', by simpa using hv⟩
  obtain ⟨g, cap', rfl⟩ := hform
  have hnx : Hid (LOwn w.heap.size w3 (.slice (some ⟨g, 0, none⟩) xs.length cap') xs) := Lib.hid (by unfold LOwn; simpa using hown')
  have hnb : Hid (Below w.heap.size w w3) := Lib.hid (((Below.refl w.heap.size w).alloc (Nat.le_refl _) _).grown hgrow (by simp) (fun j hj => by
    first | (simp only [Value.ownBlock, Option.some.injEq] at hj; done) | (simp only [Value.ownBlock, Option.some.injEq] at hj; omega)))
  clear hown' hgrow hnil
  go_wp2
  go_ret
  exact RL.yes rfl hnx.out hnb.out
end Go.Proofs.YtbdhdlgenfpjgaaDoor
