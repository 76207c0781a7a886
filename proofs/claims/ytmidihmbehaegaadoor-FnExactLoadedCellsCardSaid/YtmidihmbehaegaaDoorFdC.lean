/-
  Rows of numbers: copied, compared, added up, looked through, by the program and by the model. No condition of its own.
-/
import Derived.Test.YtmidihmbehaegaaDoorFdO
import Derived.Test.YtmidihmbehaegaaDoorIntG
import Derived.Laws.AppendOwn
import Derived.Laws.OwnMore
import Derived.Lib.SliceRun
namespace Go.Proofs.YtmidihmbehaegaaDoor
open Go.RowKit Go.Shelf
set_option linter.unusedVariables false
set_option maxRecDepth 100000

/-- an argument that is a row of numbers of somebody's own -/
def IAt (w : World) (v : Value) (zs : List Int) : Prop := ∃ B b cap, v = .slice (some ⟨b, 0, none⟩) zs.length cap ∧ Own B w v zs
theorem IAt.sl {w : World} {v : Value} {zs : List Int} (h : IAt w v zs) : Sl w v zs := by obtain ⟨B, b, cap, rfl, ho⟩ := h; exact ho.sl
theorem IAt.all {w w1 : World} {v : Value} {zs : List Int} (h : IAt w v zs) (hb : Below w.heap.size w w1) : IAt w1 v zs := by
  obtain ⟨B, b, cap, rfl, ho⟩ := h; exact ⟨B, b, cap, rfl, ho.belowAll hb⟩
theorem Own.at_ {B g n cap : Nat} {w : World} {zs : List Int} (h : Own B w (.slice (some ⟨g, 0, none⟩) n cap) zs) (hn : n = zs.length) : IAt w (.slice (some ⟨g, 0, none⟩) n cap) zs := by subst hn; exact ⟨B, g, cap, rfl, h⟩
theorem Own.le {B B' : Nat} {w : World} {v : Value} {zs : List Int} (h : Own B w v zs) (hb : B' ≤ B) : Own B' w v zs := Go.Joins.ownsRow_le h hb
theorem Own.nil (B : Nat) (w : World) : Own B w (.slice none 0 0) [] := World.ownsRow_nil _ _ _ _
theorem Own.drewN {B : Nat} {w : World} {v : Value} {zs : List Int} (h : Own B w v zs) (q : Nat) : Own B (w.drewN q) v zs := h.belowAll (below_drewW w q)
/-- how a call ends that answers numbers of its own -/
def RN (w : World) (zs : List Int) (e : Ending) (w' : World) : Prop := ∃ g cap, e = .returned (.slice (some ⟨g, 0, none⟩) zs.length cap) ∧ Own w.heap.size w' (.slice (some ⟨g, 0, none⟩) zs.length cap) zs ∧ Below w.heap.size w w'
theorem own_len {B g n cap : Nat} {w : World} {zs : List Int} (h : Own B w (.slice (some ⟨g, 0, none⟩) n cap) zs) : n = zs.length := by
  rcases h.2 with ⟨hv, _⟩ | ⟨g', cap', cur, hv, _⟩
  · cases hv
  · simp only [Value.slice.injEq] at hv; omega
theorem RN.yes {w w' : World} {g n cap : Nat} {xs ys : List Int} (h : xs = ys) (ho : Own w.heap.size w' (.slice (some ⟨g, 0, none⟩) n cap) ys) (hb : Below w.heap.size w w') : RN w xs (.returned (.slice (some ⟨g, 0, none⟩) n cap)) w' := by
  subst h
  have := own_len ho
  subst this
  exact ⟨g, cap, rfl, ho, hb⟩
set_option maxHeartbeats 1600000 in
theorem l00Own_at (B b cap : Nat) (w : World) (zs : List Int) (ho : Own B w (.slice (some ⟨b, 0, none⟩) zs.length cap) zs) (hl : zs.length ≤ 1048576) :
    Calls Tryd.prog 49 #[.slice (some ⟨b, 0, none⟩) zs.length cap] w (RN w zs) := by
  obtain ⟨i0, hi, hz0, hz1, hz2⟩ := info_parts info_i64
  have HO := Lib.hid ho
  have HC : Hid (∀ W, Below w.heap.size w W → ∀ j u, (iv zs)[j]? = some u → W.cell? ((⟨b, 0, none⟩ : Addr).add j) = some u) := Lib.hid (fun W h j u hj => World.ownsRow.cells (HO.out.belowAll h) (g := b) rfl j u hj)
  have HL : Hid ((iv zs).length = zs.length * 1) := Lib.hid (by rw [iv_length, Nat.mul_one])
  clear ho
  go_enter Tryd.func49, Tryd.ntmps49
  go_wp2_with (at_builtin; refine wpList_append_own _ rfl _ _ 22 rfl w.heap.size 2 i0 _ 1 8 Tryd.underlying22 hi hz0 hz1 hz2 rfl (by decide) _ 0 [] rfl (World.ownsRow_lit _ _ _ (Nat.le_refl _) (by decide) (by decide)) ⟨b, 0, none⟩ zs.length cap (iv zs) rfl HL.out (HC.out _ ((Below.refl _ _).alloc (Nat.le_refl _) _)) (iv_cell _) ?c3 ?c4 ?c5 ?_)
  case c3 => unfold maxLen; omega
  case c4 => omega
  case c5 => first | omega | (simp; done) | (simp; omega)
  intro v' w3 hown' hgrow hnil
  have hform : ∃ g cap', v' = .slice (some ⟨g, 0, none⟩) zs.length cap' := by
    rcases Go.Joins.ownsRow_forms hown' with ⟨hv, -⟩ | ⟨g, cap', hv⟩
    · exact absurd hv (by simpa using hnil)
    · exact ⟨g, cap', by simpa using hv⟩
  obtain ⟨g, cap', rfl⟩ := hform
  have hnx : Hid (Own w.heap.size w3 (.slice (some ⟨g, 0, none⟩) zs.length cap') zs) := Lib.hid (by unfold Own; simpa using hown')
  have hnb : Hid (Below w.heap.size w w3) := Lib.hid (((Below.refl w.heap.size w).alloc (Nat.le_refl _) _).grown hgrow (by simp) (fun j hj => by
    first | (simp only [Value.ownBlock, Option.some.injEq] at hj; done) | (simp only [Value.ownBlock, Option.some.injEq] at hj; omega)))
  clear hown' hgrow hnil
  go_wp2
  go_ret
  exact RN.yes rfl hnx.out hnb.out
theorem l00Own_any (w : World) (v : Value) (zs : List Int) (ho : IAt w v zs) (hl : zs.length ≤ 1048576) : Calls Tryd.prog 49 #[v] w (RN w zs) := by
  obtain ⟨B, b, cap, rfl, ho⟩ := ho
  exact l00Own_at B b cap w zs ho hl
set_option maxHeartbeats 1600000 in
theorem cloneI_at (B b cap : Nat) (w : World) (zs : List Int) (ho : Own B w (.slice (some ⟨b, 0, none⟩) zs.length cap) zs) (hl : zs.length ≤ 1048576) :
    Calls Tryd.prog 57 #[.slice (some ⟨b, 0, none⟩) zs.length cap] w (RN w zs) := by
  obtain ⟨i0, hi, hz0, hz1, hz2⟩ := info_parts info_i64
  have HO := Lib.hid ho
  have HC : Hid (∀ W, Below w.heap.size w W → ∀ j u, (iv zs)[j]? = some u → W.cell? ((⟨b, 0, none⟩ : Addr).add j) = some u) := Lib.hid (fun W h j u hj => World.ownsRow.cells (HO.out.belowAll h) (g := b) rfl j u hj)
  have HL : Hid ((iv zs).length = zs.length * 1) := Lib.hid (by rw [iv_length, Nat.mul_one])
  clear ho
  go_enter Tryd.func57, Tryd.ntmps57
  go_wp2
  rw [Lib.run_eql_slice_nil w 22 _ (some _) _ _ _ _ Tryd.underlying22]
  simp only [Result.andThen]
  rw [Oper.upon_value]
  go_wp2_with (at_builtin; refine wpList_append_own _ rfl _ _ 22 rfl w.heap.size 2 i0 _ 1 8 Tryd.underlying22 hi hz0 hz1 hz2 rfl (by decide) _ 0 [] rfl (World.ownsRow_lit _ _ _ (Nat.le_refl _) (by decide) (by decide)) ⟨b, 0, none⟩ zs.length cap (iv zs) rfl HL.out (HC.out _ ((Below.refl _ _).alloc (Nat.le_refl _) _)) (iv_cell _) ?c3 ?c4 ?c5 ?_)
  case c3 => unfold maxLen; omega
  case c4 => omega
  case c5 => first | omega | (simp; done) | (simp; omega)
  intro v' w3 hown' hgrow hnil
  have hform : ∃ g cap', v' = .slice (some ⟨g, 0, none⟩) zs.length cap' := by
    rcases Go.Joins.ownsRow_forms hown' with ⟨hv, -⟩ | ⟨g, cap', hv⟩
    · exact absurd hv (by simpa using hnil)
    · exact ⟨g, cap', by simpa using hv⟩
  obtain ⟨g, cap', rfl⟩ := hform
  have hnx : Hid (Own w.heap.size w3 (.slice (some ⟨g, 0, none⟩) zs.length cap') zs) := Lib.hid (by unfold Own; simpa using hown')
  have hnb : Hid (Below w.heap.size w w3) := Lib.hid (((Below.refl w.heap.size w).alloc (Nat.le_refl _) _).grown hgrow (by simp) (fun j hj => by
    first | (simp only [Value.ownBlock, Option.some.injEq] at hj; done) | (simp only [Value.ownBlock, Option.some.injEq] at hj; omega)))
  clear hown' hgrow hnil
  go_wp2
  go_ret
  exact RN.yes rfl hnx.out hnb.out
theorem cloneI_any (w : World) (v : Value) (zs : List Int) (ho : IAt w v zs) (hl : zs.length ≤ 1048576) : Calls Tryd.prog 57 #[v] w (RN w zs) := by
  obtain ⟨B, b, cap, rfl, ho⟩ := ho
  exact cloneI_at B b cap w zs ho hl
end Go.Proofs.YtmidihmbehaegaaDoor
