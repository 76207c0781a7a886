/-
  A row of layers at an address: what toLayerS gives lies in a block that is known; slices.Clone at layers. No condition of its own.
-/
import Derived.Test.YtbdhdlgenfpjgaaDoorFind
import Derived.Laws.AppendOwn
import Derived.Laws.OwnMore
import Derived.Lib.SliceRun
namespace Go.Proofs.YtbdhdlgenfpjgaaDoor
open Go.RowKit
set_option linter.unusedVariables false
set_option maxRecDepth 100000

set_option maxHeartbeats 1600000 in
theorem toLayerS_at (w : World) (v : Value) (xs : List Lay) (hv : LSl w v xs) (hl : xs.length ≤ 1048576) :
    Calls Tryd.prog 6 #[v] w fun e w' => e = .returned (.slice (some ⟨w.heap.size, 0, none⟩) xs.length xs.length) ∧ LOwn w.heap.size w' (.slice (some ⟨w.heap.size, 0, none⟩) xs.length xs.length) xs ∧ Below w.heap.size w w' := by
  obtain ⟨i0, hi, hz0, hz1, hz2⟩ := info_parts info_layer
  obtain ⟨a, cap, rfl⟩ := hv.form
  have HV := Lib.hid hv
  clear hv
  go_enter Tryd.func6, Tryd.ntmps6
  go_wp2_with (at_make; refine wpList_make_full _ rfl _ _ 25 rfl w.heap.size 42 i0 _ 7 Tryd.underlying25 hi hz0 hz1 .i64 .i64 _ _ xs.length rfl rfl rfl rfl ?c1 ?c2 ?c3 ?_)
  case c1 => rw [hz2]; omega
  case c2 => unfold maxLen; omega
  case c3 => exact Nat.le_refl _
  intro w1 hown hg
  have hbel : Below w.heap.size w w1 := (Below.refl _ w).grown hg (Nat.le_refl _) (fun k hk => by cases hk)
  have HO : Hid (∃ ys : List Value, w1.ownsRow w.heap.size 42 7 (.slice (some ⟨w.heap.size, 0, none⟩) xs.length xs.length) xs.length ys ∧ ys.take (7 * 0) = iv (La.fl (xs.take 0))) := Lib.hid ⟨_, hown, by simp [iv, La.fl]⟩
  have HB := Lib.hid hbel
  clear hown hg hbel
  go_wp2
  go_loopw [4] (fun i wr => ∃ k : Nat, k ≤ xs.length ∧ i = .int .i64 k ∧ Hid (Below w.heap.size w wr) ∧ Hid (∃ ys : List Value, wr.ownsRow w.heap.size 42 7 (.slice (some ⟨w.heap.size, 0, none⟩) xs.length xs.length) xs.length ys ∧ ys.take (7 * k) = iv (La.fl (xs.take k)))) (fun i _ => xs.length - (intOf i).toNat)
  case atStart => exact ⟨0, Nat.zero_le _, rfl, HB, HO⟩
  case round =>
    obtain ⟨k, hk, rfl, hb, hx⟩ := hrel
    by_cases hlt : k < xs.length
    · obtain ⟨ys, hown, htk⟩ := hx.out
      obtain ⟨b, off, cap', hn, hbl, hc⟩ := HV.out.at_ hlt
      simp only [Value.slice.injEq] at hn
      obtain ⟨rfl, -, rfl⟩ := hn
      have hc' := (hc k hlt).below hb.out hbl
      obtain ⟨c0, c1, c2, c3, c4, c5, c6⟩ := hc'
      clear hc
      go_wp2_with fail
      refine (toLayer_any xs[k] _).mono ?_
      rintro e w2 ⟨rfl, b2⟩
      have hown2 := own_belowAll hown b2
      have hb2 := Lib.hid (hb.out.trans (b2.mono hb.out.size))
      have hyl := hown2.1
      have N : Hid (∃ zs : List Value, (lset w2 w.heap.size k xs[k]).ownsRow w.heap.size 42 7 (.slice (some ⟨w.heap.size, 0, none⟩) xs.length xs.length) xs.length zs ∧ zs.take (7 * (k + 1)) = iv (La.fl (xs.take (k + 1)))) := Lib.hid (own_lset hown2 htk hlt hlt)
      have NB : Hid (Below w.heap.size w (lset w2 w.heap.size k xs[k])) := Lib.hid (below_setCells (Nat.le_refl _) _ _ hb2.out)
      have g : ∀ j, j < 7 → ∃ u, w2.cell? ⟨w.heap.size, k * 7 + j, none⟩ = some u := fun j hj => ⟨_, (hown2.cellAt (k * 7 + j) (by omega)).trans (List.getElem?_eq_getElem (by omega))⟩
      obtain ⟨y0, d0⟩ := g 0 (by omega)
      obtain ⟨y1, d1⟩ := g 1 (by omega)
      obtain ⟨y2, d2⟩ := g 2 (by omega)
      obtain ⟨y3, d3⟩ := g 3 (by omega)
      obtain ⟨y4, d4⟩ := g 4 (by omega)
      obtain ⟨y5, d5⟩ := g 5 (by omega)
      obtain ⟨y6, d6⟩ := g 6 (by omega)
      rw [Nat.add_zero] at d0
      have f0 := hown2.frozenAt (k * 7)
      have f1 := hown2.frozenAt (k * 7 + 1)
      have f2 := hown2.frozenAt (k * 7 + 2)
      have f3 := hown2.frozenAt (k * 7 + 3)
      have f4 := hown2.frozenAt (k * 7 + 4)
      have f5 := hown2.frozenAt (k * 7 + 5)
      have f6 := hown2.frozenAt (k * 7 + 6)
      clear g hx hown htk hb hown2 c0 c1 c2 c3 c4 c5 c6 b2 hyl
      go_wp2_with fail
      exact ⟨⟨k + 1, by omega, by go_num, NB, N⟩, by simp only [intOf]; omega⟩
    · have hkz : k = xs.length := by omega
      subst hkz
      go_wp2
      go_ret
      refine ⟨rfl, ?_, hb.out⟩
      obtain ⟨ys, hown, htk⟩ := hx.out
      have : ys = iv (La.fl xs) := by
        have h1 := hown.1
        rw [List.take_of_length_le (by omega), List.take_length] at htk
        exact htk
      rw [this] at hown
      exact hown
set_option maxRecDepth 100000 in
set_option maxHeartbeats 1600000 in
theorem clone_at (B b cap : Nat) (w : World) (xs : List Lay) (ho : LOwn B w (.slice (some ⟨b, 0, none⟩) xs.length cap) xs) (hl : xs.length ≤ 1048576) :
    Calls Tryd.prog 24 #[.slice (some ⟨b, 0, none⟩) xs.length cap] w fun e w' => ∃ u, e = .returned u ∧ LOwn w.heap.size w' u xs ∧ Below w.heap.size w w' := by
  obtain ⟨i0, hi, hz0, hz1, hz2⟩ := info_parts info_layer
  have HC : Hid (∀ j u, (iv (La.fl xs))[j]? = some u → ∀ o t, (w.alloc (.cells o t)).cell? ((⟨b, 0, none⟩ : Addr).add j) = some u) := Lib.hid (by
    intro j u hj o t
    have hb := (World.ownsRow.lt ho b rfl).2
    have hjl : j < (iv (La.fl xs)).length := (List.getElem?_eq_some_iff.1 hj).1
    rw [iv_length, La.fl_length] at hjl
    have e := World.ownsRow.cellAt ho j (by omega)
    have b1 : Below w.heap.size w (w.alloc (.cells o t)) := (Below.refl _ _).alloc (Nat.le_refl _) _
    have := b1.cell (p := ⟨b, j, none⟩) hb
    have ea : (⟨b, 0, none⟩ : Addr).add j = ⟨b, j, none⟩ := by
      by_cases h0 : j = 0
      · subst h0; simp [Addr.add]
      · simp [Addr.add, h0]
    rw [ea, this, e, hj])
  have HOne : Hid (∀ u ∈ iv (La.fl xs), u.oneCell' = true) := Lib.hid (by
    intro u hu
    unfold iv at hu
    obtain ⟨z, _, rfl⟩ := List.mem_map.1 hu
    rfl)
  have HL : Hid ((iv (La.fl xs)).length = xs.length * 7) := Lib.hid (by rw [iv_length, La.fl_length, Nat.mul_comm])
  clear ho
  go_enter Tryd.func24, Tryd.ntmps24
  go_wp2
  rw [Lib.run_eql_slice_nil w 25 _ (some _) _ _ _ _ Tryd.underlying25]
  simp only [Result.andThen]
  rw [Oper.upon_value]
  go_wp2_with (at_builtin; refine wpList_append_own _ rfl _ _ 25 rfl w.heap.size 42 i0 _ 7 56 Tryd.underlying25 hi hz0 hz1 hz2 rfl (by decide) _ 0 [] rfl (World.ownsRow_lit _ _ _ (Nat.le_refl _) (by decide) (by decide)) ⟨b, 0, none⟩ xs.length cap (iv (La.fl xs)) rfl HL.out (fun j u hj => HC.out j u hj _ _) HOne.out ?c3 ?c4 ?c5 ?_)

  case c3 => unfold maxLen; omega
  case c4 => omega
  case c5 => first | omega | (simp; done) | (simp; omega)
  intro v' w3 hown' hgrow _
  have hnx : Hid (LOwn w.heap.size w3 v' xs) := Lib.hid (by unfold LOwn; simpa using hown')
  have hnb : Hid (Below w.heap.size w w3) := Lib.hid (((Below.refl w.heap.size w).alloc (Nat.le_refl _) _).grown hgrow (by simp) (fun j hj => by
    first | (simp only [Value.ownBlock, Option.some.injEq] at hj; done) | (simp only [Value.ownBlock, Option.some.injEq] at hj; omega)))
  clear hown' hgrow
  go_wp2
  go_ret
  exact ⟨_, rfl, hnx.out, hnb.out⟩
end Go.Proofs.YtbdhdlgenfpjgaaDoor
