/-
  Chapter 7 by the program: the indices of all layers, when a snowpack is stable. Its condition: impl.strengthFactors holds what the program's text lays.
-/
import Derived.Test.YtaldmdammipfjaaDoorStH
import Derived.Test.YtaldmdammipfjaaDoorIntsM
import Derived.Test.YtaldmdammipfjaaDoorBnd
namespace Go.Proofs.YtaldmdammipfjaaDoor
open Go.RowKit Go.Shelf
set_option linter.unusedVariables false
set_option maxRecDepth 100000

theorem field_0 (x y : Int) (w : World) : (Instr.field 143 (.agg #[.int .i64 x, .int .i64 y]) 0).run Tryd.prog w = .ok (.int .i64 x) w := by kernel_rfl
/-- what a call leaves that answers a row of numbers of its own -/
def ON (w : World) (zs : List Int) (e : Ending) (w' : World) : Prop := ∃ u, e = .returned u ∧ Own w.heap.size w' u zs ∧ Below w.heap.size w w'
set_option maxHeartbeats 6400000 in
theorem leastIndices_any (w : World) (v : Value) (xs : List Lay) (ri ru d t m : Int) (hv : LAs w v xs) (hf : Sb.Fine xs ri ru d) (m0 : 0 ≤ m) (m1 : m ≤ 1000000) (hw : FactorsAt w) :
    Calls Tryd.prog 66 #[.agg #[v, .int .i64 ri, .int .i64 ru, .int .i64 d, .int .i64 t, .int .i64 m]] w (ON w (Sb.ixs m ri ru d xs)) := by
  obtain ⟨i0, hi, hz0, hz1, hz2⟩ := info_parts info_i64
  have hl := hf.len
  obtain ⟨W2, hW2⟩ : ∃ W, W = boxP w v ri ru d t m 104 := ⟨_, rfl⟩
  have HB : Hid (Below w.heap.size w W2) := Lib.hid (by rw [hW2]; exact boxP_below ..)
  have hlen : Hid (W2.heap.size = w.heap.size + 1) := Lib.hid (by rw [hW2]; simp [boxP])
  have KK : Hid (∀ W, Below W2.heap.size W2 W → PC W w.heap.size v ri ru d t m) := Lib.hid (fun W h => by
    have c := boxP_cells w v ri ru d t m 104
    rw [← hW2] at c
    exact c.all h)
  have CI := Lib.hid (fun W (k : Nat) (hk : k < xs.length) (h : Below W2.heap.size W2 W) => index_any W v xs k ri ru d t m (hv.all (bt HB.out h)) hk hf m0 m1 (hw.below (bt HB.out h)))
  have HT := Lib.hid (fun (k : Nat) (hk : k < xs.length) => Sb.ixs_take (m := m) (ri := ri) (ru := ru) (d := d) hk)
  have HL := Lib.hid (Sb.ixs_length m ri ru d xs)
  obtain ⟨a, cap, rfl⟩ := hv.sl.form
  obtain ⟨x0, x1, x2, x3, x4, x5⟩ := (KK.out W2 (Below.refl _ _)).six
  clear hv hf hw
  go_enter Tryd.func66, Tryd.ntmps66
  go_wp2_with (at_make; refine wpList_make_own _ rfl _ _ 22 rfl (w.heap.size + 1) 2 i0 (.int .i64 0) 1 Tryd.underlying22 hi hz0 hz1 .i64 .i64 _ xs.length rfl rfl rfl ?c1 ?c2 ?c3 ?_)
  case c1 => rw [hz2]; omega
  case c2 => unfold maxLen; omega
  case c3 => simp
  intro w3 hown hg
  rw [show w.alloc (.cells #[.slice a xs.length cap, .int .i64 ri, .int .i64 ru, .int .i64 d, .int .i64 t, .int .i64 m] 104) = W2 from hW2.symm] at hg
  have B3 := Lib.hid ((Below.refl W2.heap.size W2).grown hg (Nat.le_refl _) (fun j hj => by cases hj))
  have O3 : Hid (w3.ownsRow (w.heap.size + 1) 2 1 (.slice (some ⟨w.heap.size + 1, 0, none⟩) 0 xs.length) 0 (iv ((Sb.ixs m ri ru d xs).take 0))) := Lib.hid hown
  clear hown hg hW2 x0 x1 x2 x3 x4 x5
  obtain ⟨x0, x1, x2, x3, x4, x5⟩ := (KK.out w3 B3.out).six
  go_wp2_with fail
  clear x0 x1 x2 x3 x4 x5
  go_loopw [3, 12] (fun u s wr => ∃ (k g cap' : Nat), k ≤ xs.length ∧ s = .int .i64 k ∧ u = .slice (some ⟨g, 0, none⟩) k cap' ∧ Hid (wr.ownsRow (w.heap.size + 1) 2 1 (.slice (some ⟨g, 0, none⟩) k cap') k (iv ((Sb.ixs m ri ru d xs).take k))) ∧ Hid (Below W2.heap.size W2 wr)) (fun _ s _ => xs.length - (intOf s).toNat)
  case atStart => exact ⟨0, w.heap.size + 1, xs.length, Nat.zero_le _, rfl, rfl, O3, B3⟩
  case round =>
    obtain ⟨k, g, cap', hk, rfl, rfl, ho, hb⟩ := hrel
    by_cases hlt : k < xs.length
    · have hltz : (k : Int) < (xs.length : Int) := by omega
      obtain ⟨x0, x1, x2, x3, x4, x5⟩ := (KK.out wr hb.out).six
      have C := Lib.hid (CI.out wr k hlt hb.out)
      have hn := Lib.hid (HT.out k hlt)
      generalize Sb.ix m ri ru d xs k xs[k] = z at *
      generalize Sb.ixH m ri ru d xs k xs[k] = z' at *
      have hfd := field_0 z z'
      go_wp2_with fail
      refine C.out.mono ?_
      rintro e w4 ⟨rfl, b4⟩
      have B4 := Lib.hid (bt hb.out b4)
      have O4 := Lib.hid (own_belowAll ho.out b4)
      clear b4 x0 x1 x2 x3 x4 x5
      go_wp2_with (at_builtin; refine wpList_append_own _ rfl _ _ 22 rfl (w.heap.size + 1) 2 i0 (.int .i64 0) 1 8 Tryd.underlying22 hi hz0 hz1 hz2 rfl (by decide) _ _ _ rfl (O4.out.alloc _) ⟨w4.heap.size, 0, none⟩ 1 1 [.int .i64 z] rfl rfl (row_new _ [_] _) (iv_cell [z]) ?c3 ?c4 ?c5 ?_)
      case c3 => unfold maxLen; omega
      case c4 => omega
      case c5 => have := B4.out.size; have := hlen.out; simp; omega
      intro v' w5 hown' hgrow _
      have hbb := (B4.out.alloc B4.out.size _).grown hgrow (by have := B4.out.size; simp; omega) (fun j hj => by have := (O4.out.lt j hj).1; have := hlen.out; omega)
      rcases Go.Joins.ownsRow_forms hown' with ⟨-, h0⟩ | ⟨g', cap'', rfl⟩
      · omega
      · have O5 : Hid (w5.ownsRow (w.heap.size + 1) 2 1 (.slice (some ⟨g', 0, none⟩) (k + 1) cap'') (k + 1) (iv ((Sb.ixs m ri ru d xs).take (k + 1)))) := Lib.hid (by rw [hn.out, iv_append]; exact hown')
        have B5 := Lib.hid hbb
        clear hown' hgrow hbb
        go_wp2
        exact ⟨⟨k + 1, g', cap'', by omega, by go_num, rfl, O5, B5⟩, by simp only [intOf]; omega⟩
    · have hltz : ¬ (k : Int) < (xs.length : Int) := by omega
      have hkn : k = xs.length := by omega
      have HO : Hid (Own w.heap.size wr (.slice (some ⟨g, 0, none⟩) k cap') (Sb.ixs m ri ru d xs)) := Lib.hid (by
        have h := ho.out
        rw [hkn, ← HL.out, List.take_length] at h
        unfold Own
        rw [hkn, ← HL.out]
        exact Go.Joins.ownsRow_le h (by omega))
      clear hkn ho
      go_wp2
      go_ret
      exact ⟨_, rfl, HO.out, bt HB.out hb.out⟩
end Go.Proofs.YtaldmdammipfjaaDoor
