/-
  Chapter 5 by the model: a profile drained. No condition of its own.
-/
import Derived.Test.YtbdhdlgenfpjgaaDoorHrS
namespace Go.Proofs.YtbdhdlgenfpjgaaDoor
open Go.RowKit Go.Shelf
set_option linter.unusedVariables false
set_option maxRecDepth 100000

set_option maxHeartbeats 3200000 in
theorem l05Drain_any (B b cap : Nat) (w : World) (xs : List Lay) (ho : LOwn B w (.slice (some ⟨b, 0, none⟩) xs.length cap) xs) (hq : La.okP xs = true) :
    Calls Tryd.prog 32 #[.slice (some ⟨b, 0, none⟩) xs.length cap] w (RLI w (La.top La.drn xs 0).1 (La.top La.drn xs 0).2.1) := by
  obtain ⟨h16, hfit⟩ := (La.okP_iff xs).1 hq
  have C := Lib.hid (l05Own_any B b cap w xs ho (by omega))
  have HF := Lib.hid hfit
  clear ho hq hfit
  go_enter Tryd.func32, Tryd.ntmps32
  go_wp2_with fail
  refine C.out.mono ?_
  rintro e w1 ⟨g, cap1, rfl, o1, b1⟩
  have hg := o1.base
  have O1 := Lib.hid o1
  have B1 := Lib.hid b1
  clear o1 b1 C
  go_wp2_with fail
  go_loopw [5, 6] (fun r i wr => ∃ (m : Nat) (l : Int) (ys : List Lay), m ≤ xs.length ∧ i = .int .i64 ((m : Int) - 1) ∧ r = .int .i64 l ∧ Hid (La.top La.drn (xs.drop m) 0 = (ys, l, true)) ∧ Hid (0 ≤ l ∧ l ≤ 1000000 * ((xs.length : Int) - m)) ∧ Hid (Below w.heap.size w wr) ∧ Hid (LOwn w.heap.size wr (.slice (some ⟨g, 0, none⟩) xs.length cap1) (xs.take m ++ ys))) (fun _ i _ => (intOf i + 1).toNat)
  case atStart => exact ⟨xs.length, 0, [], Nat.le_refl _, rfl, rfl, Lib.hid (La.top_end xs), Lib.hid ⟨by omega, by omega⟩, B1, Lib.hid (by simpa using O1.out)⟩
  case round =>
    obtain ⟨m, l, ys, hm, rfl, rfl, ht, hI, hb, ho⟩ := hrel
    rcases m with _ | j
    · rw [show ((0 : Nat) : Int) - 1 = -1 from rfl]
      have HT : Hid (La.top La.drn xs 0 = (ys, l, true)) := Lib.hid (La.top_all ht.out)
      have OO : Hid (LOwn w.heap.size wr (.slice (some ⟨g, 0, none⟩) xs.length cap1) ys) := Lib.hid (by simpa using ho.out)
      clear ht ho
      go_wp2
      go_ret2
      exact RLI.yes ⟨by rw [HT.out], by rw [HT.out]⟩ OO.out hb.out
    · rw [show ((j + 1 : Nat) : Int) - 1 = (j : Int) by omega]
      have hlt : j < xs.length := by omega
      have hj0 : ¬ (j : Int) < 0 := by omega
      have hj1 : (0 : Int) ≤ j := by omega
      have hji : (j : Int) < xs.length := by omega
      obtain ⟨hl0, hl1⟩ := hI.out
      have FX := HF.out xs[j] (List.getElem_mem hlt)
      have i1 := FX.i1; have i2 := FX.i2; have a1 := FX.w1; have a2 := FX.w2
      have hl2 : l ≤ 16000000 := by omega
      have HON := Lib.hid (La.top_on hlt ht.out)
      have MID := Lib.hid (ho.out.mid hlt)
      obtain ⟨c0, c1, c2, c3, c4, c5, c6⟩ := ho.out.mid_cells hlt
      have f2 := ho.out.free (j * 7 + 2)
      have NN : Hid (LOwn w.heap.size (wr.setCell ⟨g, j * 7 + 2, none⟩ (.int .i64 (min (xs[j].wa + l) (xs[j].ic * 60 / 1000)))) (.slice (some ⟨g, 0, none⟩) xs.length cap1) (xs.take j ++ ((La.drn xs[j] l).1 :: ys))) :=
        Lib.hid ((MID.out.chg (mid_len hlt) 2 (by omega) _ (La.drn xs[j] l).1 rfl).mid_done hlt)
      have HI2 : Hid (0 ≤ (La.drn xs[j] l).2.1 ∧ (La.drn xs[j] l).2.1 ≤ 1000000 * ((xs.length : Int) - j)) := Lib.hid (by
        have := La.drn_ok FX hl0
        push_cast at hl1
        omega)
      have NB := Lib.hid (hb.out.setCell (p := ⟨g, j * 7 + 2, none⟩) hg (.int .i64 (min (xs[j].wa + l) (xs[j].ic * 60 / 1000))))
      have hr : La.drn xs[j] l = (⟨xs[j].fo, xs[j].ic, min (xs[j].wa + l) (xs[j].ic * 60 / 1000), xs[j].de, xs[j].dg, xs[j].ha, xs[j].ag⟩, xs[j].wa + l - min (xs[j].wa + l) (xs[j].ic * 60 / 1000), true) := rfl
      rw [hr] at HON HI2 NN
      clear hr FX MID ht ho hb hI hl1
      generalize xs[j] = x at *
      go_wp2_with (go_at_call 49; refine (l00Min_any _ _ _).mono ?_; rintro e w' ⟨rfl, rfl⟩)
      exact ⟨⟨j, _, _, by omega, by go_num, rfl, HON, HI2, NB, NN⟩, by simp only [intOf]; omega⟩
end Go.Proofs.YtbdhdlgenfpjgaaDoor
