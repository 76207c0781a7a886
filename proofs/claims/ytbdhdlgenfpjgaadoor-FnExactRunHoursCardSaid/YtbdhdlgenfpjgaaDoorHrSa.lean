/-
  Chapter 5 by the model: a profile settled. No condition of its own.
-/
import Derived.Test.YtbdhdlgenfpjgaaDoorHrS
import Derived.Test.YtbdhdlgenfpjgaaDoorStep
namespace Go.Proofs.YtbdhdlgenfpjgaaDoor
open Go.RowKit Go.Shelf Go.Deep
set_option linter.unusedVariables false
set_option maxRecDepth 100000

theorem fl_snocL (l : List Lay) (x : Lay) : iv (La.fl (l ++ [x])) = iv (La.fl l) ++ iv (La.lv x) := by
  rw [La.fl_app, iv_append]; simp [La.fl]
theorem oneL (x : Lay) : ∀ u ∈ iv (La.lv x), u.oneCell' = true := iv_cell _
set_option maxHeartbeats 3200000 in
theorem l05All_any (B b cap : Nat) (w : World) (xs : List Lay) (ho : LOwn B w (.slice (some ⟨b, 0, none⟩) xs.length cap) xs) (hq : La.okP xs = true) :
    Calls Tryd.prog 29 #[.slice (some ⟨b, 0, none⟩) xs.length cap] w (RL w (La.sal xs)) := by
  obtain ⟨i0, hi, hz0, hz1, hz2⟩ := info_parts info_layer
  obtain ⟨h16, hfit⟩ := (La.okP_iff xs).1 hq
  have HF := Lib.hid hfit
  have HO := Lib.hid ho
  have HQ := Lib.hid hq
  have hL := La.sal_len xs
  clear ho hq hfit
  go_enter Tryd.func29, Tryd.ntmps29
  go_wp2
  go_loopw [3, 4] (fun u i wr => ∃ (k g cap' : Nat), k ≤ xs.length ∧ i = .int .i64 k ∧ u = .slice (some ⟨g, 0, none⟩) k cap' ∧ Hid (wr.ownsRow w.heap.size 42 7 (.slice (some ⟨g, 0, none⟩) k cap') k (iv (La.fl ((La.sal xs).take k)))) ∧ Hid (Below w.heap.size w wr)) (fun _ i _ => xs.length - (intOf i).toNat)
  case atStart => exact ⟨0, w.heap.size, 0, Nat.zero_le _, rfl, rfl, Lib.hid (World.ownsRow_lit _ _ _ (Nat.le_refl _) (by decide) (by decide)), Lib.hid ((Below.refl _ _).alloc (Nat.le_refl _) _)⟩
  case round =>
    obtain ⟨k, g, cap', hk, rfl, rfl, ho, hbw⟩ := hrel
    by_cases hlt : k < xs.length
    · have hltz : (k : Int) < (xs.length : Int) := by omega
      have hk0 : (0 : Int) ≤ k := by omega
      have hkn : ¬ (k : Int) < 0 := by omega
      have HS := Lib.hid (La.sal_at hlt)
      have LD := Lib.hid (La.load_drop HQ.out (k + 1))
      have HBx := Lib.hid (fun W (h : Below wr.heap.size wr W) => HO.out.belowAll (bt hbw.out h))
      have CL := Lib.hid (fun W (h : Below wr.heap.size wr W) => l03Load_any B W b cap xs.length xs k hlt HQ.out (HBx.out W h))
      have CS := Lib.hid (fun W (h : Below wr.heap.size wr W) => l05Settle_any xs[k] (La.sm La.mass (xs.drop (k + 1))) b (k * 7) W ((HBx.out W h).cells hlt) (HF.out _ (List.getElem_mem hlt)) LD.out.1 LD.out.2)
      generalize La.stl xs[k] (La.sm La.mass (xs.drop (k + 1))) = y at *
      generalize La.sm La.mass (xs.drop (k + 1)) = ld at *
      go_wp2_with fail
      go_region_held3 (fun w' => True) (go_keep)
        (first
          | (go_at_call 47; refine (CL.out _ (by first | exact below_drewW _ 1)).mono ?_; rintro e w' ⟨rfl, rfl⟩)
          | (go_at_call 46; refine (CS.out _ (by first | exact below_drewW _ 1)).mono ?_; rintro e w2 ⟨rfl, b2⟩; have hb2 : Below wr.heap.size wr w2 := bt (below_drewW _ 1) b2)
          | (refine step_append_own (by rfl) _ _ 25 (by rfl) w.heap.size 42 i0 _ 7 56 Tryd.underlying25 hi hz0 hz1 hz2 rfl (by decide) _ _ _ (by rfl) ((own_belowAll ho.out hb2).alloc _) ⟨w2.heap.size, 0, none⟩ 1 1 (iv (La.lv y)) (by rfl) (by rfl) (row_new _ (iv (La.lv y)) _) (oneL y) (by unfold maxLen; omega) (by omega) (by have := hbw.out.size; have := hb2.size; simp; omega) ?_; intro v4 w4 own4 grow4))
      all_goals (
        have hform : ∃ g' cap'', v4 = .slice (some ⟨g', 0, none⟩) (k + 1) cap'' := (by
          rcases Go.Joins.ownsRow_forms own4 with ⟨-, h0⟩ | ⟨g', cap'', h⟩
          · omega
          · exact ⟨g', cap'', h⟩)
        obtain ⟨g', cap'', rfl⟩ := hform
        have hg : w.heap.size ≤ g := (World.ownsRow.lt ho.out g rfl).1
        have HN : Hid (w4.ownsRow w.heap.size 42 7 (.slice (some ⟨g', 0, none⟩) (k + 1) cap'') (k + 1) (iv (La.fl ((La.sal xs).take (k + 1))))) := Lib.hid (by rw [HS.out, fl_snocL]; exact own4)
        have HB : Hid (Below w.heap.size w w4) := Lib.hid (((bt hbw.out hb2).alloc (bt hbw.out hb2).size _).grown grow4 (by have := (bt hbw.out hb2).size; simp; omega) (fun j hj => by simp only [Value.ownBlock, Option.some.injEq] at hj; omega))
        clear own4 grow4 b2 hb2 ho
        go_wp2
        exact ⟨⟨k + 1, g', cap'', by omega, by go_num, rfl, HN, HB⟩, by simp only [intOf]; omega⟩)
    · have hkz : k = xs.length := by omega
      subst hkz
      have hnl : ¬ (xs.length : Int) < (xs.length : Int) := by omega
      go_wp2
      go_ret
      exact RL.yes (by rfl) (by unfold LOwn; rw [hL]; have := ho.out; rwa [List.take_of_length_le (by omega)] at this) hbw.out
end Go.Proofs.YtbdhdlgenfpjgaaDoor
