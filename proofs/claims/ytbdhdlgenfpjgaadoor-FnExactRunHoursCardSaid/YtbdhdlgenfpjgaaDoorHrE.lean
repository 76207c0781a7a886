/-
  What goes through a profile from its last layer down: the program's generic walk, whatever it hands on. No condition of its own.
-/
import Derived.Test.YtbdhdlgenfpjgaaDoorCopy
import Derived.Test.YtbdhdlgenfpjgaaDoorRow
import Derived.Test.YtbdhdlgenfpjgaaDoorFind
namespace Go.Proofs.YtbdhdlgenfpjgaaDoor
open Go.RowKit Go.Shelf
set_option linter.unusedVariables false
set_option maxRecDepth 100000

theorem info7 : (Tryd.prog.info? 42).map (·.size) = some 7 := by kernel_rfl
set_option maxHeartbeats 3200000 in
theorem fromTop_any (g : Nat) (eg : ∀ args w, (callFunc g args).run Tryd.prog w = .ok (.enter g args) w) (f : Lay → Int → Lay × Int × Bool) (I : Int → Nat → Prop) (a : Int) (w : World) (v : Value) (xs : List Lay) (hl : xs.length ≤ 16) (hv : LSl w v xs)
    (hI0 : I a 0) (hI : ∀ x ∈ xs, ∀ l n, n < xs.length → I l n → I (f x l).2.1 (n + 1))
    (hc : ∀ x ∈ xs, ∀ l n, n < xs.length → I l n → ∀ W, Calls Tryd.prog g #[.agg #[.int .i64 x.fo, .int .i64 x.ic, .int .i64 x.wa, .int .i64 x.de, .int .i64 x.dg, .int .i64 x.ha, .int .i64 x.ag], .int .i64 l] W fun e w' => e = .returned (.tuple #[.agg #[.int .i64 (f x l).1.fo, .int .i64 (f x l).1.ic, .int .i64 (f x l).1.wa, .int .i64 (f x l).1.de, .int .i64 (f x l).1.dg, .int .i64 (f x l).1.ha, .int .i64 (f x l).1.ag], .int .i64 (f x l).2.1, .bool (f x l).2.2]) ∧ Below W.heap.size W w') :
    Calls Tryd.prog 41 #[v, .int .i64 a, .func (.func g) #[] #[]] w fun e w' => e = .returned (.tuple #[.slice (some ⟨w.heap.size, 0, none⟩) xs.length xs.length, .int .i64 (La.top f xs a).2.1]) ∧ LOwn w.heap.size w' (.slice (some ⟨w.heap.size, 0, none⟩) xs.length xs.length) (La.top f xs a).1 ∧ Below w.heap.size w w' := by
  obtain ⟨i0, hi, hz0, hz1, hz2⟩ := info_parts info_layer
  obtain ⟨s, cap, rfl⟩ := hv.form
  have HV := Lib.hid hv
  have HC := Lib.hid hc
  have HI := Lib.hid hI
  have H0 := Lib.hid hI0
  clear hv hc hI hI0
  go_enter Tryd.func41, Tryd.ntmps41
  go_wp2_with (at_make; refine wpList_make_full _ rfl _ _ 25 rfl w.heap.size 42 i0 _ 7 Tryd.underlying25 hi hz0 hz1 .i64 .i64 _ _ xs.length rfl rfl rfl rfl ?c1 ?c2 ?c3 ?_)
  case c1 => rw [hz2]; omega
  case c2 => unfold maxLen; omega
  case c3 => exact Nat.le_refl _
  intro w1 hown hg
  have B1 : Hid (Below w.heap.size w w1) := Lib.hid ((Below.refl _ w).grown hg (Nat.le_refl _) (fun k hk => by cases hk))
  have O1 := Lib.hid hown
  clear hown hg
  have SR := Lib.hid (LOwn.src (HV.out.below B1.out) s xs.length cap rfl)
  go_wp2_with (refine wpList_copy_rows rfl _ _ _ _ rfl 42 7 Tryd.underlying25 info7 w.heap.size w.heap.size xs.length xs.length _ O1.out _ _ rfl rfl (iv (La.fl xs)) ?d1 SR.out (one_iv _) ?_)
  case d1 => rw [iv_length, La.fl_length]; omega
  intro w2 O2 G2
  have B2 : Hid (Below w.heap.size w w2) := Lib.hid (below_only B1.out G2.out (Nat.le_refl _) B1.out.size)
  clear O1 G2 SR B1
  go_wp2
  go_loopw [7, 8] (fun lv i wr => ∃ (m : Nat) (l : Int) (ys : List Lay), m ≤ xs.length ∧ i = .int .i64 ((m : Int) - 1) ∧ lv = .int .i64 l ∧ Hid (La.top f (xs.drop m) a = (ys, l, true)) ∧ Hid (I l (xs.length - m)) ∧ Hid (Below w.heap.size w wr) ∧ Hid (LOwn w.heap.size wr (.slice (some ⟨w.heap.size, 0, none⟩) xs.length xs.length) (xs.take m ++ ys))) (fun _ i _ => (intOf i + 1).toNat)
  case atStart => exact ⟨xs.length, a, [], Nat.le_refl _, rfl, rfl, Lib.hid (La.top_end xs), Lib.hid (by rw [Nat.sub_self]; exact H0.out), B2, Lib.hid (by unfold LOwn; simpa using O2.out)⟩
  case round =>
    obtain ⟨m, l, ys, hm, rfl, rfl, ht, hI, hb, ho⟩ := hrel
    rcases m with _ | j
    · rw [show ((0 : Nat) : Int) - 1 = -1 from rfl]
      have HT : Hid (La.top f xs a = (ys, l, true)) := Lib.hid (La.top_all ht.out)
      have OO : Hid (LOwn w.heap.size wr (.slice (some ⟨w.heap.size, 0, none⟩) xs.length xs.length) (La.top f xs a).1) := Lib.hid (by rw [HT.out]; simpa using ho.out)
      have HL : Hid ((La.top f xs a).2.1 = l) := Lib.hid (by rw [HT.out])
      clear ht ho HT
      go_wp2
      go_ret2
      exact ⟨by rw [HL.out]; rfl, OO.out, hb.out⟩
    · rw [show ((j + 1 : Nat) : Int) - 1 = (j : Int) by omega]
      have hlt : j < xs.length := by omega
      have hj0 : ¬ (j : Int) < 0 := by omega
      have hj1 : (0 : Int) ≤ j := by omega
      have hji : (j : Int) < xs.length := by omega
      obtain ⟨b, off, cap1, hn, hbl, hcc⟩ := (HV.out.below hb.out).at_ hlt
      simp only [Value.slice.injEq] at hn
      obtain ⟨rfl, -, rfl⟩ := hn
      obtain ⟨c0, c1, c2, c3, c4, c5, c6⟩ := hcc j hlt
      have C := fun W => Lib.hid (HC.out xs[j] (List.getElem_mem hlt) l (xs.length - (j + 1)) (by omega) hI.out W)
      have hI2 : Hid (I (f xs[j] l).2.1 (xs.length - j)) := Lib.hid (by
        have := HI.out xs[j] (List.getElem_mem hlt) l (xs.length - (j + 1)) (by omega) hI.out
        rwa [show xs.length - (j + 1) + 1 = xs.length - j by omega] at this)
      have hon := La.top_on hlt ht.out
      generalize hr : f xs[j] l = r at *
      obtain ⟨y, l2, gb⟩ := r
      simp only at C hI2 hon
      have HON := Lib.hid hon
      clear hcc hr hon ht hI
      cases gb with
      | true =>
        go_wp2_with (go_at_fn g; refine (C _).out.mono ?_; rintro e w3 ⟨rfl, b3⟩; have ho3 := ho.out.belowAll b3; obtain ⟨d0, d1, d2, d3, d4, d5, d6⟩ := ho3.mid_cells hlt; have f0 := ho3.free (j * 7); have f1 := ho3.free (j * 7 + 1); have f2 := ho3.free (j * 7 + 2); have f3 := ho3.free (j * 7 + 3); have f4 := ho3.free (j * 7 + 4); have f5 := ho3.free (j * 7 + 5); have f6 := ho3.free (j * 7 + 6); have N3 := Lib.hid (ho3.mid_put hlt y); have NB := Lib.hid (lset_below (Nat.le_refl _) j y (hb.out.trans (b3.mono hb.out.size))); clear ho3 b3)
        exact ⟨⟨j, l2, y :: ys, by omega, by go_num, rfl, HON, hI2, NB, N3⟩, by simp only [intOf]; omega⟩
      | false =>
        have HT := Lib.hid (La.top_off HON.out)
        go_wp2_with (go_at_fn g; refine (C _).out.mono ?_; rintro e w3 ⟨rfl, b3⟩; have ho3 := ho.out.belowAll b3; obtain ⟨d0, d1, d2, d3, d4, d5, d6⟩ := ho3.mid_cells hlt; have f0 := ho3.free (j * 7); have f1 := ho3.free (j * 7 + 1); have f2 := ho3.free (j * 7 + 2); have f3 := ho3.free (j * 7 + 3); have f4 := ho3.free (j * 7 + 4); have f5 := ho3.free (j * 7 + 5); have f6 := ho3.free (j * 7 + 6); have N3 := Lib.hid (ho3.mid_put hlt y); have NB := Lib.hid (lset_below (Nat.le_refl _) j y (hb.out.trans (b3.mono hb.out.size))); clear ho3 b3)
        go_ret2
        exact ⟨by rw [HT.out]; rfl, by rw [HT.out]; exact N3.out, NB.out⟩
end Go.Proofs.YtbdhdlgenfpjgaaDoor
