/-
  The depth of the weakest layer, by the program. Its condition: impl.testRules holds what the program's text lays.
-/
import Derived.Test.YteileaeeiejonaaDoorTkG
import Derived.Test.YteileaeeiejonaaDoorTkF
import Derived.Test.YteileaeeiejonaaDoorSrt
namespace Go.Proofs.YteileaeeiejonaaDoor
open Go.RowKit Go.Shelf
set_option linter.unusedVariables false
set_option maxRecDepth 100000

namespace Tq
/-- the places of those numbers of which p holds, from o on -/
def ixI (p : Int → Bool) : Nat → List Int → List Int
  | _, [] => []
  | o, x :: xs => (if p x then [(o : Int)] else []) ++ ixI p (o + 1) xs
theorem ixI_app (p : Int → Bool) (o : Nat) (xs : List Int) (x : Int) : ixI p o (xs ++ [x]) = ixI p o xs ++ (if p x then [((o + xs.length : Nat) : Int)] else []) := by
  induction xs generalizing o with
  | nil => simp [ixI]
  | cons y ys ih =>
    rw [List.cons_append, ixI, ixI, ih, List.append_assoc, List.length_cons]
    rw [show o + 1 + ys.length = o + (ys.length + 1) by omega]
theorem ixI_take {p : Int → Bool} {xs : List Int} {k : Nat} (h : k < xs.length) : ixI p 0 (xs.take (k + 1)) = ixI p 0 (xs.take k) ++ (if p xs[k] then [(k : Int)] else []) := by
  rw [List.take_succ_eq_append_getElem h, ixI_app, List.length_take, Nat.min_eq_left (by omega), Nat.zero_add]
theorem ixI_yes {p : Int → Bool} {xs : List Int} {k : Nat} (h : k < xs.length) (hp : p xs[k] = true) : ixI p 0 (xs.take (k + 1)) = ixI p 0 (xs.take k) ++ [(k : Int)] := by rw [ixI_take h, if_pos hp]
theorem ixI_no {p : Int → Bool} {xs : List Int} {k : Nat} (h : k < xs.length) (hp : p xs[k] = false) : ixI p 0 (xs.take (k + 1)) = ixI p 0 (xs.take k) := by rw [ixI_take h, hp]; simp
theorem ixI_cnt (p : Int → Bool) (o : Nat) (xs : List Int) : (ixI p o xs).length = (xs.filter p).length := by
  induction xs generalizing o with
  | nil => rfl
  | cons y ys ih => rw [ixI, List.length_append, ih]; cases hp : p y <;> simp [hp] <;> omega
theorem ixI_len (p : Int → Bool) (o : Nat) (xs : List Int) : (ixI p o xs).length ≤ xs.length := by rw [ixI_cnt]; exact List.length_filter_le _ _
end Tq
theorem distT_any (a b : Int) (w : World) (h1 : -1000000000000 ≤ a) (h2 : a ≤ 1000000000000) (h3 : -1000000000000 ≤ b) (h4 : b ≤ 1000000000000) :
    Calls Tryd.prog 94 #[.int .i64 a, .int .i64 b] w fun e w' => e = .returned (.int .i64 (Ar.ab (b - a))) ∧ w = w' := by
  go_enter Tryd.func94, Tryd.ntmps94
  go_wp2
  all_goals
    go_ret
    exact ⟨ret_int (by unfold Ar.ab; split <;> omega), rfl⟩
set_option maxHeartbeats 800000 in
theorem joins_any (n a b : Int) (w : World) (h1 : -1000000000000 ≤ a) (h2 : a ≤ 1000000000000) (h3 : -1000000000000 ≤ b) (h4 : b ≤ 1000000000000) :
    Calls Tryd.prog 75 #[.int .i64 n, .int .i64 a, .int .i64 b] w fun e w' => e = .returned (.bool (Tq.nr n a b)) ∧ w = w' := by
  have C := Lib.hid (fun W => distT_any a b W h1 h2 h3 h4)
  unfold Tq.nr
  clear h1 h2 h3 h4
  generalize Ar.ab (b - a) = d at *
  go_enter Tryd.func75, Tryd.ntmps75
  go_wp2_with fail
  refine (C.out _).mono ?_
  rintro e w' ⟨rfl, rfl⟩
  go_wp2_with fail
  go_ret
  exact ⟨rfl, rfl⟩
theorem withinN_any (x l h : Int) (w : World) :
    Calls Tryd.prog 136 #[.int .i64 x, .int .i64 l, .int .i64 h] w fun e w' => e = .returned (.bool (Ar.inB l x h)) ∧ w = w' := by
  by_cases h1 : l ≤ x
  · go_enter Tryd.func136, Tryd.ntmps136
    go_wp2
    go_ret
    exact ⟨ret_bool (by unfold Ar.inB; simp [h1]), rfl⟩
  · go_enter Tryd.func136, Tryd.ntmps136
    go_wp2
    go_ret
    exact ⟨ret_bool (by rw [Ar.inB_f]; omega), rfl⟩
theorem nearStated_any (n : Int) (w : World) :
    Calls Tryd.prog 135 #[.int .i64 n] w fun e w' => e = .returned (.bool (Ar.inB 0 n 300)) ∧ Below w.heap.size w w' := by
  go_enter Tryd.func135, Tryd.ntmps135
  go_wp2_with (go_at_call 136; refine (withinN_any _ _ _ _).mono ?_; rintro e w' ⟨rfl, rfl⟩)
  go_ret
  exact ⟨rfl, Below.refl _ _⟩
set_option maxHeartbeats 3200000 in
theorem weakDepths_any (w : World) (v : Value) (xs : List Tst) (hv : TeSl w v xs) (hl : xs.length ≤ 1048576) (hf : ∀ k (hk : k < xs.length), Tq.Fits xs[k]) (hR : RulesT w) :
    Calls Tryd.prog 72 #[v] w (RJt w (srt (Tq.wd xs))) := by
  obtain ⟨i0, hi, hz0, hz1, hz2⟩ := info_parts info_i64
  obtain ⟨a, cap, rfl⟩ := hv.form
  have HV := Lib.hid hv
  have HF := Lib.hid hf
  have HR := Lib.hid hR
  clear hv hf hR
  go_enter Tryd.func72, Tryd.ntmps72
  go_wp2_with (at_make; refine wpList_make_own _ rfl _ _ 41 rfl w.heap.size 2 i0 (.int .i64 0) 1 Tryd.underlying41 hi hz0 hz1 .i64 .i64 _ xs.length rfl rfl rfl ?c1 ?c2 ?c3 ?_)
  case c1 => rw [hz2]; omega
  case c2 => unfold maxLen; omega
  case c3 => exact Nat.le_refl _
  intro w1 hown hg
  have O1 : Hid (Own w.heap.size w1 _ (Tq.wd (xs.take 0))) := Lib.hid hown
  have B1 := Lib.hid ((Below.refl w.heap.size w).grown hg (Nat.le_refl _) (fun k hk => by cases hk))
  clear hown hg
  go_wp2
  go_loopw [3, 5, 11] (fun u s5 i wr => ∃ (k : Nat), k ≤ xs.length ∧ i = .int .i64 k ∧ Hid (Own w.heap.size wr u (Tq.wd (xs.take k))) ∧ Hid (Below w.heap.size w wr)) (fun _ _ i _ => xs.length - (intOf i).toNat)
  case atStart => exact ⟨0, Nat.zero_le _, rfl, O1, B1⟩
  case round =>
    obtain ⟨k, hk, rfl, ho, hbw⟩ := hrel
    by_cases hlt : k < xs.length
    · have hltz : (k : Int) < (xs.length : Int) := by omega
      obtain ⟨b, off, cap1, hn, hbl, hcc⟩ := (HV.out.below hbw.out).at_ hlt
      simp only [Value.slice.injEq] at hn
      obtain ⟨rfl, -, rfl⟩ := hn
      obtain ⟨c0, c1, c2, c3, c4⟩ := hcc k hlt
      have hlen := Tq.wd_len (xs.take k)
      have hlt' : (xs.take k).length ≤ k := List.length_take_le _ _
      have BX := Lib.hid (bt hbw.out (boxTst_below wr xs[k] 35))
      have CL := Lib.hid (class_any xs[k] (boxTst wr xs[k] 35) (HF.out k hlt) (HR.out.below BX.out))
      have KX := Lib.hid (fun W (h : Below (boxTst wr xs[k] 35).heap.size (boxTst wr xs[k] 35) W) => (boxTst_kept h).c3)
      have OX := Lib.hid (fun W (h : Below (boxTst wr xs[k] 35).heap.size (boxTst wr xs[k] 35) W) => own_belowAll (own_belowAll ho.out (boxTst_below wr xs[k] 35)) h)
      have x3 := (boxTst_cells wr xs[k] 35).c0
      have x4 := (boxTst_cells wr xs[k] 35).c1
      have x5 := (boxTst_cells wr xs[k] 35).c2
      have x6 := (boxTst_cells wr xs[k] 35).c3
      have x7 := (boxTst_cells wr xs[k] 35).c4
      clear hcc
      have hlb := hbl
      cases hw : Tq.wk xs[k] with
      | true =>
        have hcw : Tq.cls xs[k] ≤ 2 := by unfold Tq.wk at hw; simpa using hw
        have hs : Hid (Tq.wd (xs.take k) ++ [xs[k].de] = Tq.wd (xs.take (k + 1))) := Lib.hid (Tq.wd_yes hlt hw).symm
        clear hw
        generalize Tq.cls xs[k] = c at *
        unfold boxTst at BX CL KX OX x3 x4 x5 x6 x7
        go_wp2_with fail
        refine CL.out.mono ?_
        rintro e w2 ⟨rfl, b2⟩
        have B2 := Lib.hid (bt BX.out b2)
        have O2 := Lib.hid (OX.out w2 b2)
        have d3 := KX.out w2 b2
        clear b2 ho c0 c1 c2 c3 c4 x3 x4 x5 x6 x7
        go_wp2_with (at_builtin; refine wpList_append_own _ rfl _ _ 41 rfl w.heap.size 2 i0 (.int .i64 0) 1 8 Tryd.underlying41 hi hz0 hz1 hz2 rfl (by decide) _ _ _ rfl (own_belowAll O2.out ((Below.refl _ _).alloc (Nat.le_refl _) _)) ⟨w2.heap.size, 0, none⟩ 1 1 [.int .i64 xs[k].de] rfl rfl (row_new _ [_] _) (iv_cell [xs[k].de]) ?c3 ?c4 ?c5 ?_)
        case c3 => unfold maxLen; omega
        case c4 => omega
        case c5 => have := B2.out.size; first | omega | (simp; omega)
        intro v' w3 hown' hgrow _
        have hnx : Hid (Own w.heap.size w3 v' (Tq.wd (xs.take (k + 1)))) := Lib.hid (by rw [← hs.out]; unfold Own; rw [iv_append, List.length_append]; exact hown')
        have hnb : Hid (Below w.heap.size w w3) := Lib.hid ((B2.out.alloc B2.out.size _).grown hgrow (by have := B2.out.size; simp; omega) (fun j hj => (O2.out.lt j hj).1))
        clear hown' hgrow O2 B2
        go_wp2
        exact ⟨⟨k + 1, by omega, by go_num, hnx, hnb⟩, by simp only [intOf]; omega⟩
      | false =>
        have hcw : ¬ Tq.cls xs[k] ≤ 2 := by unfold Tq.wk at hw; simpa using hw
        have hs : Hid (Tq.wd (xs.take (k + 1)) = Tq.wd (xs.take k)) := Lib.hid (Tq.wd_no hlt hw)
        clear hw
        generalize Tq.cls xs[k] = c at *
        unfold boxTst at BX CL KX OX x3 x4 x5 x6 x7
        go_wp2_with fail
        refine CL.out.mono ?_
        rintro e w2 ⟨rfl, b2⟩
        have B2 := Lib.hid (bt BX.out b2)
        have O2 := Lib.hid (OX.out w2 b2)
        clear b2 ho c0 c1 c2 c3 c4 x3 x4 x5 x6 x7
        go_wp2_with fail
        exact ⟨⟨k + 1, by omega, by go_num, Lib.hid (by rw [hs.out]; exact O2.out), B2⟩, by simp only [intOf]; omega⟩
    · have hltz : ¬ (k : Int) < (xs.length : Int) := by omega
      have hkn : k = xs.length := by omega
      have hh : xs.take k = xs := by rw [hkn, List.take_length]
      rw [hh] at ho
      clear hkn hh
      have hwl := Tq.wd_len xs
      go_wp2_with fail
      refine (sortI_any _ _ _ _ ho.out (by omega)).mono ?_
      rintro e w2 ⟨rfl, o2, b2⟩
      have O2 := Lib.hid o2
      have B2 := Lib.hid (hbw.out.trans (b2 hbw.out.size))
      clear o2 b2 ho
      go_wp2_with fail
      go_ret
      exact ⟨_, rfl, O2.out, B2.out⟩
namespace Tq
theorem Bst.keepUp {c : Int → Int} {ds : List Int} {b m : Int} {k : Nat} (h : Bst c (ds.take k) b m) (hk : k < ds.length) (hs : ds.Pairwise (· ≤ ·)) (hp : 0 < c ds[k]) (h1 : c ds[k] ≤ m) : Bst c (ds.take (k + 1)) b m := by
  rw [List.take_succ_eq_append_getElem hk]
  refine h.keep hp h1 (fun _ => ?_)
  rcases h.has with ⟨-, -, h3⟩ | ⟨h3, -⟩
  · omega
  · obtain ⟨i, hi, he⟩ := List.getElem_of_mem h3
    rw [List.getElem_take] at he
    rw [← he]
    exact List.pairwise_iff_getElem.1 hs i k _ _ (by simp at hi; omega)
theorem Bst.putUp {c : Int → Int} {ds : List Int} {b m : Int} {k : Nat} (h : Bst c (ds.take k) b m) (hk : k < ds.length) (h1 : m < c ds[k]) : Bst c (ds.take (k + 1)) ds[k] (c ds[k]) := by
  rw [List.take_succ_eq_append_getElem hk]
  exact h.put (Or.inl h1)
end Tq
set_option maxHeartbeats 800000 in
theorem nearFn_any (n d x : Int) (g1 g2 : Nat) (w : World) (c1 : w.cell? ⟨g1, 0, none⟩ = some (.int .i64 n)) (c2 : w.cell? ⟨g2, 0, none⟩ = some (.int .i64 d)) (h1 : -1000000000000 ≤ d) (h2 : d ≤ 1000000000000) (h3 : -1000000000000 ≤ x) (h4 : x ≤ 1000000000000) :
    Calls Tryd.prog 74 #[.int .i64 x, .pointer (some ⟨g1, 0, none⟩), .pointer (some ⟨g2, 0, none⟩)] w fun e w' => e = .returned (.bool (Tq.nr n d x)) ∧ Below w.heap.size w w' := by
  have C := Lib.hid (fun W => joins_any n d x W h1 h2 h3 h4)
  have hb1 := World.block_lt_of_cell? w _ c1
  have hb2 := World.block_lt_of_cell? w _ c2
  clear h1 h2 h3 h4
  generalize Tq.nr n d x = q at *
  go_enter Tryd.func74, Tryd.ntmps74
  go_wp2_with fail
  refine (C.out _).mono ?_
  rintro e w' ⟨rfl, rfl⟩
  go_wp2_with fail
  go_ret
  exact ⟨rfl, Below.refl _ _⟩
set_option maxHeartbeats 3200000 in
theorem indicesOfI_any (g : Nat) (y1 y2 : Value) (p : Int → Bool) (w : World) (v : Value) (xs : List Int) (eg : ∀ args w, (callFunc g args).run Tryd.prog w = .ok (.enter g args) w) (hl : xs.length ≤ 1048576) (hv : Sl w v xs)
    (hc : ∀ k (hk : k < xs.length) W, Below w.heap.size w W → Calls Tryd.prog g #[.int .i64 xs[k], y1, y2] W fun e w' => e = .returned (.bool (p xs[k])) ∧ Below W.heap.size W w') :
    Calls Tryd.prog 73 #[v, .func (.func g) #[] #[y1, y2]] w (RJt w (Tq.ixI p 0 xs)) := by
  obtain ⟨i0, hi, hz0, hz1, hz2⟩ := info_parts info_i64
  obtain ⟨a, cap, rfl⟩ := hv.form
  have HV := Lib.hid hv
  have HC := Lib.hid hc
  clear hv hc
  go_enter Tryd.func73, Tryd.ntmps73
  go_wp2_with (at_make; refine wpList_make_own _ rfl _ _ 41 rfl w.heap.size 2 i0 (.int .i64 0) 1 Tryd.underlying41 hi hz0 hz1 .i64 .i64 _ xs.length rfl rfl rfl ?c1 ?c2 ?c3 ?_)
  case c1 => rw [hz2]; omega
  case c2 => unfold maxLen; omega
  case c3 => exact Nat.le_refl _
  intro w1 hown hg
  have O1 : Hid (Own w.heap.size w1 _ (Tq.ixI p 0 (xs.take 0))) := Lib.hid hown
  have B1 := Lib.hid ((Below.refl w.heap.size w).grown hg (Nat.le_refl _) (fun k hk => by cases hk))
  clear hown hg
  go_wp2
  go_loopw [5, 6, 7, 13] (fun u _ _ i wr => ∃ (k : Nat), k ≤ xs.length ∧ i = .int .i64 k ∧ Hid (Own w.heap.size wr u (Tq.ixI p 0 (xs.take k))) ∧ Hid (Below w.heap.size w wr)) (fun _ _ _ i _ => xs.length - (intOf i).toNat)
  case atStart => exact ⟨0, Nat.zero_le _, rfl, O1, B1⟩
  case round =>
    obtain ⟨k, hk, rfl, ho, hbw⟩ := hrel
    by_cases hlt : k < xs.length
    · have hltz : (k : Int) < (xs.length : Int) := by omega
      obtain ⟨b, off, cap1, hn, hbl, hcc⟩ := (HV.out.below hbw.out).atI hlt
      simp only [Value.slice.injEq] at hn
      obtain ⟨rfl, -, rfl⟩ := hn
      have c0 := hcc k hlt
      have hlen := Tq.ixI_len p 0 (xs.take k)
      have hlt' : (xs.take k).length ≤ k := List.length_take_le _ _
      have C := Lib.hid (fun W h => HC.out k hlt W h)
      clear hcc
      cases hq : p xs[k] with
      | true =>
        have hw : Hid (Tq.ixI p 0 (xs.take k) ++ [(k : Int)] = Tq.ixI p 0 (xs.take (k + 1))) := Lib.hid (Tq.ixI_yes hlt hq).symm
        rw [hq] at C
        clear hq
        go_wp2_with fail
        go_at_fn g
        refine (C.out _ (by first | exact hbw.out | exact hbw.out.alloc hbw.out.size _)).mono ?_
        rintro e w2 ⟨rfl, b2⟩
        have O2 := Lib.hid (own_belowAll ho.out b2)
        have B2 := Lib.hid (bt hbw.out b2)
        clear b2 ho hbw c0
        go_wp2_with (at_builtin; refine wpList_append_own _ rfl _ _ 41 rfl w.heap.size 2 i0 (.int .i64 0) 1 8 Tryd.underlying41 hi hz0 hz1 hz2 rfl (by decide) _ _ _ rfl (own_belowAll O2.out ((Below.refl _ _).alloc (Nat.le_refl _) _)) ⟨w2.heap.size, 0, none⟩ 1 1 [.int .i64 (k : Int)] rfl rfl (row_new _ [_] _) (iv_cell [(k : Int)]) ?c3 ?c4 ?c5 ?_)
        case c3 => unfold maxLen; omega
        case c4 => omega
        case c5 => have := B2.out.size; first | omega | (simp; omega)
        intro v' w3 hown' hgrow _
        have hnx : Hid (Own w.heap.size w3 v' (Tq.ixI p 0 (xs.take (k + 1)))) := Lib.hid (by rw [← hw.out]; unfold Own; rw [iv_append, List.length_append]; exact hown')
        have hnb : Hid (Below w.heap.size w w3) := Lib.hid ((B2.out.alloc B2.out.size _).grown hgrow (by have := B2.out.size; simp; omega) (fun j hj => (O2.out.lt j hj).1))
        clear hown' hgrow O2 B2
        go_wp2
        exact ⟨⟨k + 1, by omega, by go_num, hnx, hnb⟩, by simp only [intOf]; omega⟩
      | false =>
        have hw : Hid (Tq.ixI p 0 (xs.take (k + 1)) = Tq.ixI p 0 (xs.take k)) := Lib.hid (Tq.ixI_no hlt hq)
        rw [hq] at C
        clear hq
        go_wp2_with fail
        go_at_fn g
        refine (C.out _ (by first | exact hbw.out | exact hbw.out.alloc hbw.out.size _)).mono ?_
        rintro e w2 ⟨rfl, b2⟩
        have O2 := Lib.hid (own_belowAll ho.out b2)
        have B2 := Lib.hid (bt hbw.out b2)
        clear b2 ho hbw c0
        go_wp2_with fail
        exact ⟨⟨k + 1, by omega, by go_num, Lib.hid (by rw [hw.out]; exact O2.out), B2⟩, by simp only [intOf]; omega⟩
    · have hltz : ¬ (k : Int) < (xs.length : Int) := by omega
      have hkn : k = xs.length := by omega
      have hh : xs.take k = xs := by rw [hkn, List.take_length]
      rw [hh] at ho
      clear hkn hh
      go_wp2
      go_ret
      exact ⟨_, rfl, ho.out, hbw.out⟩
set_option maxHeartbeats 3200000 in
theorem implWeakDepth_any (w : World) (v : Value) (xs : List Tst) (n : Int) (hv : TeSl w v xs) (hl : xs.length ≤ 1048576) (hR : RulesT w) :
    Calls Tryd.prog 36 #[v, .int .i64 n] w fun e w' => e = .returned (.tuple #[.int .i64 (Tq.wpB xs n), .int .i64 (Tq.wpM xs n), .int .i64 (Tq.wpC xs n)]) ∧ Below w.heap.size w w' := by
  have hm : ∀ w : World, (method 245 81 (.int .i64 n) "loop.example/g01013/impl.isStated").run Tryd.prog w = .ok (135, .int .i64 n) w := fun _ => by kernel_rfl
  have C := Lib.hid (fun W (hb : Below w.heap.size w W) => testsCode_any W v xs 81 (.int .i64 n) 135 (Ar.inB 0 n 300) (hv.below hb) hl (hR.below hb) hm (enters_of Tryd.func135 (by kernel_rfl) rfl) (fun W => nearStated_any n W))
  obtain ⟨a, cap, rfl⟩ := hv.form
  have HV := Lib.hid hv
  have HR := Lib.hid hR
  have BX := Lib.hid ((Below.refl w.heap.size w).alloc (Nat.le_refl _) (.cells #[.int .i64 n] 2))
  clear hv hR hm
  cases hq : Tq.okS xs with
  | false =>
    obtain ⟨e1, e2, e3⟩ := Tq.wp_bad (n := n) hq
    rw [e1, e2, e3]
    rw [hq] at C
    simp only [Cd.cd_f] at C
    clear hq e1 e2 e3
    go_enter Tryd.func36, Tryd.ntmps36
    go_wp2_with fail
    refine (C.out _ BX.out).mono ?_
    rintro e w1 ⟨rfl, b1⟩
    have B1 := Lib.hid (bt BX.out b1)
    clear b1
    go_wp2_with fail
    exact bodyPost_ret (v := .tuple #[.int .i64 0, .int .i64 0, .int .i64 1]) (by simp [results, Tryd.results36, go_sem]) rfl ⟨rfl, B1.out⟩
  | true =>
    rw [hq] at C
    cases hs : Ar.inB 0 n 300 with
    | false =>
      obtain ⟨e1, e2, e3⟩ := Tq.wp_lim hq hs
      rw [e1, e2, e3]
      rw [hs] at C
      simp only [Cd.cd_tf] at C
      clear hq hs e1 e2 e3
      go_enter Tryd.func36, Tryd.ntmps36
      go_wp2_with fail
      refine (C.out _ BX.out).mono ?_
      rintro e w1 ⟨rfl, b1⟩
      have B1 := Lib.hid (bt BX.out b1)
      clear b1
      go_wp2_with fail
      exact bodyPost_ret (v := .tuple #[.int .i64 0, .int .i64 0, .int .i64 2]) (by simp [results, Tryd.results36, go_sem]) rfl ⟨rfl, B1.out⟩
    | true =>
      have HF := Lib.hid (fun k (hk : k < xs.length) => Tq.fits_at hq hk)
      have hn0 := Lib.hid (Tq.inB_iff.1 hs).1
      have HBD := Lib.hid (Tq.wd_bd hq)
      have hwl := Lib.hid (Nat.le_trans (Tq.wd_len xs) (Tq.len_ok hq))
      have hs0 := Lib.hid hs
      rw [hs] at C
      simp only [Cd.cd_t] at C
      replace hq := Lib.hid hq
      clear hs
      have KN := Lib.hid (fun W (h : Below (w.alloc (.cells #[.int .i64 n] 2)).heap.size (w.alloc (.cells #[.int .i64 n] 2)) W) => ((Whole.new w 2 #[.int .i64 n]).all h).at_ 0)
      have CW := Lib.hid (fun W (hb : Below w.heap.size w W) => weakDepths_any W _ xs (HV.out.below hb) hl HF.out (HR.out.below hb))
      go_enter Tryd.func36, Tryd.ntmps36
      go_wp2_with fail
      refine (C.out _ BX.out).mono ?_
      rintro e w1 ⟨rfl, b1⟩
      have B1 := Lib.hid (bt BX.out b1)
      have N1 := Lib.hid b1
      clear b1
      go_wp2_with fail
      refine (CW.out _ B1.out).mono ?_
      rintro e w2 ⟨u, rfl, o2, b2⟩
      have B2 := Lib.hid (bt B1.out b2)
      have N2 := Lib.hid (bt N1.out b2)
      have O2 := Lib.hid o2
      clear b2 o2
      have hdl : Hid ((srt (Tq.wd xs)).length ≤ 16) := Lib.hid (by rw [srt_len]; exact hwl.out)
      have hdb : Hid (∀ d ∈ srt (Tq.wd xs), 1 ≤ d ∧ d ≤ 300) := Lib.hid (fun d hd => HBD.out d ((srt_perm _).mem_iff.1 hd))
      have hup := Lib.hid (srt_up (Tq.wd xs))
      have hpm := Lib.hid (srt_perm (Tq.wd xs))
      have hle := Lib.hid (srt_len (Tq.wd xs))
      generalize srt (Tq.wd xs) = ds at *
      obtain ⟨ua, ucap, rfl⟩ := (Own.sl O2.out).form
      rcases Nat.eq_zero_or_pos ds.length with h0 | h0
      · have E := Lib.hid (Tq.wp_nil hq.out hs0.out (by have := hle.out; omega))
        have hz : ((ds.length : Int) == 0) = true := by rw [h0]; rfl
        clear h0
        go_wp2_with fail
        exact bodyPost_ret (v := .tuple #[.int .i64 0, .int .i64 0, .int .i64 3]) (by simp [results, Tryd.results36, go_sem]) rfl ⟨by rw [E.out.1, E.out.2.1, E.out.2.2], B2.out⟩
      · have hz : ((ds.length : Int) == 0) = false := beq_eq_false_iff_ne.2 (by omega)
        have H0 := Lib.hid h0
        clear h0
        go_wp2_with fail
        clear hz
        go_loopw [9, 10, 12, 13, 14, 29] (fun s9 s10 _ _ _ i wr => ∃ (k : Nat) (bb m : Int), k ≤ ds.length ∧ s9 = .int .i64 bb ∧ s10 = .int .i64 m ∧ i = .int .i64 k ∧ Hid (Tq.Bst (Tq.cn n ds) (ds.take k) bb m) ∧ Hid (Own w1.heap.size wr (.slice ua ds.length ucap) ds) ∧ Hid (Below (w.alloc (.cells #[.int .i64 n] 2)).heap.size (w.alloc (.cells #[.int .i64 n] 2)) wr)) (fun _ _ _ _ _ i _ => ds.length - (intOf i).toNat)
        case atStart => exact ⟨0, 0, 0, Nat.zero_le _, rfl, rfl, rfl, Lib.hid (Tq.Bst.none _), O2, N2⟩
        case round =>
          obtain ⟨k, bb, m, hk, rfl, rfl, rfl, hB, hO, hN⟩ := hrel
          by_cases hlt : k < ds.length
          · have hltz : (k : Int) < (ds.length : Int) := by omega
            obtain ⟨b, off, cap1, hn1, hbl, hcc⟩ := (Own.sl hO.out).atI hlt
            simp only [Value.slice.injEq] at hn1
            obtain ⟨rfl, -, rfl⟩ := hn1
            have c0 := hcc k hlt
            clear hcc
            have hd := hdb.out _ (List.getElem_mem hlt)
            have hl16 := hdl.out
            have NB := Lib.hid (bt hN.out ((Below.refl wr.heap.size wr).alloc (Nat.le_refl _) (.cells #[.int .i64 ds[k]] 2)))
            have KD := Lib.hid (fun W (h : Below (wr.alloc (.cells #[.int .i64 ds[k]] 2)).heap.size (wr.alloc (.cells #[.int .i64 ds[k]] 2)) W) => ((Whole.new wr 2 #[.int .i64 ds[k]]).all h).at_ 0)
            have OB := Lib.hid (own_belowAll hO.out ((Below.refl wr.heap.size wr).alloc (Nat.le_refl _) (.cells #[.int .i64 ds[k]] 2)))
            have CI := Lib.hid (indicesOfI_any 74 (.pointer (some ⟨w.heap.size, 0, none⟩)) (.pointer (some ⟨wr.heap.size, 0, none⟩)) (Tq.nr n ds[k]) (wr.alloc (.cells #[.int .i64 ds[k]] 2)) _ ds (enters_of Tryd.func74 (by kernel_rfl) rfl) (by omega) (Own.sl OB.out)
              (fun j hj W hW => by
                have hx := hdb.out _ (List.getElem_mem hj)
                exact nearFn_any n ds[k] ds[j] w.heap.size wr.heap.size W (KN.out W (bt NB.out hW)) (KD.out W hW) (by omega) (by omega) (by omega) (by omega)))
            have hcp : Hid (0 < Tq.cn n ds ds[k]) := Lib.hid (Tq.cn_pos hn0.out (List.getElem_mem hlt))
            have hLc : Hid (((Tq.ixI (Tq.nr n ds[k]) 0 ds).length : Int) = Tq.cn n ds ds[k]) := Lib.hid (by unfold Tq.cn; rw [Tq.ixI_cnt])
            have hL16 : (Tq.ixI (Tq.nr n ds[k]) 0 ds).length ≤ 16 := Nat.le_trans (Tq.ixI_len _ _ _) hl16
            clear hd
            go_wp2_with fail
            refine CI.out.mono ?_
            rintro e w4 ⟨u4, rfl, o4, b4⟩
            have N4 := Lib.hid (bt NB.out b4)
            have O4 := Lib.hid (own_belowAll OB.out b4)
            have k4 := KD.out _ b4
            obtain ⟨xa, xcap, rfl⟩ := (Own.sl o4).form
            have h4lt := World.block_lt_of_cell? w4 _ k4
            clear b4 o4 c0
            generalize (Tq.ixI (Tq.nr n ds[k]) 0 ds).length = L at *
            by_cases hg : m < (L : Int)
            · have hbs : Hid (Tq.Bst (Tq.cn n ds) (ds.take (k + 1)) ds[k] (L : Int)) := Lib.hid (by rw [hLc.out]; exact hB.out.putUp hlt (by rw [← hLc.out]; exact hg))
              go_wp2_with fail
              exact ⟨⟨k + 1, _, _, by omega, rfl, rfl, by go_num, hbs, O4, N4⟩, by simp only [intOf]; omega⟩
            · have hbs : Hid (Tq.Bst (Tq.cn n ds) (ds.take (k + 1)) bb m) := Lib.hid (hB.out.keepUp hlt hup.out hcp.out (by rw [← hLc.out]; omega))
              go_wp2_with fail
              exact ⟨⟨k + 1, _, _, by omega, rfl, rfl, by go_num, hbs, O4, N4⟩, by simp only [intOf]; omega⟩
          · have hltz : ¬ (k : Int) < (ds.length : Int) := by omega
            have hkn : ds.take k = ds := List.take_of_length_le (by omega)
            rw [hkn] at hB
            clear hkn
            have E := Lib.hid (Tq.wp_yes hq.out hs0.out (by have := hle.out; have := H0.out; omega) hB.out hpm.out (fun d => Tq.cn_perm hpm.out))
            go_wp2_with fail
            exact bodyPost_ret (v := .tuple #[.int .i64 bb, .int .i64 m, .int .i64 0]) (by simp [results, Tryd.results36, go_sem]) rfl ⟨by rw [E.out.1, E.out.2.1, E.out.2.2], bt BX.out hN.out⟩
end Go.Proofs.YteileaeeiejonaaDoor
