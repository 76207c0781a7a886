/-
  What the model draws for chapter 12's laws on slabs and divided masses. No condition but the bytes' number.
-/
import Derived.Test.YtobcflcmlejajaaDoorDrG
import Derived.Test.YtobcflcmlejajaaDoorVoS
import Derived.Test.YtobcflcmlejajaaDoorVoP
import Derived.Test.YtobcflcmlejajaaDoorVoN
import Derived.Laws.OwnMore
namespace Go.Proofs.YtobcflcmlejajaaDoor
open Go.RowKit Go.Shelf
set_option linter.unusedVariables false
set_option maxRecDepth 100000

set_option maxHeartbeats 3200000 in
theorem drawSquares_any (B g n k0 : Nat) (v : Value) (w0 w : World) (h : DR B g n v w0 k0 w) (hB : B ≤ g) (hk : k0 ≤ 900000) (hl : n ≤ 1048576) :
    Calls Tryd.prog 66 #[.pointer (some ⟨g, 0, none⟩)] w fun e w' => ∃ x : Int, e = .returned (.int .i64 x) ∧ -1 ≤ x ∧ x ≤ 1000001 ∧ DR B g n v w0 (k0 + 3) w' ∧ KeepB g w w' := by
  have H := Lib.hid h.base
  have H0 := Lib.hid h
  clear h
  go_enter Tryd.func66, Tryd.ntmps66
  go_wp2_with fail
  refine (H.out.one hB (by omega) hl 9 (by omega) (by omega)).mono ?_
  rintro e w1 ⟨c, rfl, D1, K1⟩
  have E1 := Lib.hid D1
  clear D1 K1
  cases c with
  | true =>
    go_wp2_with fail
    refine (E1.out.among hB (by omega) hl [-1, 0, 1, 1000000, 1000001] (by decide) (by decide) 2).mono ?_
    rintro e w2 ⟨x, rfl, hx, D2, K2⟩
    have E2 := Lib.hid D2
    have hx' : Hid (-1 ≤ x ∧ x ≤ 1000001) := Lib.hid (by simp at hx; omega)
    clear D2 K2 hx
    go_wp2_with fail
    go_ret
    exact ⟨x, rfl, hx'.out.1, hx'.out.2, (H0.out.on E2.out).more (by omega), E2.out.keep⟩
  | false =>
    go_wp2_with fail
    refine (E1.out.pickB hB (by omega) hl 1000 (by omega) (by omega)).mono ?_
    rintro e w2 ⟨x, rfl, x0, x1, D2, K2⟩
    have E2 := Lib.hid D2
    clear D2 K2
    go_wp2_with fail
    go_ret
    exact ⟨50 * x, rfl, by omega, by omega, (H0.out.on E2.out).more (by omega), E2.out.keep⟩
set_option maxHeartbeats 3200000 in
theorem drawDepth_any (B g n k0 : Nat) (v : Value) (w0 w : World) (h : DR B g n v w0 k0 w) (hB : B ≤ g) (hk : k0 ≤ 900000) (hl : n ≤ 1048576) :
    Calls Tryd.prog 67 #[.pointer (some ⟨g, 0, none⟩)] w fun e w' => ∃ x : Int, e = .returned (.int .i64 x) ∧ -1 ≤ x ∧ x ≤ 1001 ∧ DR B g n v w0 (k0 + 3) w' ∧ KeepB g w w' := by
  have H := Lib.hid h.base
  have H0 := Lib.hid h
  clear h
  go_enter Tryd.func67, Tryd.ntmps67
  go_wp2_with fail
  refine (H.out.one hB (by omega) hl 9 (by omega) (by omega)).mono ?_
  rintro e w1 ⟨c, rfl, D1, K1⟩
  have E1 := Lib.hid D1
  clear D1 K1
  cases c with
  | true =>
    go_wp2_with fail
    refine (E1.out.among hB (by omega) hl [-1, 0, 1000, 1001] (by decide) (by decide) 2).mono ?_
    rintro e w2 ⟨x, rfl, hx, D2, K2⟩
    have E2 := Lib.hid D2
    have hx' : Hid (-1 ≤ x ∧ x ≤ 1001) := Lib.hid (by simp at hx; omega)
    clear D2 K2 hx
    go_wp2_with fail
    go_ret
    exact ⟨x, rfl, hx'.out.1, hx'.out.2, (H0.out.on E2.out).more (by omega), E2.out.keep⟩
  | false =>
    go_wp2_with fail
    refine (E1.out.pickB hB (by omega) hl 250 (by omega) (by omega)).mono ?_
    rintro e w2 ⟨x, rfl, x0, x1, D2, K2⟩
    have E2 := Lib.hid D2
    clear D2 K2
    go_wp2_with fail
    go_ret
    exact ⟨x, rfl, by omega, by omega, (H0.out.on E2.out).more (by omega), E2.out.keep⟩
set_option maxHeartbeats 3200000 in
theorem drawDensity_any (B g n k0 : Nat) (v : Value) (w0 w : World) (h : DR B g n v w0 k0 w) (hB : B ≤ g) (hk : k0 ≤ 900000) (hl : n ≤ 1048576) :
    Calls Tryd.prog 68 #[.pointer (some ⟨g, 0, none⟩)] w fun e w' => ∃ x : Int, e = .returned (.int .i64 x) ∧ 0 ≤ x ∧ x ≤ 1001 ∧ DR B g n v w0 (k0 + 3) w' ∧ KeepB g w w' := by
  have H := Lib.hid h.base
  have H0 := Lib.hid h
  clear h
  go_enter Tryd.func68, Tryd.ntmps68
  go_wp2_with fail
  refine (H.out.one hB (by omega) hl 9 (by omega) (by omega)).mono ?_
  rintro e w1 ⟨c, rfl, D1, K1⟩
  have E1 := Lib.hid D1
  clear D1 K1
  cases c with
  | true =>
    go_wp2_with fail
    refine (E1.out.among hB (by omega) hl [0, 1, 1000, 1001] (by decide) (by decide) 2).mono ?_
    rintro e w2 ⟨x, rfl, hx, D2, K2⟩
    have E2 := Lib.hid D2
    have hx' : Hid (0 ≤ x ∧ x ≤ 1001) := Lib.hid (by simp at hx; omega)
    clear D2 K2 hx
    go_wp2_with fail
    go_ret
    exact ⟨x, rfl, hx'.out.1, hx'.out.2, (H0.out.on E2.out).more (by omega), E2.out.keep⟩
  | false =>
    go_wp2_with fail
    refine (E1.out.pickB hB (by omega) hl 256 (by omega) (by omega)).mono ?_
    rintro e w2 ⟨x, rfl, x0, x1, D2, K2⟩
    have E2 := Lib.hid D2
    clear D2 K2
    go_wp2_with fail
    go_ret
    exact ⟨50 + x, rfl, by omega, by omega, (H0.out.on E2.out).more (by omega), E2.out.keep⟩
set_option maxHeartbeats 3200000 in
theorem drawTonnes_any (B g n k0 : Nat) (v : Value) (w0 w : World) (h : DR B g n v w0 k0 w) (hB : B ≤ g) (hk : k0 ≤ 900000) (hl : n ≤ 1048576) :
    Calls Tryd.prog 76 #[.pointer (some ⟨g, 0, none⟩)] w fun e w' => ∃ x : Int, e = .returned (.int .i64 x) ∧ -1 ≤ x ∧ x ≤ 100000001 ∧ DR B g n v w0 (k0 + 3) w' ∧ KeepB g w w' := by
  have H := Lib.hid h.base
  have H0 := Lib.hid h
  clear h
  go_enter Tryd.func76, Tryd.ntmps76
  go_wp2_with fail
  refine (H.out.one hB (by omega) hl 8 (by omega) (by omega)).mono ?_
  rintro e w1 ⟨c, rfl, D1, K1⟩
  have E1 := Lib.hid D1
  clear D1 K1
  cases c with
  | true =>
    go_wp2_with fail
    refine (E1.out.among hB (by omega) hl [-1, 0, 9, 10, 10000, 100000000, 100000001, 99999999] (by decide) (by decide) 2).mono ?_
    rintro e w2 ⟨x, rfl, hx, D2, K2⟩
    have E2 := Lib.hid D2
    have hx' : Hid (-1 ≤ x ∧ x ≤ 100000001) := Lib.hid (by simp at hx; omega)
    clear D2 K2 hx
    go_wp2_with fail
    go_ret
    exact ⟨x, rfl, hx'.out.1, hx'.out.2, (H0.out.on E2.out).more (by omega), E2.out.keep⟩
  | false =>
    go_wp2_with fail
    refine (E1.out.pickB hB (by omega) hl 3000 (by omega) (by omega)).mono ?_
    rintro e w2 ⟨x, rfl, x0, x1, D2, K2⟩
    have E2 := Lib.hid D2
    clear D2 K2
    go_wp2_with fail
    go_ret
    exact ⟨7 * x, rfl, by omega, by omega, (H0.out.on E2.out).more (by omega), E2.out.keep⟩
set_option maxHeartbeats 3200000 in
theorem drawSlabTonnes_any (w : World) (v : Value) (n : Nat) (hv : Bs w.heap.size w v n) (hl : n ≤ 1048576) :
    Calls Tryd.prog 31 #[v] w fun e w' => ∃ (q d r : Int), e = .returned (.tuple #[.int .i64 q, .int .i64 d, .int .i64 r]) ∧ (-1 ≤ q ∧ q ≤ 1000001) ∧ (-1 ≤ d ∧ d ≤ 1001) ∧ (0 ≤ r ∧ r ≤ 1001) ∧ Below w.heap.size w w' := by
  obtain ⟨a, cap, rfl⟩ := hv.form
  have HV := Lib.hid hv
  clear hv
  go_enter Tryd.func31, Tryd.ntmps31
  go_wp2_with fail
  refine (l00From_any a n cap _).mono ?_
  rintro e w1 ⟨rfl, S1, b1⟩
  have B1 := Lib.hid b1
  have E1 : Hid (DR w.heap.size w.heap.size n (.slice a n cap) w1 0 w1) := Lib.hid ⟨0, 0, Nat.le_refl _, S1, HV.out.below B1.out, Below.refl _ _, KeepB.refl _ _⟩
  clear b1 S1 HV
  go_wp2_with fail
  refine (drawSquares_any _ _ _ _ _ _ _ E1.out (Nat.le_refl _) (by omega) hl).mono ?_
  rintro e w2 ⟨q, rfl, q0, q1, D2, K2⟩
  have E2 := Lib.hid D2
  clear D2 K2 E1
  go_wp2_with fail
  refine (drawDepth_any _ _ _ _ _ _ _ E2.out (Nat.le_refl _) (by omega) hl).mono ?_
  rintro e w3 ⟨d, rfl, d0, d1, D3, K3⟩
  have E3 := Lib.hid D3
  clear D3 K3 E2
  go_wp2_with fail
  refine (drawDensity_any _ _ _ _ _ _ _ E3.out (Nat.le_refl _) (by omega) hl).mono ?_
  rintro e w4 ⟨r, rfl, r0, r1, D4, K4⟩
  have E4 := Lib.hid D4
  clear D4 K4 E3
  go_wp2_with fail
  go_ret3
  exact ⟨q, d, r, rfl, ⟨q0, q1⟩, ⟨d0, d1⟩, ⟨r0, r1⟩, B1.out.trans E4.out.below⟩
set_option maxHeartbeats 6400000 in
theorem drawSplitTonnes_any (w : World) (v : Value) (n : Nat) (hv : Bs w.heap.size w v n) (hl : n ≤ 1048576) :
    Calls Tryd.prog 37 #[v] w fun e w' => ∃ (t : Int) (u : Value) (zs : List Int), e = .returned (.tuple #[.int .i64 t, u]) ∧ Sl w' u zs ∧ zs.length ≤ 65 ∧ Below w.heap.size w w' := by
  obtain ⟨i0, hi, hz0, hz1, hz2⟩ := info_parts info_i64
  obtain ⟨a, cap, rfl⟩ := hv.form
  have HV := Lib.hid hv
  clear hv
  go_enter Tryd.func37, Tryd.ntmps37
  go_wp2_with fail
  refine (l00From_any a n cap _).mono ?_
  rintro e w1 ⟨rfl, S1, b1⟩
  have B1 := Lib.hid b1
  have g1 : w.heap.size + 1 ≤ w1.heap.size := S1.lt
  have E1 : Hid (DR w.heap.size w.heap.size n (.slice a n cap) w1 0 w1) := Lib.hid ⟨0, 0, Nat.le_refl _, S1, HV.out.below B1.out, Below.refl _ _, KeepB.refl _ _⟩
  have O1 : Hid (Own w1.heap.size (w1.alloc (.cells #[] 2)) (.slice (some ⟨w1.heap.size, 0, none⟩) 0 0) []) := Lib.hid (World.ownsRow_lit _ _ _ (Nat.le_refl _) (by decide) (by decide))
  have E2 := Lib.hid (E1.out.alloc (Nat.le_refl _) (.cells #[] 2))
  have g2 : w1.heap.size ≤ (w1.alloc (.cells #[] 2)).heap.size := by simp
  clear b1 S1 HV
  go_wp2_with fail
  refine (E2.out.pick (Nat.le_refl _) (by omega) hl 6 (by omega) (by omega)).mono ?_
  rintro e w3 ⟨m, rfl, m0, m1, D3, K3⟩
  have E3 := Lib.hid D3
  have O3 := Lib.hid (own_keep O1.out K3 (by omega))
  have g3 : w1.heap.size ≤ w3.heap.size := by have := K3.1; omega
  clear D3 K3 O1 E2
  go_wp2_with fail
  go_loopw [5, 6] (fun u i wr => ∃ (z : Int) (xs : List Int) (k : Nat), i = .int .i64 z ∧ 0 ≤ z ∧ z ≤ 5 ∧ xs.length + z ≤ 5 ∧ k + z ≤ 6 ∧ Hid (Own w1.heap.size wr u xs) ∧ Hid (DR w.heap.size w.heap.size n (.slice a n cap) w1 k wr) ∧ w1.heap.size ≤ wr.heap.size) (fun _ i _ => (intOf i).toNat)
  case atStart => exact ⟨m, [], 1, rfl, m0, by omega, by simp; omega, by omega, O3, E3, g3⟩
  case round =>
    obtain ⟨z, xs, k, rfl, z0, z1, hx, hk, ho, hd, hg⟩ := hrel
    by_cases hlt : 0 < z
    · go_wp2_with fail
      refine (hd.out.among (Nat.le_refl _) (by omega) hl [0, 1, 1, 3, 50] (by decide) (by decide) 2).mono ?_
      rintro e w4 ⟨y, rfl, -, D4, K4⟩
      have E4 := Lib.hid D4
      have O4 := Lib.hid (own_keep ho.out K4 (by omega))
      have g4 : w1.heap.size ≤ w4.heap.size := by have := K4.1; omega
      clear D4 K4 ho hd
      go_wp2_with (at_builtin; refine wpList_append_own _ rfl _ _ 27 rfl w1.heap.size 2 i0 (.int .i64 0) 1 8 Tryd.underlying27 hi hz0 hz1 hz2 rfl (by decide) _ _ _ rfl (own_belowAll O4.out ((Below.refl _ _).alloc (Nat.le_refl _) _)) ⟨w4.heap.size, 0, none⟩ 1 1 [.int .i64 y] rfl rfl (row_new _ [_] _) (iv_cell [y]) ?c3 ?c4 ?c5 ?_)
      case c3 => unfold maxLen; omega
      case c4 => omega
      case c5 => first | omega | (simp; omega)
      intro v' w5 hown' hgrow _
      have O5 : Hid (Own w1.heap.size w5 v' (xs ++ [y])) := Lib.hid (by unfold Own; rw [iv_append, List.length_append]; exact hown')
      have E5 := Lib.hid ((E4.out.alloc (Nat.le_refl _) (.cells #[.int .i64 y] 2)).grown hgrow (fun r e => (O4.out.lt r e).1) (Nat.le_refl _) (by omega))
      have g5 : w1.heap.size ≤ w5.heap.size := by have := hgrow.size; simp at this; omega
      clear hown' hgrow O4 E4
      go_wp2_with fail
      exact ⟨⟨z - 1, xs ++ [y], k + 1, rfl, by omega, by omega, by simp; omega, by omega, O5, E5, g5⟩, by simp only [intOf]; omega⟩
    · have hlx : xs.length ≤ 5 := by omega
      go_wp2_with fail
      refine (hd.out.pick (Nat.le_refl _) (by omega) hl 16 (by omega) (by omega)).mono ?_
      rintro e w4 ⟨j, rfl, j0, j1, D4, K4⟩
      have E4 := Lib.hid D4
      have O4 := Lib.hid (own_keep ho.out K4 (by omega))
      have g4 : w1.heap.size ≤ w4.heap.size := by have := K4.1; omega
      clear D4 K4 ho hd
      by_cases h0 : j = 0
      focus
        subst h0
        go_wp2_with fail
        refine (E4.out.among (Nat.le_refl _) (by omega) hl [-1, 1000, 1001] (by decide) (by decide) 2).mono ?_
        rintro e w5 ⟨y, rfl, -, D5, K5⟩
        have E5 := Lib.hid D5
        have O5 := Lib.hid (own_keep O4.out K5 (by omega))
        have g5 : w1.heap.size ≤ w5.heap.size := by have := K5.1; omega
        clear D5 K5 O4 E4
        go_wp2_with (at_builtin; refine wpList_append_own _ rfl _ _ 27 rfl w1.heap.size 2 i0 (.int .i64 0) 1 8 Tryd.underlying27 hi hz0 hz1 hz2 rfl (by decide) _ _ _ rfl (own_belowAll O5.out ((Below.refl _ _).alloc (Nat.le_refl _) _)) ⟨w5.heap.size, 0, none⟩ 1 1 [.int .i64 y] rfl rfl (row_new _ [_] _) (iv_cell [y]) ?c3 ?c4 ?c5 ?_)
        case c3 => unfold maxLen; omega
        case c4 => omega
        case c5 => first | omega | (simp; omega)
        intro v' w6 hown' hgrow _
        have O6 : Hid (∃ ys, Own w1.heap.size w6 v' ys ∧ ys.length ≤ 65) := Lib.hid ⟨xs ++ [y], by unfold Own; rw [iv_append, List.length_append]; exact hown', by simp; omega⟩
        have E6 : Hid (DR w.heap.size w.heap.size n (.slice a n cap) w1 10 w6) := Lib.hid (((E5.out.alloc (Nat.le_refl _) (.cells #[.int .i64 y] 2)).grown hgrow (fun r e => (O5.out.lt r e).1) (Nat.le_refl _) (by omega)).more (by omega))
        clear hown' hgrow O5 E5
        go_wp2_with fail
      rotate_left 1
      by_cases h1 : j = 1
      focus
        subst h1
        go_wp2_with fail
        refine (E4.out.among (Nat.le_refl _) (by omega) hl [64, 65] (by decide) (by decide) 2).mono ?_
        rintro e w5 ⟨y, rfl, hy, D5, K5⟩
        have E5 := Lib.hid D5
        have g5 : w1.heap.size ≤ w5.heap.size := by have := K5.1; omega
        obtain ⟨m, rfl, hm⟩ : ∃ m : Nat, y = (m : Int) ∧ m ≤ 65 := by
          simp at hy
          rcases hy with rfl | rfl
          · exact ⟨64, rfl, by omega⟩
          · exact ⟨65, rfl, by omega⟩
        clear D5 K5 O4 E4 hy
        go_wp2_with (at_make; refine wpList_make_full _ rfl _ _ 27 rfl w1.heap.size 2 i0 (.int .i64 0) 1 Tryd.underlying27 hi hz0 hz1 .i64 .i64 _ _ m rfl rfl rfl rfl ?c1 ?c2 ?c3 ?_)
        case c1 => rw [hz2]; omega
        case c2 => unfold maxLen; omega
        case c3 => exact g5
        intro w6 hown' hgrow
        have O6 : Hid (∃ ys, Own w1.heap.size w6 (.slice (some ⟨w5.heap.size, 0, none⟩) m m) ys ∧ ys.length ≤ 65) := Lib.hid ⟨List.replicate m 0, by unfold Own; rw [toList_madeCells_one] at hown'; simpa [iv] using hown', by simp; omega⟩
        have E6 : Hid (DR w.heap.size w.heap.size n (.slice a n cap) w1 10 w6) := Lib.hid ((E5.out.grown hgrow (fun r e => by cases e) (Nat.le_refl _) (by omega)).more (by omega))
        clear hown' hgrow E5
        go_wp2_with fail
      rotate_left 1
      have O6 : Hid (∃ ys, Own w1.heap.size w4 u5 ys ∧ ys.length ≤ 65) := Lib.hid ⟨xs, O4.out, by omega⟩
      have E6 : Hid (DR w.heap.size w.heap.size n (.slice a n cap) w1 10 w4) := Lib.hid (E4.out.more (by omega))
      have jb0 : (j == 0) = false := beq_eq_false_iff_ne.2 h0
      have jb1 : (j == 1) = false := beq_eq_false_iff_ne.2 h1
      clear E4 O4
      go_wp2_with fail
      all_goals (
        obtain ⟨ys, oy, hy⟩ := O6.out
        have OY := Lib.hid oy
        clear oy O6
        refine (drawTonnes_any _ _ _ _ _ _ _ E6.out (Nat.le_refl _) (by omega) hl).mono ?_
        rintro e w7 ⟨t, rfl, -, -, D7, K7⟩
        have E7 := Lib.hid D7
        have O7 := Lib.hid (own_keep OY.out K7 (by omega))
        clear D7 K7 OY E6
        go_wp2_with fail
        go_ret2
        exact ⟨t, _, ys, rfl, O7.out.sl, hy, B1.out.trans E7.out.below⟩)
/-! ### the law's own helpers -/
theorem bsOfRowV {w : World} {a : Option Addr} {len cap : Nat} {zs : List Int}
    (h : (a = none ∧ len = 0 ∧ cap = 0 ∧ zs = []) ∨ ∃ x, a = some x ∧ len ≤ cap ∧ cap ≤ maxLen ∧ zs.length = cap ∧ (∀ i, i < zs.length → w.cell? (x.add i) = some (.int .u8 (zs.getD i 0))) ∧ ∀ n ∈ zs, (Lit.int .u8 n).wf = true) :
    Bs w.heap.size w (.slice a len cap) len := by
  rcases h with ⟨rfl, rfl, rfl, rfl⟩ | ⟨x, rfl, hl, hm, hz, hc, hw⟩
  · exact Or.inl ⟨rfl, _, _, rfl⟩
  · rcases Nat.eq_zero_or_pos len with h0 | h0
    · subst h0; exact Or.inl ⟨rfl, _, _, rfl⟩
    · obtain ⟨b, off, rfl, hc'⟩ := ints_at hc (by omega)
      have c0 := hc' 0 (by omega)
      refine Or.inr ⟨b, off, cap, rfl, World.block_lt_of_cell? w _ c0, fun j hj => ?_⟩
      have hr := range_u8 hw j
      refine ⟨zs[j]?.getD 0, hr.1, hr.2, ?_⟩
      rw [hc' j (by omega), List.getD_eq_getElem?_getD]
theorem bsMonoV {B B' : Nat} {w : World} {v : Value} {n : Nat} (h : Bs B w v n) (hb : B ≤ B') : Bs B' w v n := by
  rcases h with h | ⟨b, off, cap, rfl, hlt, hc⟩
  · exact Or.inl h
  · exact Or.inr ⟨b, off, cap, rfl, Nat.lt_of_lt_of_le hlt hb, hc⟩
theorem b10Vno (w : World) (a : Option Addr) (n cn : Nat) (h1 : n ≤ 1048576) :
    Calls Tryd.prog 30 #[.slice a n cn] w fun e w' => e = .returned (.bool false) ∧ w = w' := by
  have h3 : ¬ (1048576 : Int) < n := by omega
  go_enter Tryd.func30, Tryd.ntmps30
  go_wp2
  go_ret
  exact ⟨rfl, rfl⟩
theorem b10Vyes (w : World) (a : Option Addr) (n cn : Nat) (h1 : 1048576 < n) :
    Calls Tryd.prog 30 #[.slice a n cn] w fun e w' => e = .returned (.bool true) ∧ w = w' := by
  have h3 : (1048576 : Int) < n := by omega
  go_enter Tryd.func30, Tryd.ntmps30
  go_wp2
  go_ret
  exact ⟨rfl, rfl⟩
theorem b10Abs_any (x : Int) (w : World) (h1 : -1000000000000000000 ≤ x) (h2 : x ≤ 1000000000000000000) : Calls Tryd.prog 35 #[.int .i64 x] w fun e w' => e = .returned (.int .i64 (Ar.ab x)) ∧ w = w' := by
  by_cases h : x < 0
  · have ha : Ar.ab x = -x := by unfold Ar.ab; rw [if_pos h]
    go_enter Tryd.func35, Tryd.ntmps35
    go_wp2
    go_ret
    exact ⟨ret_int ha.symm, rfl⟩
  · have ha : Hid (Ar.ab x = x) := Lib.hid (by unfold Ar.ab; rw [if_neg h])
    go_enter Tryd.func35, Tryd.ntmps35
    go_wp2
    go_ret
    exact ⟨ret_int ha.out.symm, rfl⟩
set_option maxHeartbeats 1600000 in
theorem b10At0_any (B : Nat) (w : World) (v : Value) (n : Nat) (m : Int) (hv : Bs B w v n) (hl : n ≤ 1048576) (m1 : 1 ≤ m) (m2 : m ≤ 2000000) :
    Calls Tryd.prog 33 #[v, .int .i64 0, .int .i64 m] w fun e w' => ∃ x : Int, e = .returned (.int .i64 x) ∧ 0 ≤ x ∧ x < m ∧ w = w' := by
  obtain ⟨a, cap, rfl⟩ := hv.form
  by_cases hm : m ≤ 1
  · go_enter Tryd.func33, Tryd.ntmps33
    go_wp2
    go_ret
    exact ⟨0, rfl, by omega, by omega, rfl⟩
  · have hm' : ¬ m ≤ 1 := hm
    by_cases hn : 0 < n
    · obtain ⟨b, off, rfl, hb, x, x0, x1, hc⟩ := hv.byte hn
      have hnz : (0 : Int) < (n : Int) := by omega
      have t0 := Int.emod_nonneg x (b := m) (by omega)
      have t1 := Int.emod_lt_of_pos x (b := m) (by omega)
      rw [Nat.add_zero] at hc
      clear hv
      go_enter Tryd.func33, Tryd.ntmps33
      go_wp2
      go_ret
      exact ⟨_, rfl, t0, t1, rfl⟩
    · have hnz : ¬ (0 : Int) < (n : Int) := by omega
      have t0 := Int.emod_nonneg 11 (b := m) (by omega)
      have t1 := Int.emod_lt_of_pos 11 (b := m) (by omega)
      clear hv
      go_enter Tryd.func33, Tryd.ntmps33
      go_wp2
      go_ret
      exact ⟨_, rfl, t0, t1, rfl⟩
namespace Vm
theorem st_ok {q d n : Int} (h : stC q d n = 0) : (0 ≤ q ∧ q ≤ 1000000) ∧ (0 ≤ d ∧ d ≤ 1000) ∧ (1 ≤ n ∧ n ≤ 1000) := by
  unfold stC at h
  split at h
  · rename_i h'
    rw [Bool.and_eq_true, Bool.and_eq_true, inB_iff, inB_iff, inB_iff] at h'
    exact ⟨h'.1.1, h'.1.2, h'.2⟩
  · cases h
theorem st_is {q d n : Int} (h1 : 0 ≤ q) (h2 : q ≤ 1000000) (h3 : 0 ≤ d) (h4 : d ≤ 1000) (h5 : 1 ≤ n) (h6 : n ≤ 1000) : stV q d n = slab q d n ∧ stC q d n = 0 := by
  have e : (Ar.inB 0 q 1000000 && Ar.inB 0 d 1000 && Ar.inB 1 n 1000) = true := by rw [Ar.inB_t h1 h2, Ar.inB_t h3 h4, Ar.inB_t h5 h6]; rfl
  unfold stV stC; rw [e]; exact ⟨rfl, rfl⟩
theorem sl_is {q d : Int} (h1 : 0 ≤ q) (h2 : q ≤ 1000000) (h3 : 0 ≤ d) (h4 : d ≤ 1000) : 0 ≤ slV q d ∧ slC q d = 0 := by
  have e : (Ar.inB 0 q 1000000 && Ar.inB 0 d 1000) = true := by rw [Ar.inB_t h1 h2, Ar.inB_t h3 h4]; rfl
  unfold slV slC; rw [e, if_pos rfl]
  exact ⟨dr_nn (Int.mul_nonneg h1 h3) (by decide), rfl⟩
theorem sz_is {t : Int} (h1 : 0 ≤ t) (h2 : t ≤ 100000000) : szV t = cls t ∧ szC t = 0 := sz_t (Ar.inB_t h1 h2)
theorem cls_bd (t : Int) : 1 ≤ cls t ∧ cls t ≤ 5 := by unfold cls; (repeat' split) <;> omega
theorem spC_0 {t : Int} {zs : List Int} (h : spC t zs = 0) : (0 ≤ t ∧ t ≤ 100000000) ∧ okI zs 1000 = true ∧ 0 < zs.sum ∧ spL t zs = dfs (sp t zs) zs.length := by
  have hc : ton t = true ∧ okI zs 1000 = true ∧ ¬ zs.sum = 0 := by
    unfold spC at h
    cases h1 : ton t <;> cases h2 : okI zs 1000 <;> rw [h1, h2] at h <;> simp at h ⊢
    exact h
  obtain ⟨h1, h2, h3⟩ := hc
  have hb := sk_bd (okI_of h2).2 zs.length (Nat.le_refl _)
  rw [sk_all] at hb
  refine ⟨?_, h2, by omega, (sp_good h1 h2 h3).1⟩
  unfold ton at h1; exact inB_iff.1 h1
theorem spC_no {t : Int} {zs : List Int} (h : ¬ spC t zs = 0) : spL t zs = [] := by
  unfold spC at h
  unfold spL
  cases h1 : ton t <;> cases h2 : okI zs 1000 <;> rw [h1, h2] at h <;> simp at h ⊢
  omega
theorem jt_split {t : Int} {zs : List Int} (h : spC t zs = 0) : jtV (spL t zs) = t ∧ jtK (spL t zs) = cls t ∧ jtC (spL t zs) = 0 ∧ (spL t zs).length = zs.length := by
  obtain ⟨⟨t1, t2⟩, h2, h3, h4⟩ := spC_0 h
  obtain ⟨a, b⟩ := split_join t1 t2 h2 h3
  rw [h4]
  have := jt_ok a (by rw [b]; exact t2)
  rw [b] at this
  exact ⟨this.1, this.2.1, this.2.2, dfs_length _ _⟩
theorem ab_le1 {x : Int} (h : -1 ≤ x ∧ x ≤ 1) : Ar.ab x ≤ 1 := by unfold Ar.ab; split <;> omega
theorem ab_le {x m : Int} (h : -m ≤ x ∧ x ≤ m) : Ar.ab x ≤ m := by unfold Ar.ab; split <;> omega
theorem mul_dn {u n m : Int} (h1 : 1 ≤ n) (h : -m ≤ u * n ∧ u * n ≤ m) : -m ≤ u ∧ u ≤ m := by
  rcases Int.le_total 0 u with h0 | h0
  · have := Int.mul_le_mul_of_nonneg_left h1 h0
    omega
  · have := Int.mul_le_mul_of_nonneg_left h1 (show 0 ≤ -u by omega)
    rw [Int.neg_mul, Int.neg_mul] at this
    omega
end Vm
end Go.Proofs.YtobcflcmlejajaaDoor
