/-
  Paths that the model draws (chapter 14): rows of a few points with whatever numbers. No condition but the bytes' number.
-/
import Derived.Test.YtmieckchppfogaaGreatDoorDrG
import Derived.Test.YtmieckchppfogaaGreatDoorAgJ
import Derived.Test.YtmieckchppfogaaGreatDoorCd
namespace Go.Proofs.YtmieckchppfogaaGreatDoor
open Go.RowKit Go.Shelf
set_option linter.unusedVariables false
set_option maxRecDepth 100000

theorem rowsKeep {B g : Nat} {w w1 : World} {e : TypeId} {size : Nat} {v : Value} {n : Nat} {xs : List Value} (h : w.ownsRow B e size v n xs) (hk : KeepB g w w1) (hg : g < B) : w1.ownsRow B e size v n xs := by
  refine ⟨h.1, ?_⟩
  rcases h.2 with ⟨rfl, hn⟩ | ⟨q, cap, cur, rfl, hbg, hh, hnc, hcm, hs, ht⟩
  · exact Or.inl ⟨rfl, hn⟩
  · have hq : q < w.heap.size := by
      rcases Nat.lt_or_ge q w.heap.size with h' | h'
      · exact h'
      · rw [Array.getElem?_eq_none h'] at hh; cases hh
    exact Or.inr ⟨q, cap, cur, rfl, hbg, (hk.2 q hq (by omega)).trans hh, hnc, hcm, hs, ht⟩
/-- an own row of points that begins where its block begins, its length a letter -/
def RowP (N : Nat) (w : World) (q m cap : Nat) (xs : List Pth) : Prop := xs.length = m ∧ w.ownsRow N 36 2 (.slice (some ⟨q, 0, none⟩) m cap) m (iv (Pp.fl xs))
theorem RowP.keep {N g q m cap : Nat} {w w1 : World} {xs : List Pth} (h : RowP N w q m cap xs) (hk : KeepB g w w1) (hg : g < N) : RowP N w1 q m cap xs := ⟨h.1, rowsKeep h.2 hk hg⟩
theorem RowP.alloc {N q m cap : Nat} {w : World} {xs : List Pth} (h : RowP N w q m cap xs) (o : Obj) : RowP N (w.alloc o) q m cap xs := ⟨h.1, h.2.alloc o⟩
theorem RowP.ge {N q m cap : Nat} {w : World} {xs : List Pth} (h : RowP N w q m cap xs) : N ≤ q := (World.ownsRow.lt h.2 q rfl).1
theorem RowP.cell {N q m cap : Nat} {w : World} {xs : List Pth} (h : RowP N w q m cap xs) {k j : Nat} (hk : k < m) (hj : j < 2) : ∃ z : Int, w.cell? ⟨q, 2 * k + j, none⟩ = some (.int .i64 z) := by
  have hl := h.1
  have hx : xs[k]? = some xs[k] := List.getElem?_eq_getElem (by omega)
  have e := World.ownsRow.cellAt h.2 (2 * k + j) (by omega)
  have f := Pp.fl_at hx hj
  match j, hj with
  | 0, _ => exact ⟨xs[k].di, e.trans (iv_at (f.trans rfl))⟩
  | 1, _ => exact ⟨xs[k].he, e.trans (iv_at (f.trans rfl))⟩
theorem RowP.lit {N : Nat} (w : World) (x : Pth) (h : N ≤ w.heap.size) : RowP N (w.alloc (.cells #[.int .i64 x.di, .int .i64 x.he] 36)) w.heap.size 1 1 [x] :=
  ⟨rfl, World.ownsRow_lit (base := N) (e := 36) (size := 2) w #[.int .i64 x.di, .int .i64 x.he] 1 h (by decide) rfl⟩
theorem RowP.lit0 {N : Nat} (w : World) (h : N ≤ w.heap.size) : RowP N (w.alloc (.cells #[] 36)) w.heap.size 0 0 [] :=
  ⟨rfl, World.ownsRow_lit (base := N) (e := 36) (size := 2) w #[] 0 h (by decide) rfl⟩
theorem RowP.own {N q m cap : Nat} {w : World} {xs : List Pth} (h : RowP N w q m cap xs) : PpAt w (.slice (some ⟨q, 0, none⟩) m cap) xs := by
  obtain ⟨rfl, h⟩ := h
  exact ⟨N, q, cap, rfl, h⟩
theorem RowP.push {N m : Nat} {w : World} {v : Value} {zs : List Pth} {x : Pth} (h1 : zs.length = m) (h : w.ownsRow N 36 2 v (m + 1) (iv (Pp.fl zs) ++ iv (Pp.lv x))) : ∃ q' cap', v = .slice (some ⟨q', 0, none⟩) (m + 1) cap' ∧ RowP N w q' (m + 1) cap' (zs ++ [x]) := by
  have hform : ∃ g' cap'', v = .slice (some ⟨g', 0, none⟩) (m + 1) cap'' := by
    rcases Go.Joins.ownsRow_forms h with ⟨-, h0⟩ | ⟨g', cap'', h⟩
    · omega
    · exact ⟨g', cap'', h⟩
  obtain ⟨g', cap'', rfl⟩ := hform
  have e : Pp.fl (zs ++ [x]) = Pp.fl zs ++ Pp.lv x := by rw [Pp.fl_app, Pp.fl_one]
  exact ⟨g', cap'', rfl, by rw [List.length_append, h1]; rfl, by rw [e, iv_append]; exact h⟩
theorem RowP.cut {N q m cap : Nat} {w : World} {xs : List Pth} (h : RowP N w q m cap xs) (hm : 1 ≤ m) : RowP N w q 1 cap (xs.take 1) := by
  obtain ⟨h1, h2⟩ := h
  refine ⟨by rw [List.length_take]; omega, ?_⟩
  have e : iv (Pp.fl (xs.take 1)) = (iv (Pp.fl xs)).take (1 * 2) := by rw [← Pp.fl_take]; unfold iv; rw [List.map_take]
  rcases h2.2 with ⟨h', _⟩ | ⟨g', cap', cur, h', hb, hg, hnc, hcm, hcs, ht⟩
  · simp at h'
  · simp only [Value.slice.injEq, Option.some.injEq, Addr.mk.injEq, and_true, true_and] at h'
    obtain ⟨rfl, rfl⟩ := h'
    refine ⟨by rw [e, List.length_take, h2.1]; omega, Or.inr ⟨q, cap, cur, rfl, hb, hg, by omega, hcm, hcs, ?_⟩⟩
    rw [e, ← ht, List.take_take, show min (1 * 2) (m * 2) = 1 * 2 by omega]
theorem RowP.put {N q m cap : Nat} {w : World} {xs : List Pth} (h : RowP N w q m cap xs) (hm : 1 ≤ m) {j : Nat} (hj : j < 2) (z : Int) : ∃ ys, RowP N (w.setCell ⟨q, j, none⟩ (.int .i64 z)) q m cap ys := by
  obtain ⟨h1, h2⟩ := h
  rcases xs with _ | ⟨x, xs⟩
  · simp at h1; omega
  · have h3 := (h2.stored j (.int .i64 z)).1
    match j, hj with
    | 0, _ => exact ⟨⟨z, x.he⟩ :: xs, by simpa using h1, h3⟩
    | 1, _ => exact ⟨⟨x.di, z⟩ :: xs, by simpa using h1, h3⟩
theorem RowP.cap {N q m cap : Nat} {w : World} {xs : List Pth} (h : RowP N w q m cap xs) : m ≤ cap := own_capP h.2
theorem RowP.frozen {N q m cap : Nat} {w : World} {xs : List Pth} (h : RowP N w q m cap xs) (j : Nat) : w.frozen? ⟨q, j, none⟩ = false := h.2.frozenAt j
theorem newPt (w : World) (x : Pth) (t : TypeId) : ∀ j u, (iv (Pp.lv x))[j]? = some u → (w.alloc (.cells #[.int .i64 x.di, .int .i64 x.he] t)).cell? ((⟨w.heap.size, 0, none⟩ : Addr).add j) = some u := row_new w (iv (Pp.lv x)) t
theorem cellsPt (x : Pth) : ∀ u ∈ iv (Pp.lv x), u.oneCell' = true := iv_cell (Pp.lv x)
theorem mx_ex (a b : Int) (w : World) : Calls Tryz.prog 64 #[.int .i64 a, .int .i64 b] w fun e w' => ∃ z : Int, e = .returned (.int .i64 z) ∧ w = w' :=
  (mx_any a b _ w rfl).mono (fun e w' h => ⟨_, h.1, h.2⟩)
theorem mn_ex (a b : Int) (w : World) : Calls Tryz.prog 65 #[.int .i64 a, .int .i64 b] w fun e w' => ∃ z : Int, e = .returned (.int .i64 z) ∧ w = w' :=
  (mn_any a b _ w rfl).mono (fun e w' h => ⟨_, h.1, h.2⟩)
set_option maxHeartbeats 3200000 in
theorem l14DrawOk_any (B g n k0 : Nat) (v : Value) (w0 w : World) (h : DR B g n v w0 k0 w) (hB : B ≤ g) (hk : k0 ≤ 900000) (hl : n ≤ 1048576) :
    Calls Tryz.prog 37 #[.pointer (some ⟨g, 0, none⟩)] w fun e w' => ∃ (q m cap : Nat), e = .returned (.slice (some ⟨q, 0, none⟩) m cap) ∧ 1 ≤ m ∧ m ≤ 7 ∧ (∃ xs : List Pth, RowP w.heap.size w' q m cap xs) ∧ DR B g n v w0 (k0 + 16) w' ∧ KeepB g w w' := by
  obtain ⟨i0, hi, hz0, hz1, hz2⟩ := info_parts info_PathPoint
  have hgw := h.lt
  have H0 := Lib.hid h
  have D0 := Lib.hid h.base
  clear h
  go_enter Tryz.func37, Tryz.ntmps37
  go_wp2_with fail
  refine (D0.out.pick hB (by omega) hl 100 (by omega) (by omega)).mono ?_
  rintro e w1 ⟨x, rfl, x0, x1, d1, kk1⟩
  have D1 := Lib.hid d1
  have z1 : w.heap.size ≤ w1.heap.size := kk1.1
  clear d1 kk1 D0
  obtain ⟨y, hy⟩ : ∃ y : Int, y = 1200 + 10 * x := ⟨_, rfl⟩
  have O2 := Lib.hid (RowP.lit (N := w.heap.size) w1 ⟨0, y⟩ z1)
  have D2 := Lib.hid (D1.out.alloc hB (.cells #[.int .i64 0, .int .i64 y] 36))
  have hg1 : g < w1.heap.size := by omega
  go_wp2_with fail
  rw [← hy]
  refine (D2.out.pick hB (by omega) hl 6 (by omega) (by omega)).mono ?_
  rintro e w3 ⟨p, rfl, p0, p1, d3, kk3⟩
  obtain ⟨p, rfl⟩ := Int.eq_ofNat_of_zero_le p0
  have D3 := Lib.hid d3
  have O3 := Lib.hid (O2.out.keep kk3 hgw)
  clear d3 kk3 O2 D2 D1 hy
  generalize w1.heap.size = q1 at *
  go_wp2_with fail
  go_loopw [3, 4, 5, 6, 7, 8] (fun hh u d st kk _ wr => ∃ (j m q cap : Nat) (xs : List Pth) (hz dz sz : Int), hh = .int .i64 hz ∧ d = .int .i64 dz ∧ st = .int .i64 sz ∧ kk = .int .i64 j ∧ u = .slice (some ⟨q, 0, none⟩) m cap ∧ 1 ≤ m ∧ m + j ≤ 7 ∧ Hid (RowP w.heap.size wr q m cap xs) ∧ Hid (DR B g n v w (k0 + 2 * m) wr)) (fun _ _ _ _ kk _ _ => (intOf kk).toNat)
  case atStart => exact ⟨p + 1, 1, q1, 1, [⟨0, y⟩], y, 0, 700, rfl, rfl, rfl, by go_num, rfl, by omega, by omega, O3, D3⟩
  case round =>
    obtain ⟨j, m, q, cap, xs, hz, dz, sz, rfl, rfl, rfl, rfl, rfl, hm1, hm, ho, hd⟩ := hrel
    clear O3 D3
    rcases j with _ | j
    · have HL : Hid (∃ xs : List Pth, RowP w.heap.size wr q m cap xs) := Lib.hid ⟨xs, ho.out⟩
      have HD := Lib.hid ((H0.out.on hd.out).more (k1 := k0 + 16) (by omega))
      have HK := Lib.hid hd.out.keep
      have hj : ¬ (((0 : Nat) : Int) > 0) := by omega
      clear ho hd
      rw [show ((0 : Nat) : Int) = 0 from rfl]
      go_wp2
      go_ret
      exact ⟨q, m, cap, rfl, hm1, by omega, HL.out, HD.out, HK.out⟩
    · have hj : (0 : Int) < ((j + 1 : Nat) : Int) := by omega
      go_wp2_with fail
      refine (hd.out.pick hB (by omega) hl 20 (by omega) (by omega)).mono ?_
      rintro e w4 ⟨a, rfl, a0, a1, d4, kk4⟩
      have D4 := Lib.hid d4
      have O4 := Lib.hid (ho.out.keep kk4 hgw)
      clear d4 kk4 ho hd
      go_wp2_with fail
      refine (mx_ex 0 _ _).mono ?_
      rintro e w5 ⟨h2, rfl, rfl⟩
      go_wp2_with fail
      refine (D4.out.pick hB (by omega) hl 7 (by omega) (by omega)).mono ?_
      rintro e w6 ⟨c, rfl, c0, c1, d6, kk6⟩
      have D6 := Lib.hid d6
      have O6 := Lib.hid (O4.out.keep kk6 hgw)
      clear d6 kk6 O4 D4
      go_wp2_with fail
      refine (mx_ex (-200) _ _).mono ?_
      rintro e w7 ⟨s2, rfl, rfl⟩
      obtain ⟨y0, hy0⟩ := O6.out.cell (k := 0) (j := 1) (by omega) (by omega)
      rw [show 2 * 0 + 1 = 1 by omega] at hy0
      go_wp2_with fail
      refine (mn_ex _ _ _).mono ?_
      rintro e w8 ⟨h3, rfl, rfl⟩
      go_wp2_with (at_builtin; refine wpList_append_own _ rfl _ _ 24 rfl w.heap.size 36 i0 _ 2 16 Tryz.underlying24 hi hz0 hz1 hz2 rfl (by decide) _ _ _ rfl (O6.out.2.alloc _) ⟨w6.heap.size, 0, none⟩ 1 1 (iv (Pp.lv (⟨_, h3⟩ : Pth))) rfl rfl (newPt w6 ⟨_, h3⟩ _) (cellsPt _) ?c3 ?c4 ?c5 ?_)
      case c3 => unfold maxLen; omega
      case c4 => omega
      case c5 => have := O6.out.ge; have := D6.out.keep.1; first | omega | (simp; omega)
      intro v' w8 hown' hgrow _
      obtain ⟨q8, cap8, rfl, O8⟩ := RowP.push O6.out.1 hown'
      have D8 := Lib.hid (((D6.out.alloc hB _).grown hgrow (fun r hr => by have := O6.out.ge; simp only [Value.ownBlock, Option.some.injEq] at hr; omega) hB hgw).more (k1 := k0 + 2 * (m + 1)) (by omega))
      have O9 := Lib.hid O8
      clear hown' hgrow O6 D6 O8
      go_wp2
      exact ⟨⟨j, m + 1, q8, cap8, _, h2, _, s2, rfl, rfl, rfl, by go_num, rfl, by omega, by omega, O9, D8⟩, by simp only [intOf]; omega⟩
set_option maxHeartbeats 3200000 in
theorem l14Draw_any (B g n k0 : Nat) (v : Value) (w0 w : World) (h : DR B g n v w0 k0 w) (hB : B ≤ g) (hk : k0 ≤ 800000) (hl : n ≤ 1048576) :
    Calls Tryz.prog 17 #[.pointer (some ⟨g, 0, none⟩)] w fun e w' => ∃ (q m cap : Nat), e = .returned (.slice (some ⟨q, 0, none⟩) m cap) ∧ m ≤ 25 ∧ (∃ xs : List Pth, RowP w.heap.size w' q m cap xs) ∧ DR B g n v w0 (k0 + 20) w' ∧ KeepB g w w' := by
  obtain ⟨i0, hi, hz0, hz1, hz2⟩ := info_parts info_PathPoint
  have hgw := h.lt
  have H0 := Lib.hid h
  have D0 := Lib.hid h.base
  clear h
  have hBw : B ≤ w.heap.size := by omega
  go_enter Tryz.func17, Tryz.ntmps17
  go_wp2_with fail
  refine (l14DrawOk_any B g n k0 v w w D0.out hB (by omega) hl).mono ?_
  rintro e w1 ⟨q, m, cap, rfl, hm1, hm7, ⟨xs, o1⟩, d1, kk1⟩
  have D1 := Lib.hid d1
  have O1 := Lib.hid o1
  clear d1 kk1 o1 D0
  go_wp2_with fail
  refine (D1.out.pick hB (by omega) hl 20 (by omega) (by omega)).mono ?_
  rintro e w2 ⟨j, rfl, j0, j1, d2, kk2⟩
  have D2 := Lib.hid d2
  have O2 := Lib.hid (O1.out.keep kk2 hgw)
  clear d2 kk2 O1 D1
  have hq : w.heap.size ≤ q := O2.out.ge
  have hqg : q ≠ g := by omega
  obtain ⟨c0, hc0⟩ := O2.out.cell (k := 0) (j := 0) (by omega) (by omega)
  obtain ⟨c1, hc1⟩ := O2.out.cell (k := 0) (j := 1) (by omega) (by omega)
  rw [show 2 * 0 + 0 = 0 by omega] at hc0
  rw [show 2 * 0 + 1 = 1 by omega] at hc1
  have f0 := O2.out.frozen 0
  have f1 := O2.out.frozen 1
  by_cases h0 : j = 0
  · subst h0
    have O8 := Lib.hid (O2.out.put hm1 (j := 0) (by omega) 1)
    have D8 := Lib.hid (D2.out.far hq hBw hqg 0 (.int .i64 1))
    have E8 := Lib.hid ((H0.out.on D8.out).more (k1 := k0 + 20) (by omega))
    have K8 := Lib.hid D8.out.keep
    clear O2 D2 D8
    go_wp2_with fail
    go_ret
    exact ⟨q, m, cap, rfl, by omega, O8.out, E8.out, K8.out⟩
  by_cases h1 : j = 1
  · subst h1
    go_wp2_with fail
    refine (D2.out.among hB (by omega) hl [8999, 9000, 9001, 0] (by decide) (by decide) 2).mono ?_
    rintro e w3 ⟨z, rfl, -, d3, kk3⟩
    have O3 := Lib.hid (O2.out.keep kk3 hgw)
    obtain ⟨b1, hb1⟩ := O3.out.cell (k := 0) (j := 1) (by omega) (by omega)
    rw [show 2 * 0 + 1 = 1 by omega] at hb1
    have g1 := O3.out.frozen 1
    have O8 := Lib.hid (O3.out.put hm1 (j := 1) (by omega) z)
    have D8 := Lib.hid (d3.far hq hBw hqg 1 (.int .i64 z))
    have E8 := Lib.hid ((H0.out.on D8.out).more (k1 := k0 + 20) (by omega))
    have K8 := Lib.hid D8.out.keep
    clear O2 D2 D8 O3 d3 kk3
    go_wp2_with fail
    go_ret
    exact ⟨q, m, cap, rfl, by omega, O8.out, E8.out, K8.out⟩
  by_cases h2 : j = 2
  · subst h2
    have hcp := O2.out.cap
    have hc9 : ¬ ((cap : Int) < 1) := by omega
    have O8 : Hid (∃ ys, RowP w.heap.size w2 q 1 cap ys) := Lib.hid ⟨_, O2.out.cut hm1⟩
    have E8 := Lib.hid ((H0.out.on D2.out).more (k1 := k0 + 20) (by omega))
    have K8 := Lib.hid D2.out.keep
    clear O2 D2
    go_wp2_with fail
    go_ret
    exact ⟨q, 1, cap, rfl, by omega, O8.out, E8.out, K8.out⟩
  by_cases h3 : j = 3
  · subst h3
    go_wp2_with fail
    refine (D2.out.among hB (by omega) hl [0, 20000, 20001] (by decide) (by decide) 2).mono ?_
    rintro e w3 ⟨z, rfl, -, d3, kk3⟩
    have O6 := Lib.hid (O2.out.keep kk3 hgw)
    have D6 := Lib.hid d3
    clear d3 kk3 O2 D2
    go_wp2_with (at_builtin; refine wpList_append_own _ rfl _ _ 24 rfl w.heap.size 36 i0 _ 2 16 Tryz.underlying24 hi hz0 hz1 hz2 rfl (by decide) _ _ _ rfl (O6.out.2.alloc _) ⟨w3.heap.size, 0, none⟩ 1 1 (iv (Pp.lv (⟨z, 5⟩ : Pth))) rfl rfl (newPt w3 ⟨z, 5⟩ _) (cellsPt _) ?c3 ?c4 ?c5 ?_)
    case c3 => unfold maxLen; omega
    case c4 => omega
    case c5 => have := O6.out.ge; have := D6.out.keep.1; first | omega | (simp; omega)
    intro v' w8 hown' hgrow _
    obtain ⟨q8, cap8, rfl, o8⟩ := RowP.push O6.out.1 hown'
    have D8 := Lib.hid ((D6.out.alloc hB _).grown hgrow (fun r hr => by have := O6.out.ge; simp only [Value.ownBlock, Option.some.injEq] at hr; omega) hB hgw)
    have O8 : Hid (∃ ys, RowP w.heap.size w8 q8 (m + 1) cap8 ys) := Lib.hid ⟨_, o8⟩
    have E8 := Lib.hid ((H0.out.on D8.out).more (k1 := k0 + 20) (by omega))
    have K8 := Lib.hid D8.out.keep
    clear hown' hgrow O6 D6 o8 D8
    go_wp2
    go_ret
    exact ⟨q8, m + 1, cap8, rfl, by omega, O8.out, E8.out, K8.out⟩
  by_cases h4 : j = 4
  · subst h4
    go_wp2_with fail
    refine (D2.out.among hB (by omega) hl [24, 25] (by decide) (by decide) 2).mono ?_
    rintro e w3 ⟨z, rfl, hz9, d3, kk3⟩
    have z3 : w.heap.size ≤ w3.heap.size := d3.keep.1
    obtain ⟨M, rfl, hM⟩ : ∃ M : Nat, z = (M : Int) ∧ M ≤ 25 := by
      simp only [List.mem_cons, List.not_mem_nil, or_false] at hz9
      rcases hz9 with rfl | rfl
      · exact ⟨24, rfl, by omega⟩
      · exact ⟨25, rfl, by omega⟩
    have D4 := Lib.hid (d3.alloc hB (.cells #[] 36))
    have O4 := Lib.hid (RowP.lit0 (N := w.heap.size) w3 z3)
    clear d3 kk3 O2 D2 hz9 hc0 hc1 f0 f1
    go_wp2_with fail
    go_loopw [3, 5] (fun u i wr => ∃ (k q cap : Nat) (ys : List Pth), k ≤ M ∧ i = .int .i64 k ∧ u = .slice (some ⟨q, 0, none⟩) k cap ∧ Hid (RowP w.heap.size wr q k cap ys) ∧ Hid (DR B g n v w (k0 + 20) wr)) (fun _ i _ => M - (intOf i).toNat)
    case atStart => exact ⟨0, w3.heap.size, 0, [], by omega, by go_num, rfl, O4, Lib.hid (D4.out.more (by omega))⟩
    case round =>
      obtain ⟨k, q6, cap6, ys, hk6, rfl, rfl, ho, hd⟩ := hrel
      clear O4 D4
      by_cases hlt : k < M
      · have hltz : (k : Int) < (M : Int) := by omega
        go_wp2_with (at_builtin; refine wpList_append_own _ rfl _ _ 24 rfl w.heap.size 36 i0 _ 2 16 Tryz.underlying24 hi hz0 hz1 hz2 rfl (by decide) _ _ _ rfl (ho.out.2.alloc _) ⟨wr.heap.size, 0, none⟩ 1 1 (iv (Pp.lv (⟨_, _⟩ : Pth))) rfl rfl (newPt wr ⟨_, _⟩ _) (cellsPt _) ?c3 ?c4 ?c5 ?_)
        case c3 => unfold maxLen; omega
        case c4 => omega
        case c5 => have := ho.out.ge; have := hd.out.keep.1; first | omega | (simp; omega)
        intro v' w8 hown' hgrow _
        obtain ⟨q8, cap8, rfl, o8⟩ := RowP.push ho.out.1 hown'
        have D8 := Lib.hid ((hd.out.alloc hB _).grown hgrow (fun r hr => by have := ho.out.ge; simp only [Value.ownBlock, Option.some.injEq] at hr; omega) hB hgw)
        have O8 := Lib.hid o8
        clear hown' hgrow ho hd o8
        go_wp2
        exact ⟨⟨k + 1, q8, cap8, _, by omega, by go_num, rfl, O8, D8⟩, by simp only [intOf]; omega⟩
      · have hltz : ¬ (k : Int) < (M : Int) := by omega
        have O8 : Hid (∃ ys, RowP w.heap.size wr q6 k cap6 ys) := Lib.hid ⟨_, ho.out⟩
        have E8 := Lib.hid (H0.out.on hd.out)
        have K8 := Lib.hid hd.out.keep
        clear ho hd
        go_wp2_with fail
        go_ret
        exact ⟨q6, k, cap6, rfl, by omega, O8.out, E8.out, K8.out⟩
  · have e0 : (j == 0) = false := by simp; omega
    have e1 : (j == 1) = false := by simp; omega
    have e2 : (j == 2) = false := by simp; omega
    have e3 : (j == 3) = false := by simp; omega
    have e4 : (j == 4) = false := by simp; omega
    have O8 : Hid (∃ ys, RowP w.heap.size w2 q m cap ys) := Lib.hid ⟨_, O2.out⟩
    have E8 := Lib.hid ((H0.out.on D2.out).more (k1 := k0 + 20) (by omega))
    have K8 := Lib.hid D2.out.keep
    clear O2 D2
    go_wp2_with fail
    go_ret
    exact ⟨q, m, cap, rfl, by omega, O8.out, E8.out, K8.out⟩
set_option maxHeartbeats 400000 in
theorem pickOne (g : Nat) (w : World) : Calls Tryz.prog 38 #[.pointer (some ⟨g, 0, none⟩), .int .i64 1] w fun e w' => e = .returned (.int .i64 0) ∧ w = w' := by
  go_enter Tryz.func38, Tryz.ntmps38
  go_wp2
  go_ret
  exact ⟨rfl, rfl⟩
theorem DR.pickAny {B g n : Nat} {v : Value} {w0 w : World} {k0 : Nat} (h : DR B g n v w0 k0 w) (hB : B ≤ g) (hk : k0 ≤ 900100) (hl : n ≤ 1048576) (m : Int) (hm : 1 ≤ m) (hm2 : m ≤ 60000) :
    Calls Tryz.prog 38 #[.pointer (some ⟨g, 0, none⟩), .int .i64 m] w fun e w' => ∃ x : Int, e = .returned (.int .i64 x) ∧ DR B g n v w0 (k0 + 2) w' ∧ KeepB g w w' := by
  rcases Int.lt_or_le 1 m with h1 | h1
  · rcases Int.lt_or_le 200 m with h2 | h2
    · exact (h.pickB hB hk hl m h2 hm2).mono (fun e w' ⟨x, e1, _, _, d, k⟩ => ⟨x, e1, d, k⟩)
    · exact (h.pick hB hk hl m h1 h2).mono (fun e w' ⟨x, e1, _, _, d, k⟩ => ⟨x, e1, d.more (by omega), k⟩)
  · have e : m = 1 := by omega
    subst e
    exact (pickOne g w).mono (fun e w' ⟨e1, e2⟩ => ⟨0, e1, by rw [← e2]; exact h.more (by omega), by rw [← e2]; exact KeepB.refl g w⟩)
set_option maxHeartbeats 3200000 in
theorem l14DrawDistance_any (B g n k0 N q m cap : Nat) (xs : List Pth) (v : Value) (w0 w : World) (h : DR B g n v w0 k0 w) (hB : B ≤ g) (hk : k0 ≤ 800100) (hl : n ≤ 1048576) (hr : RowP N w q m cap xs) (hN : g < N) (hm : m ≤ 25) :
    Calls Tryz.prog 36 #[.pointer (some ⟨g, 0, none⟩), .slice (some ⟨q, 0, none⟩) m cap] w fun e w' => ∃ z : Int, e = .returned (.int .i64 z) ∧ DR B g n v w0 (k0 + 3) w' ∧ KeepB g w w' := by
  have hgw := h.lt
  have H0 := Lib.hid h
  have D0 := Lib.hid h.base
  have R := Lib.hid hr
  clear h hr
  rcases m with _ | k
  · have E8 := Lib.hid (H0.out.more (k1 := k0 + 3) (by omega))
    have K8 := Lib.hid (KeepB.refl g w)
    clear H0 D0 R
    go_enter Tryz.func36, Tryz.ntmps36
    go_wp2_with fail
    go_ret
    exact ⟨5, rfl, E8.out, K8.out⟩
  · have hnz : ¬ (((k + 1 : Nat) : Int) = 0) := by omega
    have hnz2 : (((k + 1 : Nat) : Int) == 0) = false := by simp; omega
    obtain ⟨la, hla⟩ := R.out.cell (k := k) (j := 0) (by omega) (by omega)
    rw [show 2 * k + 0 = k * 2 by omega] at hla
    have hw1 : IntKind.i64.wrap (((k + 1 : Nat) : Int) - 1) = (k : Int) := by rw [show (((k + 1 : Nat) : Int) - 1) = (k : Int) by omega]; exact wrap_in (by omega) (by omega)
    have hk1 : (((k + 1 : Nat) : Int) - 1) = (k : Int) := by omega
    go_enter Tryz.func36, Tryz.ntmps36
    go_wp2_with fail
    refine (D0.out.one hB (by omega) hl 9 (by omega) (by omega)).mono ?_
    rintro e w1 ⟨b, rfl, d1, kk1⟩
    have D1 := Lib.hid d1
    clear d1 kk1 D0 R
    cases b with
    | true =>
      go_wp2_with fail
      refine (D1.out.among hB (by omega) hl [-1, 0, la, wrap64 (la + 1)] (by simp) (by simp) 2).mono ?_
      rintro e w2 ⟨z, rfl, -, d2, kk2⟩
      have E8 := Lib.hid ((H0.out.on d2).more (k1 := k0 + 3) (by omega))
      have K8 := Lib.hid d2.keep
      clear d2 kk2 H0 D1
      go_wp2_with fail
      go_ret
      exact ⟨z, rfl, E8.out, K8.out⟩
    | false =>
      obtain ⟨r, hr⟩ : ∃ r, max 1 (min la 2000) = r := ⟨_, rfl⟩
      have r1 : 1 ≤ r := by omega
      have r2 : r ≤ 2000 := by omega
      go_wp2_with fail
      refine (mn_any la 2000 (min la 2000) _ rfl).mono ?_
      rintro e w2 ⟨rfl, rfl⟩
      go_wp2_with fail
      refine (mx_any 1 (min la 2000) r _ hr).mono ?_
      rintro e w2 ⟨rfl, rfl⟩
      go_wp2_with fail
      refine (D1.out.pickAny hB (by omega) hl r r1 (by omega)).mono ?_
      rintro e w2 ⟨z, rfl, d2, kk2⟩
      have E8 := Lib.hid ((H0.out.on d2).more (k1 := k0 + 3) (by omega))
      have K8 := Lib.hid d2.keep
      clear d2 kk2 H0 D1
      go_wp2_with fail
      go_ret
      exact ⟨z, rfl, E8.out, K8.out⟩
end Go.Proofs.YtmieckchppfogaaGreatDoor
