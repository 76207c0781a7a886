/-
  A drawn layer is valid; a drawn profile is valid and short. No condition but the bytes' number.
-/
import Derived.Test.YtfbfdiejffjbmaaDoorDraw
import Derived.Test.YtfbfdiejffjbmaaDoorStep
import Derived.Test.YtfbfdiejffjbmaaDoorPut
import Derived.Test.YtfbfdiejffjbmaaDoorFind
import Derived.Test.YtfbfdiejffjbmaaDoorHrS
namespace Go.Proofs.YtfbfdiejffjbmaaDoor
open Go.RowKit Go.Deep
set_option linter.unusedVariables false
set_option maxRecDepth 100000

theorem Whole.keep {w w' : World} {q g : Nat} {t : TypeId} {cs : Array Value} (h : Whole w q t cs) (hk : KeepB g w w') (hq : q ≠ g) : Whole w' q t cs := (hk.2 q h.lt hq).trans h
theorem KeepB.trans {g : Nat} {a b c : World} (h : KeepB g a b) (k : KeepB g b c) : KeepB g a c := ⟨Nat.le_trans h.1 k.1, fun i hi hn => (k.2 i (Nat.lt_of_lt_of_le hi h.1) hn).trans (h.2 i hi hn)⟩
theorem KeepB.alloc {g : Nat} {a b : World} (h : KeepB g a b) (o : Obj) : KeepB g a (b.alloc o) :=
  ⟨Nat.le_trans h.1 (by simp), fun i hi hn => (Below.heap_alloc b o i (Nat.lt_of_lt_of_le hi h.1)).trans (h.2 i hi hn)⟩
theorem KeepB.far {g q : Nat} {a b : World} (h : KeepB g a b) (hq : a.heap.size ≤ q) (i : Nat) (u : Value) : KeepB g a (b.setCell ⟨q, i, none⟩ u) :=
  ⟨by simpa [World.setCell] using h.1, fun j hj hn => (Below.heap_setCell b ⟨q, i, none⟩ u j (by show j ≠ q; omega)).trans (h.2 j hj hn)⟩
theorem src_set {w : World} {g q : Nat} {v : Value} {k s : Int} (h : Src w g v k s) (hq : q ≠ g) (i : Nat) (u : Value) : Src (w.setCell ⟨q, i, none⟩ u) g v k s :=
  (Below.heap_setCell w ⟨q, i, none⟩ u g (by show g ≠ q; omega)).trans h
theorem own_keep {B g : Nat} {w w1 : World} {e : TypeId} {size : Nat} {v : Value} {n : Nat} {xs : List Value} (h : w.ownsRow B e size v n xs) (hk : KeepB g w w1) (hg : g < B) : w1.ownsRow B e size v n xs := by
  refine ⟨h.1, ?_⟩
  rcases h.2 with ⟨rfl, hn⟩ | ⟨q, cap, cur, rfl, hbg, hh, hnc, hcm, hs, ht⟩
  · exact Or.inl ⟨rfl, hn⟩
  · have hq : q < w.heap.size := by
      rcases Nat.lt_or_ge q w.heap.size with h' | h'
      · exact h'
      · rw [Array.getElem?_eq_none h'] at hh; cases hh
    exact Or.inr ⟨q, cap, cur, rfl, hbg, (hk.2 q hq (by omega)).trans hh, hnc, hcm, hs, ht⟩
theorem src_grown {w w1 : World} {g : Nat} {v : Value} {k s : Int} {r : Option Nat} (h : Src w g v k s) (hg : w.grownBy w1 r) (hr : r ≠ some g) : Src w1 g v k s := (hg.block g h.lt (fun e => hr e.symm)).trans h
set_option maxHeartbeats 1600000 in
theorem pick_k (B : Nat) (w : World) (g n : Nat) (v : Value) (k : Nat) (s m : Int) (hs : Src w g v k s) (hv : Bs B w v n) (hg : B ≤ g) (hk : k ≤ 1000000) (hl : n ≤ 1048576) (hm : 1 < m) (hm2 : m ≤ 60000) :
    Calls Tryd.prog 45 #[.pointer (some ⟨g, 0, none⟩), .int .i64 m] w fun e w' => ∃ (x s' : Int) (k' : Nat), e = .returned (.int .i64 x) ∧ 0 ≤ x ∧ x ≤ m - 1 ∧ k' ≤ k + 2 ∧ Src w' g v k' s' ∧ Below B w w' ∧ KeepB g w w' := by
  by_cases h2 : m ≤ 200
  · exact (pick_small B w g n v k s m hs hv hg hk hl hm h2).mono (fun e w' ⟨x, s', h0, h1, h2, h3, h4, h5⟩ => ⟨x, s', k + 1, h0, h1, h2, by omega, h3, h4, h5⟩)
  · have C := Lib.hid (fun (w : World) (k : Nat) (s : Int) (h1 : Src w g v k s) (h2 : Bs B w v n) (h3 : k ≤ 2000000) => nextk_any B w g n v k s h1 h2 hg h3 hl)
    have HS := Lib.hid hs
    have HV := Lib.hid hv
    clear hs hv
    go_enter Tryd.func45, Tryd.ntmps45
    go_wp2_with fail
    refine (C.out w k s HS.out HV.out (by omega)).mono ?_
    rintro e w1 ⟨x, s1, rfl, x0, x1, S1, b1, k1⟩
    have HS1 := Lib.hid S1
    have HB1 := Lib.hid b1
    have HK1 := Lib.hid k1
    clear S1 b1 k1
    go_wp2_with fail
    refine (C.out w1 (k + 1) s1 HS1.out (HV.out.below HB1.out) (by omega)).mono ?_
    rintro e w2 ⟨y, s2, rfl, y0, y1, S2, b2, k2⟩
    have HS2 := Lib.hid S2
    have HB2 := Lib.hid (HB1.out.trans b2)
    have HK2 := Lib.hid (HK1.out.trans k2)
    clear S2 b2 k2
    have t0 := Int.emod_nonneg (x * 256 + y) (b := m) (by omega)
    have t1 := Int.emod_lt_of_pos (x * 256 + y) (b := m) (by omega)
    go_wp2_with fail
    go_ret
    exact ⟨_, _, k + 1 + 1, rfl, t0, by omega, by omega, HS2.out, HB2.out, HK2.out⟩
/-- what a step of a drawn layer leaves: the source, the layer's block and the result's block -/
def DSt (B g n : Nat) (v : Value) (w0 : World) (q : Nat) (y : Lay) (k0 : Nat) (w : World) : Prop :=
  ∃ (k : Nat) (s : Int), k ≤ k0 ∧ Src w g v k s ∧ Bs B w v n ∧ Below B w0 w ∧ KeepB g w0 w ∧
    Whole w q 27 #[.int .i64 y.fo, .int .i64 y.ic, .int .i64 y.wa, .int .i64 y.de, .int .i64 y.dg, .int .i64 y.ha, .int .i64 y.ag] ∧
    Whole w w0.heap.size 27 #[.int .i64 0, .int .i64 0, .int .i64 0, .int .i64 0, .int .i64 0, .int .i64 0, .int .i64 0]
theorem DSt.put {B g n : Nat} {v : Value} {w0 w : World} {q : Nat} {y : Lay} {k0 : Nat} (h : DSt B g n v w0 q y k0 w) (hB : B ≤ g) (hg : g < w0.heap.size) (hq : w0.heap.size < q) (i : Nat) (z : Int) (y' : Lay)
    (hy : #[Value.int .i64 y.fo, .int .i64 y.ic, .int .i64 y.wa, .int .i64 y.de, .int .i64 y.dg, .int .i64 y.ha, .int .i64 y.ag].setIfInBounds i (.int .i64 z) = #[Value.int .i64 y'.fo, .int .i64 y'.ic, .int .i64 y'.wa, .int .i64 y'.de, .int .i64 y'.dg, .int .i64 y'.ha, .int .i64 y'.ag]) :
    DSt B g n v w0 q y' k0 (w.setCell ⟨q, i, none⟩ (.int .i64 z)) := by
  obtain ⟨k, s, h1, h2, h3, h4, h5, h6, h7⟩ := h
  refine ⟨k, s, h1, src_set h2 (by omega) _ _, h3.below ((Below.refl _ _).setCell (p := ⟨q, i, none⟩) (by show B ≤ q; omega) _), h4.setCell (p := ⟨q, i, none⟩) (by show B ≤ q; omega) _, h5.far (by omega) _ _, ?_, ?_⟩
  · have := h6.put i (.int .i64 z)
    rwa [hy] at this
  · exact (Below.heap_setCell w ⟨q, i, none⟩ _ w0.heap.size (by show w0.heap.size ≠ q; omega)).trans h7
theorem DSt.step {B g n : Nat} {v : Value} {w0 w w' : World} {q : Nat} {y : Lay} {k0 k1 : Nat} {k' : Nat} {s' : Int} (h : DSt B g n v w0 q y k0 w) (hB : B ≤ g) (hg : g < w0.heap.size) (hq : w0.heap.size < q) (hk : k' ≤ k1) (hs : Src w' g v k' s') (hb : Below B w w') (hkb : KeepB g w w') : DSt B g n v w0 q y k1 w' := by
  obtain ⟨k, s, h1, h2, h3, h4, h5, h6, h7⟩ := h
  exact ⟨k', s', hk, hs, h3.below hb, h4.trans hb, h5.trans hkb, h6.keep hkb (by omega), h7.keep hkb (by omega)⟩
theorem DSt.alloc {B g n : Nat} {v : Value} {w0 w : World} {q : Nat} {y : Lay} {k0 : Nat} (h : DSt B g n v w0 q y k0 w) (hB : B ≤ g) (hg : g < w0.heap.size) (o : Obj) : DSt B g n v w0 q y k0 (w.alloc o) := by
  obtain ⟨k, s, h1, h2, h3, h4, h5, h6, h7⟩ := h
  have hsz : B ≤ w.heap.size := by have := h2.lt; omega
  exact ⟨k, s, h1, src_alloc h2 o, h3.below ((Below.refl _ _).alloc hsz o), h4.alloc hsz o, h5.alloc o, h6.alloc o, h7.alloc o⟩
/-- one choice by a step -/
theorem DSt.pick {B g n : Nat} {v : Value} {w0 w : World} {q : Nat} {y : Lay} {k0 : Nat} (h : DSt B g n v w0 q y k0 w) (hB : B ≤ g) (hg : g < w0.heap.size) (hq : w0.heap.size < q) (hk : k0 ≤ 1000000) (hl : n ≤ 1048576) (m : Int) (hm : 1 < m) (hm2 : m ≤ 60000) :
    Calls Tryd.prog 45 #[.pointer (some ⟨g, 0, none⟩), .int .i64 m] w fun e w' => ∃ x : Int, e = .returned (.int .i64 x) ∧ 0 ≤ x ∧ x ≤ m - 1 ∧ DSt B g n v w0 q y (k0 + 2) w' := by
  have h' := h
  obtain ⟨k, s, h1, h2, h3, h4, h5, h6, h7⟩ := h'
  refine (pick_k B w g n v k s m h2 h3 hB (by omega) hl hm hm2).mono ?_
  rintro e w' ⟨x, s', k', rfl, x0, x1, hk', hs, hb, hkb⟩
  exact ⟨x, rfl, x0, x1, h.step hB hg hq (by omega) hs hb hkb⟩
theorem DSt.among {B g n : Nat} {v : Value} {w0 w : World} {q : Nat} {y : Lay} {k0 : Nat} (h : DSt B g n v w0 q y k0 w) (hB : B ≤ g) (hg : g < w0.heap.size) (hq : w0.heap.size < q) (hk : k0 ≤ 1000000) (hl : n ≤ 1048576) (zs : List Int) (h1 : 1 < zs.length) (h2 : zs.length ≤ 200) (t : TypeId) :
    Calls Tryd.prog 68 #[.pointer (some ⟨g, 0, none⟩), .slice (some ⟨w.heap.size, 0, none⟩) zs.length zs.length] (w.alloc (.cells (iv zs).toArray t)) fun e w' => ∃ x : Int, e = .returned (.int .i64 x) ∧ x ∈ zs ∧ DSt B g n v w0 q y (k0 + 1) w' := by
  have hA := h.alloc hB hg (.cells (iv zs).toArray t)
  have h' := hA
  obtain ⟨k, s, e1, e2, e3, e4, e5, e6, e7⟩ := h'
  have hgw : g < w.heap.size := by obtain ⟨k, s, _, a, _⟩ := h; exact a.lt
  refine (among_any B _ g n v k s w.heap.size zs.length zs e2 e3 hB (by omega) hl h1 h2 (by rw [alloc_size8]; omega) (by omega) (new_cells w t zs)).mono ?_
  rintro e w' ⟨x, s', rfl, hx, hs, hb, hkb⟩
  exact ⟨x, rfl, hx, hA.step hB hg hq (by omega) hs hb hkb⟩
/-- the cells of the layer's block and that they may be written -/
theorem DSt.cells {B g n : Nat} {v : Value} {w0 w : World} {q : Nat} {y : Lay} {k0 : Nat} (h : DSt B g n v w0 q y k0 w) (i : Nat) (hi : i < 7) : (∃ u, w.cell? ⟨q, i, none⟩ = some u) ∧ w.frozen? ⟨q, i, none⟩ = false := by
  obtain ⟨k, s, h1, h2, h3, h4, h5, h6, h7⟩ := h
  exact ⟨⟨_, (h6.at_ i).trans (Array.getElem?_eq_getElem (by simpa using hi))⟩, h6.free i⟩
theorem DSt.lt {B g n : Nat} {v : Value} {w0 w : World} {q : Nat} {y : Lay} {k0 : Nat} (h : DSt B g n v w0 q y k0 w) : q < w.heap.size ∧ g < w.heap.size := by
  obtain ⟨k, s, h1, h2, h3, h4, h5, h6, h7⟩ := h
  exact ⟨h6.lt, h2.lt⟩
set_option maxHeartbeats 6400000 in
theorem drawOne_any (B : Nat) (w : World) (g n : Nat) (v : Value) (k : Nat) (s : Int) (hs : Src w g v k s) (hv : Bs B w v n) (hg : B ≤ g) (hk : k ≤ 900000) (hl : n ≤ 1048576) :
    Calls Tryd.prog 46 #[.pointer (some ⟨g, 0, none⟩)] w fun e w' => ∃ (x : Lay) (s' : Int) (k' : Nat), e = .returned (.agg #[.int .i64 x.fo, .int .i64 x.ic, .int .i64 x.wa, .int .i64 x.de, .int .i64 x.dg, .int .i64 x.ha, .int .i64 x.ag]) ∧ La.Fits x ∧ k' ≤ k + 20 ∧ Src w' g v k' s' ∧ Below B w w' ∧ KeepB g w w' := by
  have hgw := hs.lt
  have hBw : B ≤ w.heap.size := by omega
  have hrg : w.heap.size ≠ g := by omega
  have HS := Lib.hid hs
  have HV := Lib.hid hv
  clear hs hv
  go_enter Tryd.func46, Tryd.ntmps46
  go_wp2_with fail
  refine (pick_k B (w.alloc (.cells #[.int .i64 0, .int .i64 0, .int .i64 0, .int .i64 0, .int .i64 0, .int .i64 0, .int .i64 0] 27)) g n v k s 6 (src_alloc HS.out _) (HV.out.below ((Below.refl _ _).alloc hBw _)) hg (by omega) hl (by omega) (by omega)).mono ?_
  rintro e w1 ⟨p, s1, k1, rfl, p0, p1, hk1, S1, b1, kb1⟩
  have D1 : Hid (DSt B g n v w w1.heap.size (⟨1 + p, 0, 0, 0, 0, 0, 0⟩ : Lay) (k + 2) (w1.alloc (.cells #[.int .i64 (1 + p), .int .i64 0, .int .i64 0, .int .i64 0, .int .i64 0, .int .i64 0, .int .i64 0] 27))) := Lib.hid (by
    have hsz : B ≤ w1.heap.size := by have := S1.lt; omega
    have hb := ((Below.refl B w).alloc hBw (.cells #[.int .i64 0, .int .i64 0, .int .i64 0, .int .i64 0, .int .i64 0, .int .i64 0, .int .i64 0] 27)).trans b1
    exact ⟨k1, s1, hk1, src_alloc S1 _, (HV.out.below hb).below ((Below.refl _ _).alloc hsz _), hb.alloc hsz _, (KeepB.alloc ((KeepB.alloc (KeepB.refl g w) (.cells #[.int .i64 0, .int .i64 0, .int .i64 0, .int .i64 0, .int .i64 0, .int .i64 0, .int .i64 0] 27)).trans kb1) _), Whole.new _ _ _, ((Whole.new w _ _).keep kb1 (by omega)).alloc _⟩)
  have hq1 : w.heap.size < w1.heap.size := by have := kb1.1; simp at this; omega
  clear S1 b1 kb1 hk1
  skip
  go_wp2_with fail
  generalize hq : w1.heap.size = q at *
  generalize w1.alloc (.cells #[.int .i64 (1 + p), .int .i64 0, .int .i64 0, .int .i64 0, .int .i64 0, .int .i64 0, .int .i64 0] 27) = W1 at *
  refine (D1.out.pick hg hgw hq1 (by omega) hl 120 (by omega) (by omega)).mono ?_
  rintro e wic ⟨ic, rfl, ic0, ic1, dic⟩
  obtain ⟨⟨uic, cic⟩, fzic⟩ := dic.cells 1 (by omega)
  have Eic := Lib.hid (dic.put hg hgw hq1 1 (1000 + 500 * ic) (⟨1 + p, 1000 + 500 * ic, 0, 0, 0, 0, 0⟩ : Lay) rfl)
  clear dic
  go_wp2_with fail
  have hsz : (wic.setCell ⟨q, 1, none⟩ (.int .i64 (1000 + 500 * ic))).heap.size = wic.heap.size := by simp [World.setCell]
  generalize wic.setCell ⟨q, 1, none⟩ (.int .i64 (1000 + 500 * ic)) = W2 at *
  rw [← hsz]
  refine (Eic.out.among hg hgw hq1 (by omega) hl [0, 0, 0, 100, 700, 3000] (by decide) (by decide) 2).mono ?_
  rintro e wwa ⟨wa, rfl, hwa, dwa⟩
  have hwa2 : 0 ≤ wa ∧ wa ≤ 3000 := by simp only [List.mem_cons, List.not_mem_nil, or_false] at hwa; omega
  obtain ⟨wa0, wa1⟩ := hwa2
  obtain ⟨⟨uwa, cwa⟩, fzwa⟩ := dwa.cells 2 (by omega)
  have Ewa := Lib.hid (dwa.put hg hgw hq1 2 wa (⟨1 + p, 1000 + 500 * ic, wa, 0, 0, 0, 0⟩ : Lay) rfl)
  clear dwa hwa
  go_wp2_with fail
  generalize wwa.setCell ⟨q, 2, none⟩ (.int .i64 wa) = W3 at *
  refine (Ewa.out.pick hg hgw hq1 (by omega) hl 40 (by omega) (by omega)).mono ?_
  rintro e wde ⟨de, rfl, de0, de1, dde⟩
  obtain ⟨⟨ude, cde⟩, fzde⟩ := dde.cells 3 (by omega)
  have Ede := Lib.hid (dde.put hg hgw hq1 3 (60 + 10 * de) (⟨1 + p, 1000 + 500 * ic, wa, 60 + 10 * de, 0, 0, 0⟩ : Lay) rfl)
  clear dde
  go_wp2_with fail
  generalize wde.setCell ⟨q, 3, none⟩ (.int .i64 (60 + 10 * de)) = W4 at *
  refine (Ede.out.pick hg hgw hq1 (by omega) hl 30 (by omega) (by omega)).mono ?_
  rintro e wdg ⟨dg, rfl, dg0, dg1, ddg⟩
  obtain ⟨⟨udg, cdg⟩, fzdg⟩ := ddg.cells 4 (by omega)
  have cc2' : wdg.cell? ⟨q, 2, none⟩ = some (.int .i64 wa) := by obtain ⟨k, s, h1, h2, h3, h4, h5, h6, h7⟩ := ddg; exact h6.at_ 2
  have Edg := Lib.hid (ddg.put hg hgw hq1 4 (-50 * dg) (⟨1 + p, 1000 + 500 * ic, wa, 60 + 10 * de, -50 * dg, 0, 0⟩ : Lay) rfl)
  clear ddg
  by_cases hw : 0 < wa
  · have E7 := Lib.hid (Edg.out.put hg hgw hq1 4 0 (⟨1 + p, 1000 + 500 * ic, wa, 60 + 10 * de, 0, 0, 0⟩ : Lay) rfl)
    go_wp2_with fail
    generalize (wdg.setCell ⟨q, 4, none⟩ (.int .i64 (-50 * dg))).setCell ⟨q, 4, none⟩ (.int .i64 0) = W5 at *
    refine (E7.out.pick hg hgw hq1 (by omega) hl 6 (by omega) (by omega)).mono ?_
    rintro e wha ⟨ha, rfl, ha0, ha1, dha⟩
    obtain ⟨⟨uha, cha⟩, fzha⟩ := dha.cells 5 (by omega)
    have Eha := Lib.hid (dha.put hg hgw hq1 5 (1 + ha) (⟨1 + p, 1000 + 500 * ic, wa, 60 + 10 * de, 0, 1 + ha, 0⟩ : Lay) rfl)
    clear dha
    go_wp2_with fail
    generalize wha.setCell ⟨q, 5, none⟩ (.int .i64 (1 + ha)) = W6 at *
    refine (Eha.out.pick hg hgw hq1 (by omega) hl 400 (by omega) (by omega)).mono ?_
    rintro e wag ⟨ag, rfl, ag0, ag1, dag⟩
    have Eag := Lib.hid (dag.put hg hgw hq1 6 ag (⟨1 + p, 1000 + 500 * ic, wa, 60 + 10 * de, 0, 1 + ha, ag⟩ : Lay) rfl)
    obtain ⟨kz, sz, z1, z2, z3, z4, z5, z6, z7⟩ := dag
    obtain ⟨e0, e1, e2, e3, e4, e5, e6⟩ := z6.seven
    have fq6 := z6.free 6
    obtain ⟨r0, r1, r2, r3, r4, r5, r6⟩ := z7.seven
    have fr0 := z7.free 0
    have fr1 := z7.free 1
    have fr2 := z7.free 2
    have fr3 := z7.free 3
    have fr4 := z7.free 4
    have fr5 := z7.free 5
    have fr6 := z7.free 6
    have hne : ¬ w.heap.size = q := by omega
    have hne2 : ¬ q = w.heap.size := by omega
    clear z1 z2 z3 z4 z5 z6 z7
    obtain ⟨kz, sz, z1, z2, z3, z4, z5, z6, z7⟩ := Eag.out
    have HP := Lib.hid (zero_put z7 (⟨1 + p, 1000 + 500 * ic, wa, 60 + 10 * de, 0, 1 + ha, ag⟩ : Lay))
    have FIN : Hid (∃ (x : Lay) (s' : Int) (k' : Nat), Ending.returned (.agg #[.int .i64 (⟨1 + p, 1000 + 500 * ic, wa, 60 + 10 * de, 0, 1 + ha, ag⟩ : Lay).fo, .int .i64 (⟨1 + p, 1000 + 500 * ic, wa, 60 + 10 * de, 0, 1 + ha, ag⟩ : Lay).ic, .int .i64 (⟨1 + p, 1000 + 500 * ic, wa, 60 + 10 * de, 0, 1 + ha, ag⟩ : Lay).wa, .int .i64 (⟨1 + p, 1000 + 500 * ic, wa, 60 + 10 * de, 0, 1 + ha, ag⟩ : Lay).de, .int .i64 (⟨1 + p, 1000 + 500 * ic, wa, 60 + 10 * de, 0, 1 + ha, ag⟩ : Lay).dg, .int .i64 (⟨1 + p, 1000 + 500 * ic, wa, 60 + 10 * de, 0, 1 + ha, ag⟩ : Lay).ha, .int .i64 (⟨1 + p, 1000 + 500 * ic, wa, 60 + 10 * de, 0, 1 + ha, ag⟩ : Lay).ag]) = .returned (.agg #[.int .i64 x.fo, .int .i64 x.ic, .int .i64 x.wa, .int .i64 x.de, .int .i64 x.dg, .int .i64 x.ha, .int .i64 x.ag]) ∧ La.Fits x ∧ k' ≤ k + 20 ∧ Src ((((((((wag.setCell ⟨q, 6, none⟩ (.int .i64 ag)).setCell ⟨w.heap.size, 0, none⟩ (.int .i64 (1 + p))).setCell ⟨w.heap.size, 1, none⟩ (.int .i64 (1000 + 500 * ic))).setCell ⟨w.heap.size, 2, none⟩ (.int .i64 (wa))).setCell ⟨w.heap.size, 3, none⟩ (.int .i64 (60 + 10 * de))).setCell ⟨w.heap.size, 4, none⟩ (.int .i64 (0))).setCell ⟨w.heap.size, 5, none⟩ (.int .i64 (1 + ha))).setCell ⟨w.heap.size, 6, none⟩ (.int .i64 (ag))) g v k' s' ∧ Below B w ((((((((wag.setCell ⟨q, 6, none⟩ (.int .i64 ag)).setCell ⟨w.heap.size, 0, none⟩ (.int .i64 (1 + p))).setCell ⟨w.heap.size, 1, none⟩ (.int .i64 (1000 + 500 * ic))).setCell ⟨w.heap.size, 2, none⟩ (.int .i64 (wa))).setCell ⟨w.heap.size, 3, none⟩ (.int .i64 (60 + 10 * de))).setCell ⟨w.heap.size, 4, none⟩ (.int .i64 (0))).setCell ⟨w.heap.size, 5, none⟩ (.int .i64 (1 + ha))).setCell ⟨w.heap.size, 6, none⟩ (.int .i64 (ag))) ∧ KeepB g w ((((((((wag.setCell ⟨q, 6, none⟩ (.int .i64 ag)).setCell ⟨w.heap.size, 0, none⟩ (.int .i64 (1 + p))).setCell ⟨w.heap.size, 1, none⟩ (.int .i64 (1000 + 500 * ic))).setCell ⟨w.heap.size, 2, none⟩ (.int .i64 (wa))).setCell ⟨w.heap.size, 3, none⟩ (.int .i64 (60 + 10 * de))).setCell ⟨w.heap.size, 4, none⟩ (.int .i64 (0))).setCell ⟨w.heap.size, 5, none⟩ (.int .i64 (1 + ha))).setCell ⟨w.heap.size, 6, none⟩ (.int .i64 (ag)))) := Lib.hid ⟨(⟨1 + p, 1000 + 500 * ic, wa, 60 + 10 * de, 0, 1 + ha, ag⟩ : Lay), sz, kz, rfl, ⟨by show 1 ≤ 1 + p; omega, by show 1 + p ≤ 6; omega, by show 1 ≤ 1000 + 500 * ic; omega, by show 1000 + 500 * ic ≤ 1000000; omega, by show 0 ≤ wa; omega, by show wa ≤ 1000000; omega, by show 30 ≤ 60 + 10 * de; omega, by show 60 + 10 * de ≤ 900; omega, by show -4000 ≤ 0; omega, by show 0 ≤ 0; omega, by show 1 ≤ 1 + ha; omega, by show 1 + ha ≤ 6; omega, by show 0 ≤ ag; omega, by show ag ≤ 10000; omega⟩, by omega, src_set (src_set (src_set (src_set (src_set (src_set (src_set z2 hrg 0 (.int .i64 (1 + p))) hrg 1 (.int .i64 (1000 + 500 * ic))) hrg 2 (.int .i64 (wa))) hrg 3 (.int .i64 (60 + 10 * de))) hrg 4 (.int .i64 (0))) hrg 5 (.int .i64 (1 + ha))) hrg 6 (.int .i64 (ag)), ((((((z4.setCell (p := ⟨w.heap.size, 0, none⟩) hBw _).setCell (p := ⟨w.heap.size, 1, none⟩) hBw _).setCell (p := ⟨w.heap.size, 2, none⟩) hBw _).setCell (p := ⟨w.heap.size, 3, none⟩) hBw _).setCell (p := ⟨w.heap.size, 4, none⟩) hBw _).setCell (p := ⟨w.heap.size, 5, none⟩) hBw _).setCell (p := ⟨w.heap.size, 6, none⟩) hBw _, ((((((z5.far (Nat.le_refl _) 0 _).far (Nat.le_refl _) 1 _).far (Nat.le_refl _) 2 _).far (Nat.le_refl _) 3 _).far (Nat.le_refl _) 4 _).far (Nat.le_refl _) 5 _).far (Nat.le_refl _) 6 _⟩
    clear z1 z2 z3 z4 z5 z6 z7
    go_wp2_with fail
    obtain ⟨d0, d1, d2, d3, d4, d5, d6⟩ := HP.out.seven
    exact bodyPost_ret (v := .agg #[.int .i64 (⟨1 + p, 1000 + 500 * ic, wa, 60 + 10 * de, 0, 1 + ha, ag⟩ : Lay).fo, .int .i64 (⟨1 + p, 1000 + 500 * ic, wa, 60 + 10 * de, 0, 1 + ha, ag⟩ : Lay).ic, .int .i64 (⟨1 + p, 1000 + 500 * ic, wa, 60 + 10 * de, 0, 1 + ha, ag⟩ : Lay).wa, .int .i64 (⟨1 + p, 1000 + 500 * ic, wa, 60 + 10 * de, 0, 1 + ha, ag⟩ : Lay).de, .int .i64 (⟨1 + p, 1000 + 500 * ic, wa, 60 + 10 * de, 0, 1 + ha, ag⟩ : Lay).dg, .int .i64 (⟨1 + p, 1000 + 500 * ic, wa, 60 + 10 * de, 0, 1 + ha, ag⟩ : Lay).ha, .int .i64 (⟨1 + p, 1000 + 500 * ic, wa, 60 + 10 * de, 0, 1 + ha, ag⟩ : Lay).ag]) (by simp [results, Tryd.results46, go_sem, d0, d1, d2, d3, d4, d5, d6]) rfl FIN.out
  · skip
    go_wp2_with fail
    generalize wdg.setCell ⟨q, 4, none⟩ (.int .i64 (-50 * dg)) = W5 at *
    refine (Edg.out.pick hg hgw hq1 (by omega) hl 6 (by omega) (by omega)).mono ?_
    rintro e wha ⟨ha, rfl, ha0, ha1, dha⟩
    obtain ⟨⟨uha, cha⟩, fzha⟩ := dha.cells 5 (by omega)
    have Eha := Lib.hid (dha.put hg hgw hq1 5 (1 + ha) (⟨1 + p, 1000 + 500 * ic, wa, 60 + 10 * de, -50 * dg, 1 + ha, 0⟩ : Lay) rfl)
    clear dha
    go_wp2_with fail
    generalize wha.setCell ⟨q, 5, none⟩ (.int .i64 (1 + ha)) = W6 at *
    refine (Eha.out.pick hg hgw hq1 (by omega) hl 400 (by omega) (by omega)).mono ?_
    rintro e wag ⟨ag, rfl, ag0, ag1, dag⟩
    have Eag := Lib.hid (dag.put hg hgw hq1 6 ag (⟨1 + p, 1000 + 500 * ic, wa, 60 + 10 * de, -50 * dg, 1 + ha, ag⟩ : Lay) rfl)
    obtain ⟨kz, sz, z1, z2, z3, z4, z5, z6, z7⟩ := dag
    obtain ⟨e0, e1, e2, e3, e4, e5, e6⟩ := z6.seven
    have fq6 := z6.free 6
    obtain ⟨r0, r1, r2, r3, r4, r5, r6⟩ := z7.seven
    have fr0 := z7.free 0
    have fr1 := z7.free 1
    have fr2 := z7.free 2
    have fr3 := z7.free 3
    have fr4 := z7.free 4
    have fr5 := z7.free 5
    have fr6 := z7.free 6
    have hne : ¬ w.heap.size = q := by omega
    have hne2 : ¬ q = w.heap.size := by omega
    clear z1 z2 z3 z4 z5 z6 z7
    obtain ⟨kz, sz, z1, z2, z3, z4, z5, z6, z7⟩ := Eag.out
    have HP := Lib.hid (zero_put z7 (⟨1 + p, 1000 + 500 * ic, wa, 60 + 10 * de, -50 * dg, 1 + ha, ag⟩ : Lay))
    have FIN : Hid (∃ (x : Lay) (s' : Int) (k' : Nat), Ending.returned (.agg #[.int .i64 (⟨1 + p, 1000 + 500 * ic, wa, 60 + 10 * de, -50 * dg, 1 + ha, ag⟩ : Lay).fo, .int .i64 (⟨1 + p, 1000 + 500 * ic, wa, 60 + 10 * de, -50 * dg, 1 + ha, ag⟩ : Lay).ic, .int .i64 (⟨1 + p, 1000 + 500 * ic, wa, 60 + 10 * de, -50 * dg, 1 + ha, ag⟩ : Lay).wa, .int .i64 (⟨1 + p, 1000 + 500 * ic, wa, 60 + 10 * de, -50 * dg, 1 + ha, ag⟩ : Lay).de, .int .i64 (⟨1 + p, 1000 + 500 * ic, wa, 60 + 10 * de, -50 * dg, 1 + ha, ag⟩ : Lay).dg, .int .i64 (⟨1 + p, 1000 + 500 * ic, wa, 60 + 10 * de, -50 * dg, 1 + ha, ag⟩ : Lay).ha, .int .i64 (⟨1 + p, 1000 + 500 * ic, wa, 60 + 10 * de, -50 * dg, 1 + ha, ag⟩ : Lay).ag]) = .returned (.agg #[.int .i64 x.fo, .int .i64 x.ic, .int .i64 x.wa, .int .i64 x.de, .int .i64 x.dg, .int .i64 x.ha, .int .i64 x.ag]) ∧ La.Fits x ∧ k' ≤ k + 20 ∧ Src ((((((((wag.setCell ⟨q, 6, none⟩ (.int .i64 ag)).setCell ⟨w.heap.size, 0, none⟩ (.int .i64 (1 + p))).setCell ⟨w.heap.size, 1, none⟩ (.int .i64 (1000 + 500 * ic))).setCell ⟨w.heap.size, 2, none⟩ (.int .i64 (wa))).setCell ⟨w.heap.size, 3, none⟩ (.int .i64 (60 + 10 * de))).setCell ⟨w.heap.size, 4, none⟩ (.int .i64 (-50 * dg))).setCell ⟨w.heap.size, 5, none⟩ (.int .i64 (1 + ha))).setCell ⟨w.heap.size, 6, none⟩ (.int .i64 (ag))) g v k' s' ∧ Below B w ((((((((wag.setCell ⟨q, 6, none⟩ (.int .i64 ag)).setCell ⟨w.heap.size, 0, none⟩ (.int .i64 (1 + p))).setCell ⟨w.heap.size, 1, none⟩ (.int .i64 (1000 + 500 * ic))).setCell ⟨w.heap.size, 2, none⟩ (.int .i64 (wa))).setCell ⟨w.heap.size, 3, none⟩ (.int .i64 (60 + 10 * de))).setCell ⟨w.heap.size, 4, none⟩ (.int .i64 (-50 * dg))).setCell ⟨w.heap.size, 5, none⟩ (.int .i64 (1 + ha))).setCell ⟨w.heap.size, 6, none⟩ (.int .i64 (ag))) ∧ KeepB g w ((((((((wag.setCell ⟨q, 6, none⟩ (.int .i64 ag)).setCell ⟨w.heap.size, 0, none⟩ (.int .i64 (1 + p))).setCell ⟨w.heap.size, 1, none⟩ (.int .i64 (1000 + 500 * ic))).setCell ⟨w.heap.size, 2, none⟩ (.int .i64 (wa))).setCell ⟨w.heap.size, 3, none⟩ (.int .i64 (60 + 10 * de))).setCell ⟨w.heap.size, 4, none⟩ (.int .i64 (-50 * dg))).setCell ⟨w.heap.size, 5, none⟩ (.int .i64 (1 + ha))).setCell ⟨w.heap.size, 6, none⟩ (.int .i64 (ag)))) := Lib.hid ⟨(⟨1 + p, 1000 + 500 * ic, wa, 60 + 10 * de, -50 * dg, 1 + ha, ag⟩ : Lay), sz, kz, rfl, ⟨by show 1 ≤ 1 + p; omega, by show 1 + p ≤ 6; omega, by show 1 ≤ 1000 + 500 * ic; omega, by show 1000 + 500 * ic ≤ 1000000; omega, by show 0 ≤ wa; omega, by show wa ≤ 1000000; omega, by show 30 ≤ 60 + 10 * de; omega, by show 60 + 10 * de ≤ 900; omega, by show -4000 ≤ -50 * dg; omega, by show -50 * dg ≤ 0; omega, by show 1 ≤ 1 + ha; omega, by show 1 + ha ≤ 6; omega, by show 0 ≤ ag; omega, by show ag ≤ 10000; omega⟩, by omega, src_set (src_set (src_set (src_set (src_set (src_set (src_set z2 hrg 0 (.int .i64 (1 + p))) hrg 1 (.int .i64 (1000 + 500 * ic))) hrg 2 (.int .i64 (wa))) hrg 3 (.int .i64 (60 + 10 * de))) hrg 4 (.int .i64 (-50 * dg))) hrg 5 (.int .i64 (1 + ha))) hrg 6 (.int .i64 (ag)), ((((((z4.setCell (p := ⟨w.heap.size, 0, none⟩) hBw _).setCell (p := ⟨w.heap.size, 1, none⟩) hBw _).setCell (p := ⟨w.heap.size, 2, none⟩) hBw _).setCell (p := ⟨w.heap.size, 3, none⟩) hBw _).setCell (p := ⟨w.heap.size, 4, none⟩) hBw _).setCell (p := ⟨w.heap.size, 5, none⟩) hBw _).setCell (p := ⟨w.heap.size, 6, none⟩) hBw _, ((((((z5.far (Nat.le_refl _) 0 _).far (Nat.le_refl _) 1 _).far (Nat.le_refl _) 2 _).far (Nat.le_refl _) 3 _).far (Nat.le_refl _) 4 _).far (Nat.le_refl _) 5 _).far (Nat.le_refl _) 6 _⟩
    clear z1 z2 z3 z4 z5 z6 z7
    go_wp2_with fail
    obtain ⟨d0, d1, d2, d3, d4, d5, d6⟩ := HP.out.seven
    exact bodyPost_ret (v := .agg #[.int .i64 (⟨1 + p, 1000 + 500 * ic, wa, 60 + 10 * de, -50 * dg, 1 + ha, ag⟩ : Lay).fo, .int .i64 (⟨1 + p, 1000 + 500 * ic, wa, 60 + 10 * de, -50 * dg, 1 + ha, ag⟩ : Lay).ic, .int .i64 (⟨1 + p, 1000 + 500 * ic, wa, 60 + 10 * de, -50 * dg, 1 + ha, ag⟩ : Lay).wa, .int .i64 (⟨1 + p, 1000 + 500 * ic, wa, 60 + 10 * de, -50 * dg, 1 + ha, ag⟩ : Lay).de, .int .i64 (⟨1 + p, 1000 + 500 * ic, wa, 60 + 10 * de, -50 * dg, 1 + ha, ag⟩ : Lay).dg, .int .i64 (⟨1 + p, 1000 + 500 * ic, wa, 60 + 10 * de, -50 * dg, 1 + ha, ag⟩ : Lay).ha, .int .i64 (⟨1 + p, 1000 + 500 * ic, wa, 60 + 10 * de, -50 * dg, 1 + ha, ag⟩ : Lay).ag]) (by simp [results, Tryd.results46, go_sem, d0, d1, d2, d3, d4, d5, d6]) rfl FIN.out
end Go.Proofs.YtfbfdiejffjbmaaDoor
