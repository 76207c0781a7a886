/-
  What a step of a draw leaves, for the draws of every law; choices among more than 200. No condition but the bytes' number.
-/
import Derived.Test.YtmieckchppfogaaGreatDoorDraw
import Derived.Test.YtmieckchppfogaaGreatDoorGen
import Derived.Shelf.Abstract
import Derived.WalkKit
import Derived.WalkLawsBesides
namespace Go.Proofs.YtmieckchppfogaaGreatDoor
open Go.RowKit Go.Shelf
set_option linter.unusedVariables false
set_option maxRecDepth 100000

set_option maxHeartbeats 1600000 in
theorem pick_bigk (B : Nat) (w : World) (g n : Nat) (v : Value) (k : Nat) (s m : Int) (hs : Src w g v k s) (hv : Bs B w v n) (hg : B ≤ g) (hk : k ≤ 1000000) (hl : n ≤ 1048576) (hm : 200 < m) (hm2 : m ≤ 60000) :
    Calls Tryz.prog 38 #[.pointer (some ⟨g, 0, none⟩), .int .i64 m] w fun e w' => ∃ x s' : Int, e = .returned (.int .i64 x) ∧ 0 ≤ x ∧ x ≤ m - 1 ∧ Src w' g v ((k + 2 : Nat) : Int) s' ∧ Below B w w' ∧ KeepB g w w' := by
  have C := Lib.hid (fun (w : World) (k : Nat) (s : Int) (h1 : Src w g v k s) (h2 : Bs B w v n) (h3 : k ≤ 2000000) => nextk_any B w g n v k s h1 h2 hg h3 hl)
  have HS := Lib.hid hs
  have HV := Lib.hid hv
  clear hs hv
  go_enter Tryz.func38, Tryz.ntmps38
  go_wp2_with fail
  refine (C.out w k s HS.out HV.out (by omega)).mono ?_
  rintro e w1 ⟨x, s1, rfl, x0, x1, S1, b1, k1⟩
  have HS1 := Lib.hid S1
  have HB1 := Lib.hid b1
  have HK1 := Lib.hid k1
  clear S1 b1 k1
  go_wp2_with fail
  refine (C.out w1 (k + 1) s1 HS1.out (HV.out.below HB1.out) (by omega)).mono ?_
  rintro e w2 ⟨y, s2, rfl, y0, y1, S2, b2, k2⟩
  have HS2 := Lib.hid S2
  have HB2 := Lib.hid (HB1.out.trans b2)
  have HK2 : Hid (KeepB g w w2) := Lib.hid ⟨Nat.le_trans HK1.out.1 k2.1, fun i hi hn => (k2.2 i (Nat.lt_of_lt_of_le hi HK1.out.1) hn).trans (HK1.out.2 i hi hn)⟩
  clear S2 b2 k2
  have t0 := Int.emod_nonneg (x * 256 + y) (b := m) (by omega)
  have t1 := Int.emod_lt_of_pos (x * 256 + y) (b := m) (by omega)
  go_wp2_with fail
  go_ret
  exact ⟨_, _, rfl, t0, by omega, HS2.out, HB2.out, HK2.out⟩
theorem keepB_trans {g : Nat} {a b c : World} (h : KeepB g a b) (k : KeepB g b c) : KeepB g a c := ⟨Nat.le_trans h.1 k.1, fun i hi hn => (k.2 i (Nat.lt_of_lt_of_le hi h.1) hn).trans (h.2 i hi hn)⟩
theorem keepB_alloc {g : Nat} {a b : World} (h : KeepB g a b) (o : Obj) : KeepB g a (b.alloc o) :=
  ⟨Nat.le_trans h.1 (by simp), fun i hi hn => (Below.heap_alloc b o i (Nat.lt_of_lt_of_le hi h.1)).trans (h.2 i hi hn)⟩
theorem keepB_far {g q : Nat} {a b : World} (h : KeepB g a b) (hq : a.heap.size ≤ q) (i : Nat) (u : Value) : KeepB g a (b.setCell ⟨q, i, none⟩ u) :=
  ⟨by simpa [World.setCell] using h.1, fun j hj hn => (Below.heap_setCell b ⟨q, i, none⟩ u j (by show j ≠ q; omega)).trans (h.2 j hj hn)⟩
theorem srcSet {w : World} {g q : Nat} {v : Value} {k s : Int} (h : Src w g v k s) (hq : q ≠ g) (i : Nat) (u : Value) : Src (w.setCell ⟨q, i, none⟩ u) g v k s :=
  (Below.heap_setCell w ⟨q, i, none⟩ u g (by show g ≠ q; omega)).trans h
/-- what a step of a draw leaves -/
def DR (B g n : Nat) (v : Value) (w0 : World) (k0 : Nat) (w : World) : Prop :=
  ∃ (k : Nat) (s : Int), k ≤ k0 ∧ Src w g v k s ∧ Bs B w v n ∧ Below B w0 w ∧ KeepB g w0 w
theorem DR.lt {B g n : Nat} {v : Value} {w0 w : World} {k0 : Nat} (h : DR B g n v w0 k0 w) : g < w.heap.size := by obtain ⟨k, s, h1, h2, -⟩ := h; exact h2.lt
theorem DR.below {B g n : Nat} {v : Value} {w0 w : World} {k0 : Nat} (h : DR B g n v w0 k0 w) : Below B w0 w := by obtain ⟨k, s, h1, h2, h3, h4, h5⟩ := h; exact h4
theorem DR.keep {B g n : Nat} {v : Value} {w0 w : World} {k0 : Nat} (h : DR B g n v w0 k0 w) : KeepB g w0 w := by obtain ⟨k, s, h1, h2, h3, h4, h5⟩ := h; exact h5
theorem DR.base {B g n : Nat} {v : Value} {w0 w : World} {k0 : Nat} (h : DR B g n v w0 k0 w) : DR B g n v w k0 w := by
  obtain ⟨k, s, h1, h2, h3, h4, h5⟩ := h; exact ⟨k, s, h1, h2, h3, Below.refl _ _, KeepB.refl _ _⟩
theorem DR.on {B g n : Nat} {v : Value} {w0 w w' : World} {k0 k1 : Nat} (h : DR B g n v w0 k0 w) (h' : DR B g n v w k1 w') : DR B g n v w0 k1 w' := by
  obtain ⟨k, s, h1, h2, h3, h4, h5⟩ := h'; exact ⟨k, s, h1, h2, h3, h.below.trans h4, keepB_trans h.keep h5⟩
theorem DR.more {B g n : Nat} {v : Value} {w0 w : World} {k0 k1 : Nat} (h : DR B g n v w0 k0 w) (hk : k0 ≤ k1) : DR B g n v w0 k1 w := by
  obtain ⟨k, s, h1, h2, h3, h4, h5⟩ := h; exact ⟨k, s, by omega, h2, h3, h4, h5⟩
theorem DR.alloc {B g n : Nat} {v : Value} {w0 w : World} {k0 : Nat} (h : DR B g n v w0 k0 w) (hB : B ≤ g) (o : Obj) : DR B g n v w0 k0 (w.alloc o) := by
  obtain ⟨k, s, h1, h2, h3, h4, h5⟩ := h
  have hsz : B ≤ w.heap.size := by have := h2.lt; omega
  exact ⟨k, s, h1, src_alloc h2 o, h3.below ((Below.refl _ _).alloc hsz o), h4.alloc hsz o, keepB_alloc h5 o⟩
theorem DR.drewN {B g n : Nat} {v : Value} {w0 w : World} {k0 : Nat} (h : DR B g n v w0 k0 w) (m : Nat) : DR B g n v w0 k0 (w.drewN m) := by
  obtain ⟨k, s, h1, h2, h3, h4, h5⟩ := h
  exact ⟨k, s, h1, h2.drewN m, h3.below (below_drewN (Below.refl _ _) m), below_drewN h4 m, h5.drewN m⟩
theorem DR.far {B g n : Nat} {v : Value} {w0 w : World} {k0 : Nat} (h : DR B g n v w0 k0 w) {q : Nat} (hq : w0.heap.size ≤ q) (hB : B ≤ w0.heap.size) (hg : q ≠ g) (i : Nat) (u : Value) : DR B g n v w0 k0 (w.setCell ⟨q, i, none⟩ u) := by
  obtain ⟨k, s, h1, h2, h3, h4, h5⟩ := h
  exact ⟨k, s, h1, srcSet h2 hg _ _, h3.below ((Below.refl _ _).setCell (p := ⟨q, i, none⟩) (by show B ≤ q; omega) _), h4.setCell (p := ⟨q, i, none⟩) (by show B ≤ q; omega) _, keepB_far h5 hq _ _⟩
theorem DR.pick {B g n : Nat} {v : Value} {w0 w : World} {k0 : Nat} (h : DR B g n v w0 k0 w) (hB : B ≤ g) (hk : k0 ≤ 900100) (hl : n ≤ 1048576) (m : Int) (hm : 1 < m) (hm2 : m ≤ 200) :
    Calls Tryz.prog 38 #[.pointer (some ⟨g, 0, none⟩), .int .i64 m] w fun e w' => ∃ x : Int, e = .returned (.int .i64 x) ∧ 0 ≤ x ∧ x ≤ m - 1 ∧ DR B g n v w0 (k0 + 1) w' ∧ KeepB g w w' := by
  obtain ⟨k, s, h1, h2, h3, h4, h5⟩ := h
  refine (pick_small B w g n v k s m h2 h3 hB (by omega) hl hm hm2).mono ?_
  rintro e w' ⟨x, s', rfl, x0, x1, hs, hb, hk'⟩
  exact ⟨x, rfl, x0, x1, ⟨k + 1, s', by omega, hs, h3.below hb, h4.trans hb, keepB_trans h5 hk'⟩, hk'⟩
theorem DR.one {B g n : Nat} {v : Value} {w0 w : World} {k0 : Nat} (h : DR B g n v w0 k0 w) (hB : B ≤ g) (hk : k0 ≤ 900100) (hl : n ≤ 1048576) (m : Int) (hm : 1 < m) (hm2 : m ≤ 200) :
    Calls Tryz.prog 40 #[.pointer (some ⟨g, 0, none⟩), .int .i64 m] w fun e w' => ∃ b : Bool, e = .returned (.bool b) ∧ DR B g n v w0 (k0 + 1) w' ∧ KeepB g w w' := by
  obtain ⟨k, s, h1, h2, h3, h4, h5⟩ := h
  refine (one_any B w g n v k s m h2 h3 hB (by omega) hl hm hm2).mono ?_
  rintro e w' ⟨x, s', rfl, hs, hb, hk'⟩
  exact ⟨x, rfl, ⟨k + 1, s', by omega, hs, h3.below hb, h4.trans hb, keepB_trans h5 hk'⟩, hk'⟩
theorem DR.among {B g n : Nat} {v : Value} {w0 w : World} {k0 : Nat} (h : DR B g n v w0 k0 w) (hB : B ≤ g) (hk : k0 ≤ 900100) (hl : n ≤ 1048576) (zs : List Int) (h1 : 1 < zs.length) (h2 : zs.length ≤ 200) (t : TypeId) :
    Calls Tryz.prog 39 #[.pointer (some ⟨g, 0, none⟩), .slice (some ⟨w.heap.size, 0, none⟩) zs.length zs.length] (w.alloc (.cells (iv zs).toArray t)) fun e w' => ∃ x : Int, e = .returned (.int .i64 x) ∧ x ∈ zs ∧ DR B g n v w0 (k0 + 1) w' ∧ KeepB g w w' := by
  have hgw := h.lt
  obtain ⟨k, s, e1, e2, e3, e4, e5⟩ := h.alloc hB (.cells (iv zs).toArray t)
  refine (among_any B _ g n v k s w.heap.size zs.length zs e2 e3 hB (by omega) hl h1 h2 (by rw [alloc_size8]; omega) (by omega) (new_cells w t zs)).mono ?_
  rintro e w' ⟨x, s', rfl, hx, hs, hb, hkb⟩
  exact ⟨x, rfl, hx, ⟨k + 1, s', by omega, hs, e3.below hb, e4.trans hb, keepB_trans e5 hkb⟩, keepB_trans (keepB_alloc (KeepB.refl g w) _) hkb⟩
theorem DR.pickB {B g n : Nat} {v : Value} {w0 w : World} {k0 : Nat} (h : DR B g n v w0 k0 w) (hB : B ≤ g) (hk : k0 ≤ 900100) (hl : n ≤ 1048576) (m : Int) (hm : 200 < m) (hm2 : m ≤ 60000) :
    Calls Tryz.prog 38 #[.pointer (some ⟨g, 0, none⟩), .int .i64 m] w fun e w' => ∃ x : Int, e = .returned (.int .i64 x) ∧ 0 ≤ x ∧ x ≤ m - 1 ∧ DR B g n v w0 (k0 + 2) w' ∧ KeepB g w w' := by
  obtain ⟨k, s, h1, h2, h3, h4, h5⟩ := h
  refine (pick_bigk B w g n v k s m h2 h3 hB (by omega) hl hm hm2).mono ?_
  rintro e w' ⟨x, s', rfl, x0, x1, hs, hb, hk'⟩
  exact ⟨x, rfl, x0, x1, ⟨k + 2, s', by omega, hs, h3.below hb, h4.trans hb, keepB_trans h5 hk'⟩, hk'⟩
theorem DR.grown {B g n : Nat} {v : Value} {w0 w w' : World} {k0 : Nat} {row : Option Nat} (h : DR B g n v w0 k0 w) (hg : w.grownBy w' row) (hr : ∀ r, row = some r → w0.heap.size ≤ r) (hB : B ≤ g) (hg0 : g < w0.heap.size) : DR B g n v w0 k0 w' := by
  obtain ⟨k, s, h1, h2, h3, h4, h5⟩ := h
  have hgw := h2.lt
  have hb : Below B w w' := (Below.refl B w).grown hg (by omega) (fun r e => by have := hr r e; omega)
  refine ⟨k, s, h1, ?_, h3.below hb, h4.trans hb, ⟨Nat.le_trans h5.1 hg.size, fun i hi hn => ?_⟩⟩
  · exact (hg.block g hgw (fun e => by have := hr _ e.symm; omega)).trans h2
  · exact (hg.block i (Nat.lt_of_lt_of_le hi h5.1) (fun e => by have := hr _ e.symm; omega)).trans (h5.2 i hi hn)
/-- a row of the call's own is as it was where one other block alone has changed -/
theorem own_keep {B g : Nat} {w w' : World} {u : Value} {zs : List Int} (h : Own B w u zs) (hk : KeepB g w w') (hg : g < B) : Own B w' u zs := by
  refine ⟨h.1, ?_⟩
  rcases h.2 with ⟨rfl, hn⟩ | ⟨b, cap, cur, rfl, hbg, hh, hnc, hcm, hs, ht⟩
  · exact Or.inl ⟨rfl, hn⟩
  · have hb : b < w.heap.size := by
      rcases Nat.lt_or_ge b w.heap.size with h' | h'
      · exact h'
      · rw [Array.getElem?_eq_none h'] at hh; cases hh
    exact Or.inr ⟨b, cap, cur, rfl, hbg, (hk.2 b hb (by omega)).trans hh, hnc, hcm, hs, ht⟩
end Go.Proofs.YtmieckchppfogaaGreatDoor
