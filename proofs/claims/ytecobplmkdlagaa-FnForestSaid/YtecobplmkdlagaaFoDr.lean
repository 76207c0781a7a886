/-
  What the model draws for the law on the forest: a stand with a short name and whatever numbers. No condition but the bytes' number. (Written by wip/gen/genfodr.py.)
-/
import Derived.Test.YtecobplmkdlagaaDraw
import Derived.Test.YtecobplmkdlagaaFoF
namespace Go.Proofs.Ytecobplmkdlagaa
open Go.RowKit Go.Shelf
set_option linter.unusedVariables false
set_option maxRecDepth 100000

theorem StdAt.keep {w w' : World} {q g : Nat} {x : Std} (h : StdAt w q x) (hk : KeepB g w w') (hq : q ≠ g) : StdAt w' q x := (hk.2 q (Whole.lt h) hq).trans h
theorem StdAt.alloc {w : World} {q : Nat} {x : Std} (h : StdAt w q x) (o : Obj) : StdAt (w.alloc o) q x := Whole.alloc h o
theorem StdAt.other {w : World} {q r : Nat} {x : Std} (h : StdAt w q x) (hn : q ≠ r) (i : Nat) (u : Value) : StdAt (w.setCell ⟨r, i, none⟩ u) q x := (Below.heap_setCell w ⟨r, i, none⟩ u q hn).trans h
theorem StdAt.set1 {w : World} {q : Nat} {x : Std} (h : StdAt w q x) (z : Int) : StdAt (w.setCell ⟨q, 1, none⟩ (.int .i64 z)) q ⟨x.id, z, x.he, x.co, x.ga⟩ := by
  have := Whole.put h 1 (.int .i64 z)
  unfold StdAt; simpa using this
theorem StdAt.set2 {w : World} {q : Nat} {x : Std} (h : StdAt w q x) (z : Int) : StdAt (w.setCell ⟨q, 2, none⟩ (.int .i64 z)) q ⟨x.id, x.tr, z, x.co, x.ga⟩ := by
  have := Whole.put h 2 (.int .i64 z)
  unfold StdAt; simpa using this
theorem StdAt.set3 {w : World} {q : Nat} {x : Std} (h : StdAt w q x) (z : Int) : StdAt (w.setCell ⟨q, 3, none⟩ (.int .i64 z)) q ⟨x.id, x.tr, x.he, z, x.ga⟩ := by
  have := Whole.put h 3 (.int .i64 z)
  unfold StdAt; simpa using this
theorem StdAt.set4 {w : World} {q : Nat} {x : Std} (h : StdAt w q x) (z : Int) : StdAt (w.setCell ⟨q, 4, none⟩ (.int .i64 z)) q ⟨x.id, x.tr, x.he, x.co, z⟩ := by
  have := Whole.put h 4 (.int .i64 z)
  unfold StdAt; simpa using this
theorem StdAt.new (w : World) (x : Std) : StdAt (w.alloc (.cells #[.string ⟨x.id.toArray⟩, .int .i64 x.tr, .int .i64 x.he, .int .i64 x.co, .int .i64 x.ga] 34)) w.heap.size x := Whole.new w _ _
theorem keepB_trans {g : Nat} {a b c : World} (h : KeepB g a b) (k : KeepB g b c) : KeepB g a c := ⟨Nat.le_trans h.1 k.1, fun i hi hn => (k.2 i (Nat.lt_of_lt_of_le hi h.1) hn).trans (h.2 i hi hn)⟩
theorem keepB_alloc {g : Nat} {a b : World} (h : KeepB g a b) (o : Obj) : KeepB g a (b.alloc o) :=
  ⟨Nat.le_trans h.1 (by simp), fun i hi hn => (Below.heap_alloc b o i (Nat.lt_of_lt_of_le hi h.1)).trans (h.2 i hi hn)⟩
theorem keepB_far {g q : Nat} {a b : World} (h : KeepB g a b) (hq : a.heap.size ≤ q) (i : Nat) (u : Value) : KeepB g a (b.setCell ⟨q, i, none⟩ u) :=
  ⟨by simpa [World.setCell] using h.1, fun j hj hn => (Below.heap_setCell b ⟨q, i, none⟩ u j (by show j ≠ q; omega)).trans (h.2 j hj hn)⟩
theorem srcSet {w : World} {g q : Nat} {v : Value} {k s : Int} (h : Src w g v k s) (hq : q ≠ g) (i : Nat) (u : Value) : Src (w.setCell ⟨q, i, none⟩ u) g v k s :=
  (Below.heap_setCell w ⟨q, i, none⟩ u g (by show g ≠ q; omega)).trans h
/-- what a step of a draw leaves -/
def DR (B g n : Nat) (v : Value) (w0 : World) (k0 : Nat) (w : World) : Prop :=
  ∃ (k : Nat) (s : Int), k ≤ k0 ∧ Src w g v k s ∧ Bs B w v n ∧ Below B w0 w ∧ KeepB g w0 w
theorem DR.lt {B g n : Nat} {v : Value} {w0 w : World} {k0 : Nat} (h : DR B g n v w0 k0 w) : g < w.heap.size := by obtain ⟨k, s, h1, h2, -⟩ := h; exact h2.lt
theorem DR.below {B g n : Nat} {v : Value} {w0 w : World} {k0 : Nat} (h : DR B g n v w0 k0 w) : Below B w0 w := by obtain ⟨k, s, h1, h2, h3, h4, h5⟩ := h; exact h4
theorem DR.keep {B g n : Nat} {v : Value} {w0 w : World} {k0 : Nat} (h : DR B g n v w0 k0 w) : KeepB g w0 w := by obtain ⟨k, s, h1, h2, h3, h4, h5⟩ := h; exact h5
theorem DR.base {B g n : Nat} {v : Value} {w0 w : World} {k0 : Nat} (h : DR B g n v w0 k0 w) : DR B g n v w k0 w := by
  obtain ⟨k, s, h1, h2, h3, h4, h5⟩ := h; exact ⟨k, s, h1, h2, h3, Below.refl _ _, KeepB.refl _ _⟩
theorem DR.on {B g n : Nat} {v : Value} {w0 w w' : World} {k0 k1 : Nat} (h : DR B g n v w0 k0 w) (h' : DR B g n v w k1 w') : DR B g n v w0 k1 w' := by
  obtain ⟨k, s, h1, h2, h3, h4, h5⟩ := h'; exact ⟨k, s, h1, h2, h3, h.below.trans h4, keepB_trans h.keep h5⟩
theorem DR.more {B g n : Nat} {v : Value} {w0 w : World} {k0 k1 : Nat} (h : DR B g n v w0 k0 w) (hk : k0 ≤ k1) : DR B g n v w0 k1 w := by
  obtain ⟨k, s, h1, h2, h3, h4, h5⟩ := h; exact ⟨k, s, by omega, h2, h3, h4, h5⟩
theorem DR.alloc {B g n : Nat} {v : Value} {w0 w : World} {k0 : Nat} (h : DR B g n v w0 k0 w) (hB : B ≤ g) (o : Obj) : DR B g n v w0 k0 (w.alloc o) := by
  obtain ⟨k, s, h1, h2, h3, h4, h5⟩ := h
  have hsz : B ≤ w.heap.size := by have := h2.lt; omega
  exact ⟨k, s, h1, src_alloc h2 o, h3.below ((Below.refl _ _).alloc hsz o), h4.alloc hsz o, keepB_alloc h5 o⟩
theorem DR.drewN {B g n : Nat} {v : Value} {w0 w : World} {k0 : Nat} (h : DR B g n v w0 k0 w) (m : Nat) : DR B g n v w0 k0 (w.drewN m) := by
  obtain ⟨k, s, h1, h2, h3, h4, h5⟩ := h
  exact ⟨k, s, h1, h2.drewN m, h3.below (below_drewN (Below.refl _ _) m), below_drewN h4 m, h5.drewN m⟩
theorem DR.far {B g n : Nat} {v : Value} {w0 w : World} {k0 : Nat} (h : DR B g n v w0 k0 w) {q : Nat} (hq : w0.heap.size ≤ q) (hB : B ≤ w0.heap.size) (hg : q ≠ g) (i : Nat) (u : Value) : DR B g n v w0 k0 (w.setCell ⟨q, i, none⟩ u) := by
  obtain ⟨k, s, h1, h2, h3, h4, h5⟩ := h
  exact ⟨k, s, h1, srcSet h2 hg _ _, h3.below ((Below.refl _ _).setCell (p := ⟨q, i, none⟩) (by show B ≤ q; omega) _), h4.setCell (p := ⟨q, i, none⟩) (by show B ≤ q; omega) _, keepB_far h5 hq _ _⟩
theorem DR.put {B g n : Nat} {v : Value} {w0 w : World} {k0 : Nat} (h : DR B g n v w0 k0 w) {q : Nat} (hq : w0.heap.size ≤ q) (hB : B ≤ w0.heap.size) (hg : q ≠ g) (y : Std) : DR B g n v w0 k0 (putStd w q y) :=
  ((((h.far hq hB hg _ _).far hq hB hg _ _).far hq hB hg _ _).far hq hB hg _ _).far hq hB hg _ _
theorem DR.pick {B g n : Nat} {v : Value} {w0 w : World} {k0 : Nat} (h : DR B g n v w0 k0 w) (hB : B ≤ g) (hk : k0 ≤ 900100) (hl : n ≤ 1048576) (m : Int) (hm : 1 < m) (hm2 : m ≤ 200) :
    Calls Try.prog 76 #[.pointer (some ⟨g, 0, none⟩), .int .i64 m] w fun e w' => ∃ x : Int, e = .returned (.int .i64 x) ∧ 0 ≤ x ∧ x ≤ m - 1 ∧ DR B g n v w0 (k0 + 1) w' ∧ KeepB g w w' := by
  obtain ⟨k, s, h1, h2, h3, h4, h5⟩ := h
  refine (pick_small B w g n v k s m h2 h3 hB (by omega) hl hm hm2).mono ?_
  rintro e w' ⟨x, s', rfl, x0, x1, hs, hb, hk'⟩
  exact ⟨x, rfl, x0, x1, ⟨k + 1, s', by omega, hs, h3.below hb, h4.trans hb, keepB_trans h5 hk'⟩, hk'⟩
theorem DR.one {B g n : Nat} {v : Value} {w0 w : World} {k0 : Nat} (h : DR B g n v w0 k0 w) (hB : B ≤ g) (hk : k0 ≤ 900100) (hl : n ≤ 1048576) (m : Int) (hm : 1 < m) (hm2 : m ≤ 200) :
    Calls Try.prog 75 #[.pointer (some ⟨g, 0, none⟩), .int .i64 m] w fun e w' => ∃ b : Bool, e = .returned (.bool b) ∧ DR B g n v w0 (k0 + 1) w' ∧ KeepB g w w' := by
  obtain ⟨k, s, h1, h2, h3, h4, h5⟩ := h
  refine (one_any B w g n v k s m h2 h3 hB (by omega) hl hm hm2).mono ?_
  rintro e w' ⟨x, s', rfl, hs, hb, hk'⟩
  exact ⟨x, rfl, ⟨k + 1, s', by omega, hs, h3.below hb, h4.trans hb, keepB_trans h5 hk'⟩, hk'⟩
theorem DR.among {B g n : Nat} {v : Value} {w0 w : World} {k0 : Nat} (h : DR B g n v w0 k0 w) (hB : B ≤ g) (hk : k0 ≤ 900100) (hl : n ≤ 1048576) (zs : List Int) (h1 : 1 < zs.length) (h2 : zs.length ≤ 200) (t : TypeId) :
    Calls Try.prog 91 #[.pointer (some ⟨g, 0, none⟩), .slice (some ⟨w.heap.size, 0, none⟩) zs.length zs.length] (w.alloc (.cells (iv zs).toArray t)) fun e w' => ∃ x : Int, e = .returned (.int .i64 x) ∧ x ∈ zs ∧ DR B g n v w0 (k0 + 1) w' ∧ KeepB g w w' := by
  have hgw := h.lt
  obtain ⟨k, s, e1, e2, e3, e4, e5⟩ := h.alloc hB (.cells (iv zs).toArray t)
  refine (among_any B _ g n v k s w.heap.size zs.length zs e2 e3 hB (by omega) hl h1 h2 (by rw [alloc_size8]; omega) (by omega) (new_cells w t zs)).mono ?_
  rintro e w' ⟨x, s', rfl, hx, hs, hb, hkb⟩
  exact ⟨x, rfl, hx, ⟨k + 1, s', by omega, hs, e3.below hb, e4.trans hb, keepB_trans e5 hkb⟩, keepB_trans (keepB_alloc (KeepB.refl g w) _) hkb⟩
theorem ret_std {x y : Std} (h : x = y) : Ending.returned (.agg #[.string ⟨x.id.toArray⟩, .int .i64 x.tr, .int .i64 x.he, .int .i64 x.co, .int .i64 x.ga]) = .returned (.agg #[.string ⟨y.id.toArray⟩, .int .i64 y.tr, .int .i64 y.he, .int .i64 y.co, .int .i64 y.ga]) := by rw [h]
set_option maxHeartbeats 6400000 in
theorem l10DrawOne_any (B g n k0 : Nat) (v : Value) (w0 w : World) (h : DR B g n v w0 k0 w) (hB : B ≤ g) (hk : k0 ≤ 900000) (hl : n ≤ 1048576) :
    Calls Try.prog 74 #[.pointer (some ⟨g, 0, none⟩), .string ⟨#[102, 105, 114]⟩] w fun e w' => ∃ x : Std, e = .returned (.agg #[.string ⟨x.id.toArray⟩, .int .i64 x.tr, .int .i64 x.he, .int .i64 x.co, .int .i64 x.ga]) ∧ x.id.length ≤ 1048576 ∧ DR B g n v w0 (k0 + 4) w' ∧ KeepB g w w' := by
  have hgw := h.lt
  have H := Lib.hid h.base
  have H0 := Lib.hid h
  clear h
  have hBw : B ≤ w.heap.size := by omega
  go_enter Try.func74, Try.ntmps74
  go_wp2_with fail
  refine ((H.out.alloc hB (.cells #[.string ⟨#[]⟩, .int .i64 0, .int .i64 0, .int .i64 0, .int .i64 0] 34)).pick hB (by omega) hl 60 (by omega) (by omega)).mono ?_
  rintro e w1 ⟨p, rfl, p0, p1, D1, K1⟩
  have Z1 : Hid (StdAt w1 w.heap.size Fo.zS) := Lib.hid (StdAt.keep (StdAt.new w Fo.zS) K1 (by omega))
  have E1 := Lib.hid D1
  have s1 : w.heap.size + 1 ≤ w1.heap.size := by have := K1.1; simpa using this
  clear D1 K1
  go_wp2_with fail
  refine (E1.out.pick hB (by omega) hl 60 (by omega) (by omega)).mono ?_
  rintro e w2 ⟨q, rfl, q0, q1, D2, K2⟩
  have Z2 := Lib.hid (Z1.out.keep K2 (by omega))
  have s2 : w.heap.size + 1 ≤ w2.heap.size := by have := K2.1; omega
  have X2 := Lib.hid (StdAt.new w2 ⟨[102, 105, 114], 20 * p, 50 * q, 0, 0⟩)
  have E2 := Lib.hid (D2.alloc hB (.cells #[.string ⟨#[102, 105, 114]⟩, .int .i64 (20 * p), .int .i64 (50 * q), .int .i64 0, .int .i64 0] 34))
  have Z3 := Lib.hid (Z2.out.alloc (.cells #[.string ⟨#[102, 105, 114]⟩, .int .i64 (20 * p), .int .i64 (50 * q), .int .i64 0, .int .i64 0] 34))
  clear D2 K2 Z1 Z2 E1 H
  go_wp2_with fail
  generalize w2.heap.size = b at *
  generalize hW : w2.alloc (.cells #[.string ⟨#[102, 105, 114]⟩, .int .i64 (20 * p), .int .i64 (50 * q), .int .i64 0, .int .i64 0] 34) = W3 at *
  clear hW
  refine (E2.out.pick hB (by omega) hl 100 (by omega) (by omega)).mono ?_
  rintro e w4 ⟨r, rfl, r0, r1, D4, K4⟩
  have X4 := Lib.hid (X2.out.keep K4 (by omega))
  have Z4 := Lib.hid (Z3.out.keep K4 (by omega))
  have E4 := Lib.hid D4
  clear D4 K4 X2 Z3 E2
  obtain ⟨a0, a1, a2, a3, a4⟩ := X4.out.five
  have af0 := X4.out.free5 0; have af1 := X4.out.free5 1; have af2 := X4.out.free5 2; have af3 := X4.out.free5 3; have af4 := X4.out.free5 4
  have X5 := Lib.hid (X4.out.set3 (10 * r))
  have Z5 := Lib.hid (Z4.out.other (r := b) (by omega) 3 (.int .i64 (10 * r)))
  have E5 := Lib.hid (E4.out.far (q := b) (by omega) hBw (by omega) 3 (.int .i64 (10 * r)))
  clear X4 Z4 E4
  go_wp2_with fail
  clear a0 a1 a2 a3 a4 af0 af1 af2 af3 af4
  generalize w4.setCell ⟨b, 3, none⟩ (.int .i64 (10 * r)) = W5 at *
  refine (E5.out.pick hB (by omega) hl 60 (by omega) (by omega)).mono ?_
  rintro e w6 ⟨t, rfl, t0, t1, D6, K6⟩
  have X6 := Lib.hid (X5.out.keep K6 (by omega))
  have Z6 := Lib.hid (Z5.out.keep K6 (by omega))
  have E6 := Lib.hid D6
  clear D6 K6 X5 Z5 E5
  obtain ⟨a0, a1, a2, a3, a4⟩ := X6.out.five
  have af0 := X6.out.free5 0; have af1 := X6.out.free5 1; have af2 := X6.out.free5 2; have af3 := X6.out.free5 3; have af4 := X6.out.free5 4
  have X7 := Lib.hid (X6.out.set4 t)
  have Z7 := Lib.hid (Z6.out.other (r := b) (by omega) 4 (.int .i64 t))
  have E7 := Lib.hid (E6.out.far (q := b) (by omega) hBw (by omega) 4 (.int .i64 t))
  obtain ⟨z0, z1, z2, z3, z4⟩ := Z6.out.five
  have zf0 := Z6.out.free5 0; have zf1 := Z6.out.free5 1; have zf2 := Z6.out.free5 2; have zf3 := Z6.out.free5 3; have zf4 := Z6.out.free5 4
  have hne1 : b ≠ w.heap.size := by omega
  have hne2 : w.heap.size ≠ b := by omega
  have T8 := Lib.hid (Z7.out.put ⟨[102, 105, 114], 20 * p, 50 * q, 10 * r, t⟩)
  have E8 := Lib.hid ((E7.out.put (q := w.heap.size) (Nat.le_refl _) hBw (by omega)) ⟨[102, 105, 114], 20 * p, 50 * q, 10 * r, t⟩)
  clear X6 Z6 E6 X7 Z7 E7
  go_wp2_with fail
  change bodyPost _ _ _ _ _ (putStd (w6.setCell ⟨b, 4, none⟩ (.int .i64 t)) w.heap.size ⟨[102, 105, 114], 20 * p, 50 * q, 10 * r, t⟩)
  generalize putStd (w6.setCell ⟨b, 4, none⟩ (.int .i64 t)) w.heap.size ⟨[102, 105, 114], 20 * p, 50 * q, 10 * r, t⟩ = W8 at *
  obtain ⟨d0, d1, d2, d3, d4⟩ := T8.out.five
  exact bodyPost_ret (v := .agg #[.string ⟨#[102, 105, 114]⟩, .int .i64 (20 * p), .int .i64 (50 * q), .int .i64 (10 * r), .int .i64 t]) (by simp [results, Try.results74, go_sem, d0, d1, d2, d3, d4]) rfl ⟨⟨[102, 105, 114], 20 * p, 50 * q, 10 * r, t⟩, rfl, (by show ([102, 105, 114] : List UInt8).length ≤ 1048576; decide), (H0.out.on E8.out).more (by omega), E8.out.keep⟩
set_option maxHeartbeats 6400000 in
theorem l10Bend_any (B g n k0 : Nat) (v : Value) (w0 w : World) (h : DR B g n v w0 k0 w) (hB : B ≤ g) (hk : k0 ≤ 900000) (hl : n ≤ 1048576) (x : Std) (hx : x.id.length ≤ 1048576) :
    Calls Try.prog 73 #[.pointer (some ⟨g, 0, none⟩), .agg #[.string ⟨x.id.toArray⟩, .int .i64 x.tr, .int .i64 x.he, .int .i64 x.co, .int .i64 x.ga]] w fun e w' => ∃ y : Std, e = .returned (.agg #[.string ⟨y.id.toArray⟩, .int .i64 y.tr, .int .i64 y.he, .int .i64 y.co, .int .i64 y.ga]) ∧ y.id.length ≤ 1048576 ∧ DR B g n v w0 (k0 + 2) w' ∧ KeepB g w w' := by
  have hgw := h.lt
  have H := Lib.hid ((h.base.alloc hB (.cells #[.string ⟨x.id.toArray⟩, .int .i64 x.tr, .int .i64 x.he, .int .i64 x.co, .int .i64 x.ga] 34)).alloc hB (.cells #[.string ⟨#[]⟩, .int .i64 0, .int .i64 0, .int .i64 0, .int .i64 0] 34))
  have T := Lib.hid (boxSZ_two w x)
  have H0 := Lib.hid h
  clear h
  unfold boxSZ boxStd at T
  have hBw : B ≤ w.heap.size := by omega
  go_enter Try.func73, Try.ntmps73
  go_wp2_with fail
  refine (H.out.pick hB (by omega) hl 18 (by omega) (by omega)).mono ?_
  rintro e w1 ⟨j, rfl, j0, j1, D1, K1⟩
  have X1 := Lib.hid (T.out.1.keep K1 (by omega))
  have Z1 := Lib.hid (T.out.2.keep K1 (by omega))
  have E1 := Lib.hid D1
  have s1 : w.heap.size + 2 ≤ w1.heap.size := by have := K1.1; simpa using this
  clear D1 K1 T H
  by_cases h0 : j = 0
  · subst h0
    go_wp2_with fail
    refine (E1.out.among hB (by omega) hl [-1, 0, 2000, 2001] (by decide) (by decide) 2).mono ?_
    rintro e w2 ⟨z, rfl, -, D2, K2⟩
    have X2 := Lib.hid (X1.out.keep K2 (by omega))
    have Z2 := Lib.hid (Z1.out.keep K2 (by omega))
    have E2 := Lib.hid D2
    clear D2 K2 X1 Z1 E1
    obtain ⟨a0, a1, a2, a3, a4⟩ := X2.out.five
    have af0 := X2.out.free5 0; have af1 := X2.out.free5 1; have af2 := X2.out.free5 2; have af3 := X2.out.free5 3; have af4 := X2.out.free5 4
    obtain ⟨z0, z1, z2, z3, z4⟩ := Z2.out.five
    have zf0 := Z2.out.free5 0; have zf1 := Z2.out.free5 1; have zf2 := Z2.out.free5 2; have zf3 := Z2.out.free5 3; have zf4 := Z2.out.free5 4
    have T8 := Lib.hid ((Z2.out.other (r := w.heap.size) (by omega) 1 (.int .i64 z)).put ⟨x.id, z, x.he, x.co, x.ga⟩)
    have E8 := Lib.hid ((E2.out.far (q := w.heap.size) (Nat.le_refl _) hBw (by omega) 1 (.int .i64 z)).put (q := w.heap.size + 1) (by omega) hBw (by omega) ⟨x.id, z, x.he, x.co, x.ga⟩)
    clear X2 Z2 E2
    go_wp2_with fail
    change bodyPost _ _ _ _ _ (putStd (w2.setCell ⟨w.heap.size, 1, none⟩ (.int .i64 z)) (w.heap.size + 1) ⟨x.id, z, x.he, x.co, x.ga⟩)
    generalize putStd (w2.setCell ⟨w.heap.size, 1, none⟩ (.int .i64 z)) (w.heap.size + 1) ⟨x.id, z, x.he, x.co, x.ga⟩ = W8 at *
    obtain ⟨d0, d1, d2, d3, d4⟩ := T8.out.five
    exact bodyPost_ret (v := .agg #[.string ⟨x.id.toArray⟩, .int .i64 z, .int .i64 x.he, .int .i64 x.co, .int .i64 x.ga]) (by simp [results, Try.results73, go_sem, d0, d1, d2, d3, d4]) rfl ⟨⟨x.id, z, x.he, x.co, x.ga⟩, rfl, hx, (H0.out.on E8.out).more (by omega), E8.out.keep⟩
  by_cases h1 : j = 1
  · subst h1
    go_wp2_with fail
    refine (E1.out.among hB (by omega) hl [-1, 0, 5000, 5001] (by decide) (by decide) 2).mono ?_
    rintro e w2 ⟨z, rfl, -, D2, K2⟩
    have X2 := Lib.hid (X1.out.keep K2 (by omega))
    have Z2 := Lib.hid (Z1.out.keep K2 (by omega))
    have E2 := Lib.hid D2
    clear D2 K2 X1 Z1 E1
    obtain ⟨a0, a1, a2, a3, a4⟩ := X2.out.five
    have af0 := X2.out.free5 0; have af1 := X2.out.free5 1; have af2 := X2.out.free5 2; have af3 := X2.out.free5 3; have af4 := X2.out.free5 4
    obtain ⟨z0, z1, z2, z3, z4⟩ := Z2.out.five
    have zf0 := Z2.out.free5 0; have zf1 := Z2.out.free5 1; have zf2 := Z2.out.free5 2; have zf3 := Z2.out.free5 3; have zf4 := Z2.out.free5 4
    have T8 := Lib.hid ((Z2.out.other (r := w.heap.size) (by omega) 2 (.int .i64 z)).put ⟨x.id, x.tr, z, x.co, x.ga⟩)
    have E8 := Lib.hid ((E2.out.far (q := w.heap.size) (Nat.le_refl _) hBw (by omega) 2 (.int .i64 z)).put (q := w.heap.size + 1) (by omega) hBw (by omega) ⟨x.id, x.tr, z, x.co, x.ga⟩)
    clear X2 Z2 E2
    go_wp2_with fail
    change bodyPost _ _ _ _ _ (putStd (w2.setCell ⟨w.heap.size, 2, none⟩ (.int .i64 z)) (w.heap.size + 1) ⟨x.id, x.tr, z, x.co, x.ga⟩)
    generalize putStd (w2.setCell ⟨w.heap.size, 2, none⟩ (.int .i64 z)) (w.heap.size + 1) ⟨x.id, x.tr, z, x.co, x.ga⟩ = W8 at *
    obtain ⟨d0, d1, d2, d3, d4⟩ := T8.out.five
    exact bodyPost_ret (v := .agg #[.string ⟨x.id.toArray⟩, .int .i64 x.tr, .int .i64 z, .int .i64 x.co, .int .i64 x.ga]) (by simp [results, Try.results73, go_sem, d0, d1, d2, d3, d4]) rfl ⟨⟨x.id, x.tr, z, x.co, x.ga⟩, rfl, hx, (H0.out.on E8.out).more (by omega), E8.out.keep⟩
  by_cases h2 : j = 2
  · subst h2
    go_wp2_with fail
    refine (E1.out.among hB (by omega) hl [-1, 0, 1000, 1001] (by decide) (by decide) 2).mono ?_
    rintro e w2 ⟨z, rfl, -, D2, K2⟩
    have X2 := Lib.hid (X1.out.keep K2 (by omega))
    have Z2 := Lib.hid (Z1.out.keep K2 (by omega))
    have E2 := Lib.hid D2
    clear D2 K2 X1 Z1 E1
    obtain ⟨a0, a1, a2, a3, a4⟩ := X2.out.five
    have af0 := X2.out.free5 0; have af1 := X2.out.free5 1; have af2 := X2.out.free5 2; have af3 := X2.out.free5 3; have af4 := X2.out.free5 4
    obtain ⟨z0, z1, z2, z3, z4⟩ := Z2.out.five
    have zf0 := Z2.out.free5 0; have zf1 := Z2.out.free5 1; have zf2 := Z2.out.free5 2; have zf3 := Z2.out.free5 3; have zf4 := Z2.out.free5 4
    have T8 := Lib.hid ((Z2.out.other (r := w.heap.size) (by omega) 3 (.int .i64 z)).put ⟨x.id, x.tr, x.he, z, x.ga⟩)
    have E8 := Lib.hid ((E2.out.far (q := w.heap.size) (Nat.le_refl _) hBw (by omega) 3 (.int .i64 z)).put (q := w.heap.size + 1) (by omega) hBw (by omega) ⟨x.id, x.tr, x.he, z, x.ga⟩)
    clear X2 Z2 E2
    go_wp2_with fail
    change bodyPost _ _ _ _ _ (putStd (w2.setCell ⟨w.heap.size, 3, none⟩ (.int .i64 z)) (w.heap.size + 1) ⟨x.id, x.tr, x.he, z, x.ga⟩)
    generalize putStd (w2.setCell ⟨w.heap.size, 3, none⟩ (.int .i64 z)) (w.heap.size + 1) ⟨x.id, x.tr, x.he, z, x.ga⟩ = W8 at *
    obtain ⟨d0, d1, d2, d3, d4⟩ := T8.out.five
    exact bodyPost_ret (v := .agg #[.string ⟨x.id.toArray⟩, .int .i64 x.tr, .int .i64 x.he, .int .i64 z, .int .i64 x.ga]) (by simp [results, Try.results73, go_sem, d0, d1, d2, d3, d4]) rfl ⟨⟨x.id, x.tr, x.he, z, x.ga⟩, rfl, hx, (H0.out.on E8.out).more (by omega), E8.out.keep⟩
  by_cases h3 : j = 3
  · subst h3
    go_wp2_with fail
    refine (E1.out.among hB (by omega) hl [-1, 20, 21, 100, 101] (by decide) (by decide) 2).mono ?_
    rintro e w2 ⟨z, rfl, -, D2, K2⟩
    have X2 := Lib.hid (X1.out.keep K2 (by omega))
    have Z2 := Lib.hid (Z1.out.keep K2 (by omega))
    have E2 := Lib.hid D2
    clear D2 K2 X1 Z1 E1
    obtain ⟨a0, a1, a2, a3, a4⟩ := X2.out.five
    have af0 := X2.out.free5 0; have af1 := X2.out.free5 1; have af2 := X2.out.free5 2; have af3 := X2.out.free5 3; have af4 := X2.out.free5 4
    obtain ⟨z0, z1, z2, z3, z4⟩ := Z2.out.five
    have zf0 := Z2.out.free5 0; have zf1 := Z2.out.free5 1; have zf2 := Z2.out.free5 2; have zf3 := Z2.out.free5 3; have zf4 := Z2.out.free5 4
    have T8 := Lib.hid ((Z2.out.other (r := w.heap.size) (by omega) 4 (.int .i64 z)).put ⟨x.id, x.tr, x.he, x.co, z⟩)
    have E8 := Lib.hid ((E2.out.far (q := w.heap.size) (Nat.le_refl _) hBw (by omega) 4 (.int .i64 z)).put (q := w.heap.size + 1) (by omega) hBw (by omega) ⟨x.id, x.tr, x.he, x.co, z⟩)
    clear X2 Z2 E2
    go_wp2_with fail
    change bodyPost _ _ _ _ _ (putStd (w2.setCell ⟨w.heap.size, 4, none⟩ (.int .i64 z)) (w.heap.size + 1) ⟨x.id, x.tr, x.he, x.co, z⟩)
    generalize putStd (w2.setCell ⟨w.heap.size, 4, none⟩ (.int .i64 z)) (w.heap.size + 1) ⟨x.id, x.tr, x.he, x.co, z⟩ = W8 at *
    obtain ⟨d0, d1, d2, d3, d4⟩ := T8.out.five
    exact bodyPost_ret (v := .agg #[.string ⟨x.id.toArray⟩, .int .i64 x.tr, .int .i64 x.he, .int .i64 x.co, .int .i64 z]) (by simp [results, Try.results73, go_sem, d0, d1, d2, d3, d4]) rfl ⟨⟨x.id, x.tr, x.he, x.co, z⟩, rfl, hx, (H0.out.on E8.out).more (by omega), E8.out.keep⟩
  · have e0 : (j == 0) = false := by simp; omega
    have e1 : (j == 1) = false := by simp; omega
    have e2 : (j == 2) = false := by simp; omega
    have e3 : (j == 3) = false := by simp; omega
    obtain ⟨a0, a1, a2, a3, a4⟩ := X1.out.five
    have af0 := X1.out.free5 0; have af1 := X1.out.free5 1; have af2 := X1.out.free5 2; have af3 := X1.out.free5 3; have af4 := X1.out.free5 4
    obtain ⟨z0, z1, z2, z3, z4⟩ := Z1.out.five
    have zf0 := Z1.out.free5 0; have zf1 := Z1.out.free5 1; have zf2 := Z1.out.free5 2; have zf3 := Z1.out.free5 3; have zf4 := Z1.out.free5 4
    have T8 := Lib.hid (Z1.out.put x)
    have E8 := Lib.hid (E1.out.put (q := w.heap.size + 1) (by omega) hBw (by omega) x)
    clear X1 Z1 E1
    go_wp2_with fail
    change bodyPost _ _ _ _ _ (putStd w1 (w.heap.size + 1) x)
    generalize putStd w1 (w.heap.size + 1) x = W8 at *
    obtain ⟨d0, d1, d2, d3, d4⟩ := T8.out.five
    exact bodyPost_ret (v := .agg #[.string ⟨x.id.toArray⟩, .int .i64 x.tr, .int .i64 x.he, .int .i64 x.co, .int .i64 x.ga]) (by simp [results, Try.results73, go_sem, d0, d1, d2, d3, d4]) rfl ⟨x, rfl, hx, (H0.out.on E8.out).more (by omega), E8.out.keep⟩
set_option maxHeartbeats 1600000 in
theorem l10DrawSnow_any (B g n k0 : Nat) (v : Value) (w0 w : World) (h : DR B g n v w0 k0 w) (hB : B ≤ g) (hk : k0 ≤ 900000) (hl : n ≤ 1048576) :
    Calls Try.prog 77 #[.pointer (some ⟨g, 0, none⟩)] w fun e w' => ∃ z : Int, e = .returned (.int .i64 z) ∧ DR B g n v w0 (k0 + 2) w' ∧ KeepB g w w' := by
  have H0 := Lib.hid h
  clear h
  go_enter Try.func77, Try.ntmps77
  go_wp2_with fail
  refine (H0.out.one hB (by omega) hl 9 (by omega) (by omega)).mono ?_
  rintro e w1 ⟨b, rfl, D1, K1⟩
  have E1 := Lib.hid D1
  have L1 := Lib.hid K1
  clear D1 K1
  cases b with
  | true =>
    go_wp2_with fail
    refine (E1.out.among hB (by omega) hl [-1, 0, 2000, 2001] (by decide) (by decide) 2).mono ?_
    rintro e w2 ⟨z, rfl, -, D2, K2⟩
    have E2 := Lib.hid D2
    have L2 := Lib.hid (keepB_trans L1.out K2)
    clear D2 K2
    go_wp2_with fail
    go_ret
    exact ⟨z, rfl, E2.out, L2.out⟩
  | false =>
    go_wp2_with fail
    refine (E1.out.pick hB (by omega) hl 80 (by omega) (by omega)).mono ?_
    rintro e w2 ⟨z, rfl, z0, z1, D2, K2⟩
    have E2 := Lib.hid D2
    have L2 := Lib.hid (keepB_trans L1.out K2)
    clear D2 K2
    go_wp2_with fail
    go_ret
    exact ⟨_, rfl, E2.out, L2.out⟩
set_option maxHeartbeats 1600000 in
theorem l10DrawLeast_any (B g n k0 : Nat) (v : Value) (w0 w : World) (h : DR B g n v w0 k0 w) (hB : B ≤ g) (hk : k0 ≤ 900000) (hl : n ≤ 1048576) :
    Calls Try.prog 78 #[.pointer (some ⟨g, 0, none⟩)] w fun e w' => ∃ z : Int, e = .returned (.int .i64 z) ∧ DR B g n v w0 (k0 + 1) w' ∧ KeepB g w w' := by
  have H0 := Lib.hid h
  clear h
  go_enter Try.func78, Try.ntmps78
  go_wp2_with fail
  refine (H0.out.among hB (by omega) hl [0, 100, 300, 500, 700, 1000, 1001, -1] (by decide) (by decide) 2).mono ?_
  rintro e w2 ⟨z, rfl, -, D2, K2⟩
  have E2 := Lib.hid D2
  have L2 := Lib.hid K2
  clear D2 K2
  go_wp2_with fail
  go_ret
  exact ⟨z, rfl, E2.out, L2.out⟩
set_option maxHeartbeats 6400000 in
theorem drawMostSnow_any (w : World) (v : Value) (n : Nat) (hv : Bs w.heap.size w v n) (hl : n ≤ 1048576) :
    Calls Try.prog 43 #[v] w fun e w' => ∃ (x : Std) (s : Int), e = .returned (.tuple #[.agg #[.string ⟨x.id.toArray⟩, .int .i64 x.tr, .int .i64 x.he, .int .i64 x.co, .int .i64 x.ga], .int .i64 s]) ∧ x.id.length ≤ 1048576 ∧ Below w.heap.size w w' := by
  obtain ⟨a, cap, rfl⟩ := hv.form
  have HV := Lib.hid hv
  clear hv
  go_enter Try.func43, Try.ntmps43
  go_wp2_with fail
  refine (l00From_any a n cap _).mono ?_
  rintro e w1 ⟨rfl, S1, b1⟩
  have Z1 := Lib.hid ((StdAt.new w Fo.zS).all b1)
  have B1 := Lib.hid (bt ((Below.refl _ w).alloc (Nat.le_refl _) _) b1)
  rw [alloc_size8] at S1
  have E1 : Hid (DR w.heap.size (w.heap.size + 1) n (.slice a n cap) w1 0 w1) := Lib.hid ⟨0, 0, Nat.le_refl _, S1, HV.out.below B1.out, Below.refl _ _, KeepB.refl _ _⟩
  have s1 : w.heap.size + 2 ≤ w1.heap.size := by have := S1.lt; omega
  clear b1 S1 HV
  go_wp2_with fail
  refine (l10DrawOne_any _ _ _ _ _ _ _ E1.out (by omega) (by omega) hl).mono ?_
  rintro e w2 ⟨x, rfl, hx, D2, K2⟩
  have E2 := Lib.hid D2
  have Z2 := Lib.hid (Z1.out.keep K2 (by omega))
  have s2 : w1.heap.size ≤ w2.heap.size := K2.1
  clear D2 K2 Z1 E1
  go_wp2_with fail
  refine (l10Bend_any _ _ _ _ _ _ _ E2.out (by omega) (by omega) hl x hx).mono ?_
  rintro e w3 ⟨y, rfl, hy, D3, K3⟩
  have s3 : w2.heap.size ≤ w3.heap.size := K3.1
  have X4 := Lib.hid (StdAt.new w3 y)
  have Z4 := Lib.hid ((Z2.out.keep K3 (by omega)).alloc (.cells #[.string ⟨y.id.toArray⟩, .int .i64 y.tr, .int .i64 y.he, .int .i64 y.co, .int .i64 y.ga] 34))
  have E4 := Lib.hid (D3.alloc (by omega) (.cells #[.string ⟨y.id.toArray⟩, .int .i64 y.tr, .int .i64 y.he, .int .i64 y.co, .int .i64 y.ga] 34))
  clear D3 K3 Z2 E2 hx
  obtain ⟨b, hb⟩ : ∃ b, w3.heap.size = b := ⟨_, rfl⟩
  have hne1 : b ≠ w.heap.size := by omega
  have hne2 : w.heap.size ≠ b := by omega
  have hne3 : b ≠ w.heap.size + 1 := by omega
  go_wp2_with fail
  rw [hb] at X4
  generalize w3.alloc (.cells #[.string ⟨y.id.toArray⟩, .int .i64 y.tr, .int .i64 y.he, .int .i64 y.co, .int .i64 y.ga] 34) = W4 at *
  obtain ⟨a0, a1, a2, a3, a4⟩ := X4.out.five
  have af0 := X4.out.free5 0; have af1 := X4.out.free5 1; have af2 := X4.out.free5 2; have af3 := X4.out.free5 3; have af4 := X4.out.free5 4
  obtain ⟨z0, z1, z2, z3, z4⟩ := Z4.out.five
  have zf0 := Z4.out.free5 0; have zf1 := Z4.out.free5 1; have zf2 := Z4.out.free5 2; have zf3 := Z4.out.free5 3; have zf4 := Z4.out.free5 4
  go_region_held3 (fun w' => w'.cell? ⟨b, 0, none⟩ = some (.string ⟨y.id.toArray⟩) ∧ w'.cell? ⟨b, 1, none⟩ = some (.int .i64 y.tr) ∧ w'.cell? ⟨b, 2, none⟩ = some (.int .i64 y.he) ∧ w'.cell? ⟨b, 3, none⟩ = some (.int .i64 y.co) ∧ w'.cell? ⟨b, 4, none⟩ = some (.int .i64 y.ga)) (go_keep)
    (first | (go_at_call 78; refine (l10DrawLeast_any _ _ _ _ _ _ _ (E4.out.drewN 1) (by omega) (by omega) hl).mono ?_; rintro e wB ⟨z, rfl, DB, KB⟩; have XB := Lib.hid (X4.out.keep (w' := wB) KB hne3); have ZB := Lib.hid (Z4.out.keep (w' := wB) KB (by omega)); obtain ⟨c0, c1, c2, c3, c4⟩ := XB.out.five; obtain ⟨e0, e1, e2, e3, e4⟩ := ZB.out.five; have f0 := ZB.out.free5 0; have f1 := ZB.out.free5 1; have f2 := ZB.out.free5 2; have f3 := ZB.out.free5 3; have f4 := ZB.out.free5 4))
  all_goals (
    have T8 := Lib.hid (ZB.out.put y)
    have HB := Lib.hid (below_put (B1.out.trans DB.below) (Nat.le_refl _) y)
    go_wp2_with fail
    change bodyPost _ _ _ _ _ (putStd wB w.heap.size y)
    generalize putStd wB w.heap.size y = W8 at *
    obtain ⟨d0, d1, d2, d3, d4⟩ := T8.out.five
    exact bodyPost_ret (v := .tuple #[.agg #[.string ⟨y.id.toArray⟩, .int .i64 y.tr, .int .i64 y.he, .int .i64 y.co, .int .i64 y.ga], .int .i64 z]) (by simp [results, Try.results43, go_sem, d0, d1, d2, d3, d4]) rfl ⟨y, z, rfl, hy, HB.out⟩)
set_option maxHeartbeats 6400000 in
theorem drawYearsUntil_any (w : World) (v : Value) (n : Nat) (hv : Bs w.heap.size w v n) (hl : n ≤ 1048576) :
    Calls Try.prog 44 #[v] w fun e w' => ∃ (x : Std) (s l : Int), e = .returned (.tuple #[.agg #[.string ⟨x.id.toArray⟩, .int .i64 x.tr, .int .i64 x.he, .int .i64 x.co, .int .i64 x.ga], .int .i64 s, .int .i64 l]) ∧ x.id.length ≤ 1048576 ∧ Below w.heap.size w w' := by
  obtain ⟨a, cap, rfl⟩ := hv.form
  have HV := Lib.hid hv
  clear hv
  go_enter Try.func44, Try.ntmps44
  go_wp2_with fail
  refine (l00From_any a n cap _).mono ?_
  rintro e w1 ⟨rfl, S1, b1⟩
  have Z1 := Lib.hid ((StdAt.new w Fo.zS).all b1)
  have B1 := Lib.hid (bt ((Below.refl _ w).alloc (Nat.le_refl _) _) b1)
  rw [alloc_size8] at S1
  have E1 : Hid (DR w.heap.size (w.heap.size + 1) n (.slice a n cap) w1 0 w1) := Lib.hid ⟨0, 0, Nat.le_refl _, S1, HV.out.below B1.out, Below.refl _ _, KeepB.refl _ _⟩
  have s1 : w.heap.size + 2 ≤ w1.heap.size := by have := S1.lt; omega
  clear b1 S1 HV
  go_wp2_with fail
  refine (l10DrawOne_any _ _ _ _ _ _ _ E1.out (by omega) (by omega) hl).mono ?_
  rintro e w2 ⟨x, rfl, hx, D2, K2⟩
  have E2 := Lib.hid D2
  have Z2 := Lib.hid (Z1.out.keep K2 (by omega))
  have s2 : w1.heap.size ≤ w2.heap.size := K2.1
  clear D2 K2 Z1 E1
  go_wp2_with fail
  refine (l10Bend_any _ _ _ _ _ _ _ E2.out (by omega) (by omega) hl x hx).mono ?_
  rintro e w3 ⟨y, rfl, hy, D3, K3⟩
  have s3 : w2.heap.size ≤ w3.heap.size := K3.1
  have X4 := Lib.hid (StdAt.new w3 y)
  have Z4 := Lib.hid ((Z2.out.keep K3 (by omega)).alloc (.cells #[.string ⟨y.id.toArray⟩, .int .i64 y.tr, .int .i64 y.he, .int .i64 y.co, .int .i64 y.ga] 34))
  have E4 := Lib.hid (D3.alloc (by omega) (.cells #[.string ⟨y.id.toArray⟩, .int .i64 y.tr, .int .i64 y.he, .int .i64 y.co, .int .i64 y.ga] 34))
  clear D3 K3 Z2 E2 hx
  obtain ⟨b, hb⟩ : ∃ b, w3.heap.size = b := ⟨_, rfl⟩
  have hne1 : b ≠ w.heap.size := by omega
  have hne2 : w.heap.size ≠ b := by omega
  have hne3 : b ≠ w.heap.size + 1 := by omega
  go_wp2_with fail
  rw [hb] at X4
  generalize w3.alloc (.cells #[.string ⟨y.id.toArray⟩, .int .i64 y.tr, .int .i64 y.he, .int .i64 y.co, .int .i64 y.ga] 34) = W4 at *
  refine (l10DrawSnow_any _ _ _ _ _ _ _ E4.out (by omega) (by omega) hl).mono ?_
  rintro e w5 ⟨t, rfl, D5, K5⟩
  have X5 := Lib.hid (X4.out.keep K5 hne3)
  have Z5 := Lib.hid (Z4.out.keep K5 (by omega))
  have E5 := Lib.hid D5
  clear D5 K5 X4 Z4 E4
  obtain ⟨a0, a1, a2, a3, a4⟩ := X5.out.five
  have af0 := X5.out.free5 0; have af1 := X5.out.free5 1; have af2 := X5.out.free5 2; have af3 := X5.out.free5 3; have af4 := X5.out.free5 4
  obtain ⟨z0, z1, z2, z3, z4⟩ := Z5.out.five
  have zf0 := Z5.out.free5 0; have zf1 := Z5.out.free5 1; have zf2 := Z5.out.free5 2; have zf3 := Z5.out.free5 3; have zf4 := Z5.out.free5 4
  go_wp2_with fail
  go_region_held3 (fun w' => w'.cell? ⟨b, 0, none⟩ = some (.string ⟨y.id.toArray⟩) ∧ w'.cell? ⟨b, 1, none⟩ = some (.int .i64 y.tr) ∧ w'.cell? ⟨b, 2, none⟩ = some (.int .i64 y.he) ∧ w'.cell? ⟨b, 3, none⟩ = some (.int .i64 y.co) ∧ w'.cell? ⟨b, 4, none⟩ = some (.int .i64 y.ga)) (go_keep)
    (first | (go_at_call 78; refine (l10DrawLeast_any _ _ _ _ _ _ _ (E5.out.drewN 1) (by omega) (by omega) hl).mono ?_; rintro e wB ⟨z, rfl, DB, KB⟩; have XB := Lib.hid (X5.out.keep (w' := wB) KB hne3); have ZB := Lib.hid (Z5.out.keep (w' := wB) KB (by omega)); obtain ⟨c0, c1, c2, c3, c4⟩ := XB.out.five; obtain ⟨e0, e1, e2, e3, e4⟩ := ZB.out.five; have f0 := ZB.out.free5 0; have f1 := ZB.out.free5 1; have f2 := ZB.out.free5 2; have f3 := ZB.out.free5 3; have f4 := ZB.out.free5 4))
  all_goals (
    have T8 := Lib.hid (ZB.out.put y)
    have HB := Lib.hid (below_put (B1.out.trans DB.below) (Nat.le_refl _) y)
    go_wp2_with fail
    change bodyPost _ _ _ _ _ (putStd wB w.heap.size y)
    generalize putStd wB w.heap.size y = W8 at *
    obtain ⟨d0, d1, d2, d3, d4⟩ := T8.out.five
    exact bodyPost_ret (v := .tuple #[.agg #[.string ⟨y.id.toArray⟩, .int .i64 y.tr, .int .i64 y.he, .int .i64 y.co, .int .i64 y.ga], .int .i64 t, .int .i64 z]) (by simp [results, Try.results44, go_sem, d0, d1, d2, d3, d4]) rfl ⟨y, t, z, rfl, hy, HB.out⟩)
set_option maxHeartbeats 6400000 in
theorem drawProtectionOf_any (w : World) (v : Value) (n : Nat) (hv : Bs w.heap.size w v n) (hl : n ≤ 1048576) :
    Calls Try.prog 42 #[v] w fun e w' => ∃ (x : Std) (s : Int), e = .returned (.tuple #[.agg #[.string ⟨x.id.toArray⟩, .int .i64 x.tr, .int .i64 x.he, .int .i64 x.co, .int .i64 x.ga], .int .i64 s]) ∧ x.id.length ≤ 1048576 ∧ Below w.heap.size w w' := by
  obtain ⟨a, cap, rfl⟩ := hv.form
  have HV := Lib.hid hv
  clear hv
  go_enter Try.func42, Try.ntmps42
  go_wp2_with fail
  refine (l00From_any a n cap _).mono ?_
  rintro e w1 ⟨rfl, S1, b1⟩
  have Z1 := Lib.hid ((StdAt.new w Fo.zS).all b1)
  have B1 := Lib.hid (bt ((Below.refl _ w).alloc (Nat.le_refl _) _) b1)
  rw [alloc_size8] at S1
  have E1 : Hid (DR w.heap.size (w.heap.size + 1) n (.slice a n cap) w1 0 w1) := Lib.hid ⟨0, 0, Nat.le_refl _, S1, HV.out.below B1.out, Below.refl _ _, KeepB.refl _ _⟩
  have s1 : w.heap.size + 2 ≤ w1.heap.size := by have := S1.lt; omega
  clear b1 S1 HV
  go_wp2_with fail
  refine (l10DrawOne_any _ _ _ _ _ _ _ E1.out (by omega) (by omega) hl).mono ?_
  rintro e w2 ⟨x, rfl, hx, D2, K2⟩
  have E2 := Lib.hid D2
  have Z2 := Lib.hid (Z1.out.keep K2 (by omega))
  have s2 : w1.heap.size ≤ w2.heap.size := K2.1
  clear D2 K2 Z1 E1
  go_wp2_with fail
  refine (l10Bend_any _ _ _ _ _ _ _ E2.out (by omega) (by omega) hl x hx).mono ?_
  rintro e w3 ⟨y, rfl, hy, D3, K3⟩
  have s3 : w2.heap.size ≤ w3.heap.size := K3.1
  have X4 := Lib.hid (StdAt.new w3 y)
  have Z4 := Lib.hid ((Z2.out.keep K3 (by omega)).alloc (.cells #[.string ⟨y.id.toArray⟩, .int .i64 y.tr, .int .i64 y.he, .int .i64 y.co, .int .i64 y.ga] 34))
  have E4 := Lib.hid (D3.alloc (by omega) (.cells #[.string ⟨y.id.toArray⟩, .int .i64 y.tr, .int .i64 y.he, .int .i64 y.co, .int .i64 y.ga] 34))
  clear D3 K3 Z2 E2 hx
  obtain ⟨b, hb⟩ : ∃ b, w3.heap.size = b := ⟨_, rfl⟩
  have hne1 : b ≠ w.heap.size := by omega
  have hne2 : w.heap.size ≠ b := by omega
  have hne3 : b ≠ w.heap.size + 1 := by omega
  go_wp2_with fail
  rw [hb] at X4
  generalize w3.alloc (.cells #[.string ⟨y.id.toArray⟩, .int .i64 y.tr, .int .i64 y.he, .int .i64 y.co, .int .i64 y.ga] 34) = W4 at *
  refine (E4.out.one (by omega) (by omega) hl 3 (by omega) (by omega)).mono ?_
  rintro e w5 ⟨c, rfl, D5, K5⟩
  have X5 := Lib.hid (X4.out.keep K5 hne3)
  have Z5 := Lib.hid (Z4.out.keep K5 (by omega))
  have E5 := Lib.hid D5
  clear D5 K5 X4 Z4 E4
  obtain ⟨a0, a1, a2, a3, a4⟩ := X5.out.five
  have af0 := X5.out.free5 0; have af1 := X5.out.free5 1; have af2 := X5.out.free5 2; have af3 := X5.out.free5 3; have af4 := X5.out.free5 4
  obtain ⟨z0, z1, z2, z3, z4⟩ := Z5.out.five
  have zf0 := Z5.out.free5 0; have zf1 := Z5.out.free5 1; have zf2 := Z5.out.free5 2; have zf3 := Z5.out.free5 3; have zf4 := Z5.out.free5 4
  cases c with
  | true =>
    go_wp2_with fail
    go_region_held3 (fun w' => w'.cell? ⟨b, 0, none⟩ = some (.string ⟨y.id.toArray⟩) ∧ w'.cell? ⟨b, 1, none⟩ = some (.int .i64 y.tr) ∧ w'.cell? ⟨b, 2, none⟩ = some (.int .i64 y.he) ∧ w'.cell? ⟨b, 3, none⟩ = some (.int .i64 y.co) ∧ w'.cell? ⟨b, 4, none⟩ = some (.int .i64 y.ga)) (go_keep)
      (first | (go_at_call 76; refine ((E5.out.drewN 1).pick (by omega) (by omega) hl 2 (by omega) (by omega)).mono ?_; rintro e wB ⟨z, rfl, z0, z1, DB, KB⟩; have XB := Lib.hid (X5.out.keep (w' := wB) KB hne3); have ZB := Lib.hid (Z5.out.keep (w' := wB) KB (by omega)); obtain ⟨c0, c1, c2, c3, c4⟩ := XB.out.five; obtain ⟨e0, e1, e2, e3, e4⟩ := ZB.out.five; have f0 := ZB.out.free5 0; have f1 := ZB.out.free5 1; have f2 := ZB.out.free5 2; have f3 := ZB.out.free5 3; have f4 := ZB.out.free5 4))
    all_goals (
      have T8 := Lib.hid (ZB.out.put y)
      have HB := Lib.hid (below_put (B1.out.trans DB.below) (Nat.le_refl _) y)
      go_wp2_with fail
      change bodyPost _ _ _ _ _ (putStd wB w.heap.size y)
      generalize putStd wB w.heap.size y = W8 at *
      obtain ⟨d0, d1, d2, d3, d4⟩ := T8.out.five
      exact bodyPost_ret (v := .tuple #[.agg #[.string ⟨y.id.toArray⟩, .int .i64 y.tr, .int .i64 y.he, .int .i64 y.co, .int .i64 y.ga], .int .i64 (IntKind.i64.wrap (IntKind.i64.wrap (y.he.tdiv 2) + z))]) (by simp [results, Try.results42, go_sem, d0, d1, d2, d3, d4]) rfl ⟨y, _, rfl, hy, HB.out⟩)
  | false =>
    go_wp2_with fail
    go_region_held3 (fun w' => w'.cell? ⟨b, 0, none⟩ = some (.string ⟨y.id.toArray⟩) ∧ w'.cell? ⟨b, 1, none⟩ = some (.int .i64 y.tr) ∧ w'.cell? ⟨b, 2, none⟩ = some (.int .i64 y.he) ∧ w'.cell? ⟨b, 3, none⟩ = some (.int .i64 y.co) ∧ w'.cell? ⟨b, 4, none⟩ = some (.int .i64 y.ga)) (go_keep)
      (first | (go_at_call 77; refine (l10DrawSnow_any _ _ _ _ _ _ _ (E5.out.drewN 1) (by omega) (by omega) hl).mono ?_; rintro e wB ⟨z, rfl, DB, KB⟩; have XB := Lib.hid (X5.out.keep (w' := wB) KB hne3); have ZB := Lib.hid (Z5.out.keep (w' := wB) KB (by omega)); obtain ⟨c0, c1, c2, c3, c4⟩ := XB.out.five; obtain ⟨e0, e1, e2, e3, e4⟩ := ZB.out.five; have f0 := ZB.out.free5 0; have f1 := ZB.out.free5 1; have f2 := ZB.out.free5 2; have f3 := ZB.out.free5 3; have f4 := ZB.out.free5 4))
    all_goals (
      have T8 := Lib.hid (ZB.out.put y)
      have HB := Lib.hid (below_put (B1.out.trans DB.below) (Nat.le_refl _) y)
      go_wp2_with fail
      change bodyPost _ _ _ _ _ (putStd wB w.heap.size y)
      generalize putStd wB w.heap.size y = W8 at *
      obtain ⟨d0, d1, d2, d3, d4⟩ := T8.out.five
      exact bodyPost_ret (v := .tuple #[.agg #[.string ⟨y.id.toArray⟩, .int .i64 y.tr, .int .i64 y.he, .int .i64 y.co, .int .i64 y.ga], .int .i64 z]) (by simp [results, Try.results42, go_sem, d0, d1, d2, d3, d4]) rfl ⟨y, z, rfl, hy, HB.out⟩)
end Go.Proofs.Ytecobplmkdlagaa
