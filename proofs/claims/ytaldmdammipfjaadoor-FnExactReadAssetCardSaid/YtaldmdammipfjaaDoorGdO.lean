/-
  Grids as arguments: three numbers and a slice of numbers; a grid in a block. No condition of its own.
-/
import Derived.Test.YtaldmdammipfjaaDoorFdL
namespace Go.Proofs.YtaldmdammipfjaaDoor
open Go.RowKit Go.ChangeShapes Go.WideShapes Go.Deep
set_option linter.unusedVariables false
set_option maxRecDepth 100000

section
variable {H : Type} {enc : TypeId × Value → H} {P : Program} {w : World} {base : Nat} {held : Bool}
theorem open_grid {r : Reach} {b0 : Nat} {t tI tS : TypeId} {fs : Array Field} {v : Value} {d : DataW H} {p : List MemPlace} (hs : P.underlying t = some (.struct fs)) (hone : oneCellFields P fs = true) (hC : P.cellsOf t = fs.size)
    (hT : fs.toList.map (·.type) = [tI, tI, tI, tS]) (hu : P.underlying tI = some (.int .i64)) (hS : P.underlying tS = some (.slice tI)) (hc : P.cellsOf tI = 1) (hv : Value.okWide P w r b0 t v) (h : DataW.Trod enc P w base (fun _ => true) held t v d p) :
    ∃ (x y z : Int) (a : Option Addr) (cap : Nat) (zs : List Int), v = .agg #[.int .i64 x, .int .i64 y, .int .i64 z, .slice a zs.length cap] ∧ zs.length ≤ maxLen ∧ Sl w (.slice a zs.length cap) zs ∧ (Lit.int .i64 x).wf = true ∧ (Lit.int .i64 y).wf = true ∧ (Lit.int .i64 z).wf = true := by
  obtain ⟨cs, rfl, hsz⟩ := okWide_struct hs hv
  obtain ⟨l⟩ := cs
  obtain ⟨fuel, hf⟩ := h
  obtain ⟨ys, n, _, _, hlen, hyl, hf⟩ := DataW.trod_struct hs hf
  obtain ⟨fs⟩ := fs
  have hlf : fs.length = 4 := by have := congrArg List.length hT; simpa using this
  match fs, hlf, hT with
  | [f0, f1, f2, f3], _, hT =>
    simp only [List.map_cons, List.map_nil, List.cons.injEq, and_true] at hT
    obtain ⟨t0, t1, t2, t3⟩ := hT
    have hl : l.length = 4 := by
      have : l.length = P.cellsOf t := hlen
      rw [this, hC]; rfl
    match l, hl with
    | [c0, c1, c2, c3], _ =>
      match ys, hyl with
      | [y0, y1, y2, y3], _ =>
        obtain ⟨o0, k0⟩ := hone_of hone 0 f0 rfl
        obtain ⟨o1, k1⟩ := hone_of hone 1 f1 rfl
        obtain ⟨o2, k2⟩ := hone_of hone 2 f2 rfl
        obtain ⟨o3, k3⟩ := hone_of hone 3 f3 rfl
        have h0 := hf 0 f0 rfl
        have h1 := hf 1 f1 rfl
        have h2 := hf 2 f2 rfl
        have h3 := hf 3 f3 rfl
        rw [o0, k0, t0] at h0
        rw [o1, k1, t1] at h1
        rw [o2, k2, t2] at h2
        rw [o3, k3, t3] at h3
        simp only [Value.cells, List.drop_zero, List.drop_succ_cons, List.take_succ_cons, List.take_zero, List.getElem?_cons_zero, List.getElem?_cons_succ] at h0 h1 h2 h3
        obtain ⟨x, hx, gx⟩ := DataW.trod_int hu h0
        obtain ⟨y, hy, gy⟩ := DataW.trod_int hu h1
        obtain ⟨z, hz, gz⟩ := DataW.trod_int hu h2
        simp only [List.cons.injEq, and_true] at hx hy hz
        subst hx hy hz
        rcases open_ints hS hu hc h3 with ⟨hcs, _⟩ | ⟨a, len, cap, zs, hcs, _, hl1, hm, hz, _, hcell, hwz⟩
        · simp only [List.cons.injEq, and_true] at hcs
          subst hcs
          exact ⟨x, y, z, none, 0, [], rfl, by simp, Or.inl ⟨rfl, _, _, rfl⟩, gx.2, gy.2, gz.2⟩
        · simp only [List.cons.injEq, and_true] at hcs
          subst hcs
          have hz' : zs.length = cap := by simpa using hz
          obtain ⟨s1, s2⟩ := Sl.of_row (w := w) (a := some a) (len := len) (cap := cap) (zs := zs) (Or.inr ⟨a, rfl, hl1, hm, hz', hcell, hwz⟩)
          refine ⟨x, y, z, some a, cap, zs.take len, by rw [s2], by rw [s2]; omega, by rw [s2]; exact s1, gx.2, gy.2, gz.2⟩
end
/-- the four cells of a grid -/
structure GC (w : World) (b : Nat) (r c s : Int) (v : Value) : Prop where
  c0 : w.cell? ⟨b, 0, none⟩ = some (.int .i64 r)
  c1 : w.cell? ⟨b, 1, none⟩ = some (.int .i64 c)
  c2 : w.cell? ⟨b, 2, none⟩ = some (.int .i64 s)
  c3 : w.cell? ⟨b, 3, none⟩ = some v
theorem GC.below {w w1 : World} {b : Nat} {r c s : Int} {v : Value} (h : GC w b r c s v) {B : Nat} (hb : Below B w w1) (hlt : b < B) : GC w1 b r c s v :=
  ⟨(hb.cell (p := ⟨b, 0, none⟩) hlt).trans h.c0, (hb.cell (p := ⟨b, 1, none⟩) hlt).trans h.c1, (hb.cell (p := ⟨b, 2, none⟩) hlt).trans h.c2, (hb.cell (p := ⟨b, 3, none⟩) hlt).trans h.c3⟩
theorem GC.lt {w : World} {b : Nat} {r c s : Int} {v : Value} (h : GC w b r c s v) : b < w.heap.size := World.block_lt_of_cell? w _ h.c0
theorem GC.all {w w1 : World} {b : Nat} {r c s : Int} {v : Value} (h : GC w b r c s v) (hb : Below w.heap.size w w1) : GC w1 b r c s v := h.below hb h.lt
theorem GC.drewN {w : World} {b : Nat} {r c s : Int} {v : Value} (h : GC w b r c s v) (q : Nat) : GC (w.drewN q) b r c s v := ⟨by simpa using h.c0, by simpa using h.c1, by simpa using h.c2, by simpa using h.c3⟩
theorem GC.four {b : Nat} {w : World} {r c s : Int} {v : Value} (h : GC w b r c s v) : w.cell? ⟨b, 0, none⟩ = some (.int .i64 r) ∧ w.cell? ⟨b, 1, none⟩ = some (.int .i64 c) ∧ w.cell? ⟨b, 2, none⟩ = some (.int .i64 s) ∧ w.cell? ⟨b, 3, none⟩ = some v := ⟨h.c0, h.c1, h.c2, h.c3⟩
/-- the world with a grid in a new block -/
def boxG (w : World) (r c s : Int) (v : Value) (t : TypeId) : World := w.alloc (.cells #[.int .i64 r, .int .i64 c, .int .i64 s, v] t)
theorem boxG_cells (w : World) (r c s : Int) (v : Value) (t : TypeId) : GC (boxG w r c s v t) w.heap.size r c s v := by
  have h := fun j => cell_of_row _ w.heap.size j _ t (0, 0) (heap_alloc_new w (.cells #[.int .i64 r, .int .i64 c, .int .i64 s, v] t))
  exact ⟨h 0, h 1, h 2, h 3⟩
theorem boxG_size (w : World) (r c s : Int) (v : Value) (t : TypeId) : (boxG w r c s v t).heap.size = w.heap.size + 1 := by simp [boxG]
theorem boxG_below (w : World) (r c s : Int) (v : Value) (t : TypeId) : Below w.heap.size w (boxG w r c s v t) := (Below.refl _ _).alloc (Nat.le_refl _) _
theorem boxG_kept {w w1 : World} {r c s : Int} {v : Value} {t : TypeId} (h : Below (boxG w r c s v t).heap.size (boxG w r c s v t) w1) : GC w1 w.heap.size r c s v := (boxG_cells w r c s v t).below h (by rw [boxG_size]; omega)
theorem GC.grow {w w1 : World} {b : Nat} {r c s : Int} {v : Value} {q : Option Nat} (h : GC w b r c s v) (hg : w.grownBy w1 q) (hb : ∀ j, q = some j → b ≠ j) : GC w1 b r c s v := by
  have e : w1.heap[b]? = w.heap[b]? := hg.block b h.lt (fun e => hb b e.symm rfl)
  exact ⟨by unfold World.cell?; rw [e]; exact h.c0, by unfold World.cell?; rw [e]; exact h.c1, by unfold World.cell?; rw [e]; exact h.c2, by unfold World.cell?; rw [e]; exact h.c3⟩
/-- a grid written into a block -/
def setG (w : World) (g : Nat) (a b c : Int) (v : Value) : World := (((w.setCell ⟨g, 0, none⟩ (.int .i64 a)).setCell ⟨g, 1, none⟩ (.int .i64 b)).setCell ⟨g, 2, none⟩ (.int .i64 c)).setCell ⟨g, 3, none⟩ v
theorem setG_whole {w : World} {g : Nat} {t : TypeId} {x y z u : Value} (h : Whole w g t #[x, y, z, u]) (a b c : Int) (v : Value) : Whole (setG w g a b c v) g t #[.int .i64 a, .int .i64 b, .int .i64 c, v] := by
  have := (((h.put 0 (.int .i64 a)).put 1 (.int .i64 b)).put 2 (.int .i64 c)).put 3 v
  simpa [setG] using this
theorem setG_below {B : Nat} {w0 w : World} {g : Nat} (h : Below B w0 w) (hg : B ≤ g) (a b c : Int) (v : Value) : Below B w0 (setG w g a b c v) :=
  (((h.setCell (p := ⟨g, 0, none⟩) hg _).setCell (p := ⟨g, 1, none⟩) hg _).setCell (p := ⟨g, 2, none⟩) hg _).setCell (p := ⟨g, 3, none⟩) hg _
theorem setG_only (w : World) (g : Nat) (a b c : Int) (v : Value) : w.grownBy (setG w g a b c v) (some g) := by
  have h1 := only_setCell (a := w) (w := w) (g := g) (p := ⟨g, 0, none⟩) (World.grownBy.refl _ _) rfl (.int .i64 a)
  have h2 := only_setCell (p := ⟨g, 1, none⟩) h1 rfl (.int .i64 b)
  have h3 := only_setCell (p := ⟨g, 2, none⟩) h2 rfl (.int .i64 c)
  exact only_setCell (p := ⟨g, 3, none⟩) h3 rfl v
set_option maxHeartbeats 800000 in
theorem szGrid_in (w : World) (r c s : Int) (a : Option Addr) (n cap : Nat) (z : Int) (h : (n : Int) ≤ z) (h2 : z ≤ 1048576) :
    Calls Tryd.prog 8 #[.agg #[.int .i64 r, .int .i64 c, .int .i64 s, .slice a n cap], .int .i64 z] w fun e w' => e = .returned (.int .i64 (z - n)) ∧ Below w.heap.size w w' := by
  have C := Lib.hid (fun W => szInt64S_in W a n cap z h h2)
  have hz : ¬ z - n < 0 := by omega
  go_enter Tryd.func8, Tryd.ntmps8
  go_wp2_with fail
  refine (C.out _).mono ?_
  rintro e w1 ⟨rfl, rfl⟩
  go_wp2_with fail
  go_ret
  exact ⟨rfl, (Below.refl _ _).alloc (Nat.le_refl _) _⟩
set_option maxHeartbeats 800000 in
theorem szGrid_out (w : World) (r c s : Int) (a : Option Addr) (n cap : Nat) (z : Int) (hn : n ≤ 9223372036854775807) (h : z < (n : Int)) (h1 : 0 ≤ z) :
    Calls Tryd.prog 8 #[.agg #[.int .i64 r, .int .i64 c, .int .i64 s, .slice a n cap], .int .i64 z] w fun e w' => e = .returned (.int .i64 (-1)) ∧ Below w.heap.size w w' := by
  have C := Lib.hid (fun W => szInt64S_out W a n cap z hn h h1)
  go_enter Tryd.func8, Tryd.ntmps8
  go_wp2_with fail
  refine (C.out _).mono ?_
  rintro e w1 ⟨rfl, rfl⟩
  go_wp2_with fail
  go_ret
  exact ⟨rfl, (Below.refl _ _).alloc (Nat.le_refl _) _⟩
def threeG (w : World) (r c s : Int) (v : Value) : World := ((w.alloc (.cells #[.int .i64 r, .int .i64 c, .int .i64 s, v] 24)).alloc (.cells #[.int .i64 0, .int .i64 0, .int .i64 0, .slice none 0 0] 30)).alloc (.cells #[.int .i64 r, .int .i64 c, .int .i64 s, .slice none 0 0] 30)
theorem threeG_size (w : World) (r c s : Int) (v : Value) : (threeG w r c s v).heap.size = w.heap.size + 3 := by simp [threeG]
theorem threeG_below (w : World) (r c s : Int) (v : Value) : Below w.heap.size w (threeG w r c s v) := (((Below.refl _ _).alloc (Nat.le_refl _) _).alloc (by simp) _).alloc (by simp; omega) _
theorem threeG_new (w : World) (r c s : Int) (v : Value) : Whole (threeG w r c s v) (w.heap.size + 1) 30 #[.int .i64 0, .int .i64 0, .int .i64 0, .slice none 0 0] ∧ Whole (threeG w r c s v) (w.heap.size + 2) 30 #[.int .i64 r, .int .i64 c, .int .i64 s, .slice none 0 0] := by
  constructor
  · have := Whole.new (w.alloc (.cells #[.int .i64 r, .int .i64 c, .int .i64 s, v] 24)) 30 #[.int .i64 0, .int .i64 0, .int .i64 0, .slice none 0 0]
    rw [show (w.alloc (.cells #[.int .i64 r, .int .i64 c, .int .i64 s, v] 24)).heap.size = w.heap.size + 1 by simp] at this
    exact this.alloc _
  · have := Whole.new ((w.alloc (.cells #[.int .i64 r, .int .i64 c, .int .i64 s, v] 24)).alloc (.cells #[.int .i64 0, .int .i64 0, .int .i64 0, .slice none 0 0] 30)) 30 #[.int .i64 r, .int .i64 c, .int .i64 s, .slice none 0 0]
    rwa [show ((w.alloc (.cells #[.int .i64 r, .int .i64 c, .int .i64 s, v] 24)).alloc (.cells #[.int .i64 0, .int .i64 0, .int .i64 0, .slice none 0 0] 30)).heap.size = w.heap.size + 2 by simp] at this
set_option maxHeartbeats 1600000 in
/-- the copy of a grid: its heights lie in a block that is known -/
theorem toGrid_at (w : World) (r c s : Int) (v : Value) (zs : List Int) (hv : Sl w v zs) (hl : zs.length ≤ 1048576) :
    Calls Tryd.prog 11 #[.agg #[.int .i64 r, .int .i64 c, .int .i64 s, v]] w fun e w' => ∃ g, e = .returned (.agg #[.int .i64 r, .int .i64 c, .int .i64 s, .slice (some ⟨g, 0, none⟩) zs.length zs.length]) ∧ w.heap.size ≤ g ∧ g < w'.heap.size ∧ Own w.heap.size w' (.slice (some ⟨g, 0, none⟩) zs.length zs.length) zs ∧ Below w.heap.size w w' := by
  have C := Lib.hid (toInt64S_at (threeG w r c s v) v zs (hv.below (threeG_below w r c s v)) hl)
  have hn := threeG_size w r c s v
  rw [hn] at C
  have HN := Lib.hid hn
  clear hv hn
  go_enter Tryd.func11, Tryd.ntmps11
  go_wp2_with fail
  refine C.out.mono ?_
  rintro e w1 ⟨rfl, o1, b1⟩
  have hlt : w.heap.size + 3 < w1.heap.size := (World.ownsRow.lt o1 _ rfl).2
  have b1' : Below (threeG w r c s v).heap.size (threeG w r c s v) w1 := by rw [HN.out]; exact b1
  have K1 := (threeG_new w r c s v).1.all b1'
  have K2 : Whole w1 (w.heap.size + 1 + 1) 30 #[.int .i64 r, .int .i64 c, .int .i64 s, .slice none 0 0] := (threeG_new w r c s v).2.all b1'
  have k0 := K2.at_ 0
  have k1 := K2.at_ 1
  have k2 := K2.at_ 2
  have k3 := K2.at_ 3
  have kf := K2.free 3
  have O1 := Lib.hid o1
  have B1 := Lib.hid (bt (threeG_below w r c s v) b1')
  have h0 := K1.at_ 0
  have h1 := K1.at_ 1
  have h2 := K1.at_ 2
  have h3 := K1.at_ 3
  have f0 := K1.free 0
  have f1 := K1.free 1
  have f2 := K1.free 2
  have f3 := K1.free 3
  have HK1 := Lib.hid K1
  clear o1 b1 b1' C K1 K2
  go_wp2_with fail
  have hg2 : w1.grownBy (w1.setCell ⟨w.heap.size + 1 + 1, 3, none⟩ (.slice (some ⟨w.heap.size + 3, 0, none⟩) zs.length zs.length)) (some (w.heap.size + 1 + 1)) := only_setCell (p := ⟨w.heap.size + 1 + 1, 3, none⟩) (World.grownBy.refl _ _) rfl _
  have W2 := HK1.out.far hg2 (by omega)
  have W3 := setG_whole W2 r c s (.slice (some ⟨w.heap.size + 3, 0, none⟩) zs.length zs.length)
  have d0 := W3.at_ 0
  have d1 := W3.at_ 1
  have d2 := W3.at_ 2
  have d3 := W3.at_ 3
  have O2 := own_other O1.out hg2 (by omega)
  have O3 := own_other O2 (setG_only _ (w.heap.size + 1) r c s (.slice (some ⟨w.heap.size + 3, 0, none⟩) zs.length zs.length)) (by omega)
  unfold setG at d0 d1 d2 d3 O3
  exact bodyPost_ret (v := .agg #[.int .i64 r, .int .i64 c, .int .i64 s, .slice (some ⟨w.heap.size + 3, 0, none⟩) zs.length zs.length]) (by simp [results, Tryd.results11, go_sem, d0, d1, d2, d3]) rfl ⟨_, rfl, by omega, by simpa using hlt, Own.le O3 (by omega), setG_below (B1.out.setCell (p := ⟨w.heap.size + 1 + 1, 3, none⟩) (by simp; omega) _) (by omega) r c s _⟩
set_option maxHeartbeats 1600000 in
theorem eqGrid_self (w : World) (r c s : Int) (v u : Value) (zs : List Int) (hv : Sl w v zs) (hu : Sl w u zs) (hl : zs.length ≤ 1048576) :
    Calls Tryd.prog 16 #[.agg #[.int .i64 r, .int .i64 c, .int .i64 s, v], .agg #[.int .i64 r, .int .i64 c, .int .i64 s, u]] w fun e w' => e = .returned (.bool true) ∧ Below w.heap.size w w' := by
  have C := Lib.hid (fun W h => eqInt64S_any W v u zs zs (hv.below h) (hu.below h) hl hl)
  have hr : (r != r) = false := bne_self_eq_false' _
  have hc : (c != c) = false := bne_self_eq_false' _
  have hs : (s != s) = false := bne_self_eq_false' _
  clear hv hu
  go_enter Tryd.func16, Tryd.ntmps16
  go_wp2_with fail
  refine (C.out _ (((Below.refl _ _).alloc (Nat.le_refl _) _).alloc (by simp) _)).mono ?_
  rintro e w1 ⟨rfl, b1⟩
  have B1 := Lib.hid (bt (((Below.refl _ _).alloc (Nat.le_refl _) _).alloc (by simp) _) b1)
  clear b1
  rw [show (zs == zs) = true from beq_self_eq_true _]
  go_wp2_with fail
  go_ret
  exact ⟨rfl, B1.out⟩
set_option maxHeartbeats 1600000 in
theorem markGrid_own (B : Nat) (w : World) (r c s : Int) (g n cap : Nat) (zs : List Int) (k0 : Int) (h0 : 1 ≤ k0) (h1 : k0 ≤ 1000000000) (ho : Own B w (.slice (some ⟨g, 0, none⟩) n cap) zs) (hn : n = zs.length) (hl : n ≤ 1048576) :
    Calls Tryd.prog 18 #[.agg #[.int .i64 r, .int .i64 c, .int .i64 s, .slice (some ⟨g, 0, none⟩) n cap], .int .i64 k0] w fun e w' => e = .returned (.int .i64 (k0 + (n : Int))) ∧ Own B w' (.slice (some ⟨g, 0, none⟩) n cap) (upTo k0 n) ∧ w.grownBy w' (some g) := by
  have hb : Below w.heap.size w (boxG w r c s (.slice (some ⟨g, 0, none⟩) n cap) 30) := boxG_below ..
  have hg : w.grownBy (boxG w r c s (.slice (some ⟨g, 0, none⟩) n cap) 30) (some g) := only_of_below hb _
  have ho' : (boxG w r c s (.slice (some ⟨g, 0, none⟩) n cap) 30).ownsRow B 2 1 (.slice (some ⟨g, 0, none⟩) n cap) n (iv zs) := by
    have := ho.belowAll hb
    unfold Own at this; rwa [← hn] at this
  have C := Lib.hid (markInt64S_own B _ g n cap (iv zs) k0 h0 h1 ho' hl)
  have HG := Lib.hid hg
  clear ho ho' hb hg hn
  go_enter Tryd.func18, Tryd.ntmps18
  go_wp2_with fail
  refine C.out.mono ?_
  rintro e w1 ⟨rfl, o1, g1⟩
  have O1 : Hid (Own B w1 (.slice (some ⟨g, 0, none⟩) n cap) (upTo k0 n)) := Lib.hid (by unfold Own; rw [upTo_length]; exact o1)
  have G1 := Lib.hid (only_trans HG.out g1)
  clear o1 g1
  go_wp2_with fail
  go_ret
  exact ⟨rfl, O1.out, G1.out⟩
set_option maxHeartbeats 1600000 in
theorem markGrid_g (B : Nat) (w : World) (r c s : Int) (v : Value) (zs : List Int) (k0 : Int) (h0 : 1 ≤ k0) (h1 : k0 ≤ 1000000000) (ho : Own B w v zs) (hl : zs.length ≤ 1048576) :
    Calls Tryd.prog 18 #[.agg #[.int .i64 r, .int .i64 c, .int .i64 s, v], .int .i64 k0] w fun e w' => e = .returned (.int .i64 (k0 + (zs.length : Int))) ∧ Own B w' v (upTo k0 zs.length) ∧ w.grownBy w' v.ownBlock := by
  have hb : Below w.heap.size w (boxG w r c s v 30) := boxG_below ..
  have C := Lib.hid (markInt64S_g B _ v zs k0 h0 h1 (ho.belowAll hb) hl)
  have HG := Lib.hid (only_of_below hb v.ownBlock)
  clear ho hb
  go_enter Tryd.func18, Tryd.ntmps18
  go_wp2_with fail
  refine C.out.mono ?_
  rintro e w1 ⟨rfl, o1, g1⟩
  have O1 := Lib.hid o1
  have G1 := Lib.hid (only_trans HG.out g1)
  clear o1 g1
  go_wp2_with fail
  go_ret
  exact ⟨rfl, O1.out, G1.out⟩
end Go.Proofs.YtaldmdammipfjaaDoor
