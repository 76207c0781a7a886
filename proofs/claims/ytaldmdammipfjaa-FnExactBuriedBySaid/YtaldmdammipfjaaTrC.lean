/-
  The terrain of a grid: the grid and its rows, which are pieces of its heights. The conditions: as of slices.Chunk.
-/
import Derived.Test.YtaldmdammipfjaaTrB
namespace Go.Proofs.Ytaldmdammipfjaa
open Go.RowKit Go.Shelf Go.Deep
set_option linter.unusedVariables false
set_option maxRecDepth 100000
/-- block g holds the rows -/
def RowsAt (w : World) (g hb ho C R : Nat) : Prop := g < w.heap.size ∧ ∀ k, k < R → w.cell? ⟨g, k, none⟩ = some (rowV hb ho C k)
theorem RowsAt.all {w w1 : World} {g hb ho C R : Nat} (h : RowsAt w g hb ho C R) (hb' : Below w.heap.size w w1) : RowsAt w1 g hb ho C R :=
  ⟨Nat.lt_of_lt_of_le h.1 hb'.size, fun k hk => (hb'.cell (p := ⟨g, k, none⟩) h.1).trans (h.2 k hk)⟩
theorem RowsAt.below {B : Nat} {w w1 : World} {g hb ho C R : Nat} (h : RowsAt w g hb ho C R) (hb' : Below B w w1) (hg : g < B) : RowsAt w1 g hb ho C R :=
  ⟨Nat.lt_of_lt_of_le h.1 hb'.size, fun k hk => (hb'.cell (p := ⟨g, k, none⟩) hg).trans (h.2 k hk)⟩
set_option maxHeartbeats 1600000 in
theorem collectRows_any (Bs Bn hb ho L cap C R : Nat) (hC : 1 ≤ C) (hL : L = R * C) (hcap : L ≤ cap) (hs : L ≤ 1000) (hho : ho + L ≤ 1000000) (hR : R ≤ 1000) (hR1 : 1 ≤ R)
    (w : World) (hBs0 : Bs < w.heap.size) (hBn0 : Bn < w.heap.size) (hBs : w.cell? ⟨Bs, 0, none⟩ = some (.slice (some ⟨hb, ho, none⟩) L cap)) (hBn : w.cell? ⟨Bn, 0, none⟩ = some (.int .i64 C)) :
    Calls Try.prog 111 #[.func (.func 125) #[] #[.pointer (some ⟨Bs, 0, none⟩), .pointer (some ⟨Bn, 0, none⟩)]] w fun e w' => ∃ g cap', e = .returned (.slice (some ⟨g, 0, none⟩) R cap') ∧ RowsAt w' g hb ho C R ∧ w.heap.size ≤ g ∧ Below w.heap.size w w' := by
  have A := Lib.hid (callsIn_wide.1 (appendRows_in Fence.wide 3 trivial trivial rfl (Nat.le_refl _) Bs Bn hb ho L cap C R hC hL hcap hs hho hR w hBs0 hBn0 hBs hBn))
  clear hBs hBn hL
  go_enter Try.func111, Try.ntmps111
  go_wp2_with fail
  refine A.out.mono ?_
  rintro e w1 ⟨v, rfl, hw, b1⟩
  obtain ⟨g, cap', rfl⟩ : ∃ g cap', v = .slice (some ⟨g, 0, none⟩) R cap' := by
    rcases Go.Joins.ownsRow_forms hw with ⟨rfl, hn⟩ | ⟨g, cap, rfl⟩
    · omega
    · exact ⟨g, cap, rfl⟩
  have hr : Hid (RowsAt w1 g hb ho C R) := Lib.hid ⟨(World.ownsRow.lt hw g rfl).2, fun k hk => by
    rw [World.ownsRow.cellAt hw k (by omega)]
    simp [hk]⟩
  have hg := (World.ownsRow.lt hw g rfl).1
  have B1 := Lib.hid b1
  clear hw b1 A
  go_wp2_with fail
  go_ret
  exact ⟨g, cap', rfl, hr.out, hg, B1.out⟩
/-- behind slices.Chunk: the grid's block, the block of the result and the two boxes -/
structure TB (w0 : World) (b hb ho L cap C : Nat) (r c s : Int) (w : World) : Prop where
  bl : Below w0.heap.size w0 w
  gc : GC w b r c s (.slice (some ⟨hb, ho, none⟩) L cap)
  rb : Whole w (b + 1) 87 #[.int .i64 0, .int .i64 0, .int .i64 0, .slice none 0 0, .slice none 0 0]
  b1 : w.cell? ⟨b + 2, 0, none⟩ = some (.slice (some ⟨hb, ho, none⟩) L cap)
  b2 : w.cell? ⟨b + 3, 0, none⟩ = some (.int .i64 C)
  sz : b + 4 ≤ w.heap.size
theorem TB.drewN {w0 : World} {b hb ho L cap C : Nat} {r c s : Int} {w : World} (h : TB w0 b hb ho L cap C r c s w) (q : Nat) : TB w0 b hb ho L cap C r c s (w.drewN q) :=
  ⟨below_drewN h.bl q, h.gc.drewN q, h.rb.drewN q, h.b1, h.b2, h.sz⟩
/-- a terrain's cells -/
def TeAt (w : World) (q : Nat) (r c s : Int) (v u : Value) : Prop := Whole w q 87 #[.int .i64 r, .int .i64 c, .int .i64 s, v, u]
theorem TeAt.five {w : World} {q : Nat} {r c s : Int} {v u : Value} (h : TeAt w q r c s v u) : w.cell? ⟨q, 0, none⟩ = some (.int .i64 r) ∧ w.cell? ⟨q, 1, none⟩ = some (.int .i64 c) ∧ w.cell? ⟨q, 2, none⟩ = some (.int .i64 s) ∧ w.cell? ⟨q, 3, none⟩ = some v ∧ w.cell? ⟨q, 4, none⟩ = some u := ⟨h.at_ 0, h.at_ 1, h.at_ 2, h.at_ 3, h.at_ 4⟩
theorem TeAt.free5 {w : World} {q : Nat} {r c s : Int} {v u : Value} (h : TeAt w q r c s v u) (i : Nat) : w.frozen? ⟨q, i, none⟩ = false := Whole.free h i
def putTe (w : World) (q : Nat) (r c s : Int) (v u : Value) : World := ((((w.setCell ⟨q, 0, none⟩ (.int .i64 r)).setCell ⟨q, 1, none⟩ (.int .i64 c)).setCell ⟨q, 2, none⟩ (.int .i64 s)).setCell ⟨q, 3, none⟩ v).setCell ⟨q, 4, none⟩ u
theorem TeAt.put {w : World} {q : Nat} {r c s : Int} {v u : Value} (h : TeAt w q r c s v u) (r' c' s' : Int) (v' u' : Value) : TeAt (putTe w q r' c' s' v' u') q r' c' s' v' u' := by
  have := ((((Whole.put h 0 (.int .i64 r')).put 1 (.int .i64 c')).put 2 (.int .i64 s')).put 3 v').put 4 u'
  unfold TeAt putTe
  simpa using this
theorem below_putTe {w0 w : World} {q : Nat} (h : Below w0.heap.size w0 w) (hq : w0.heap.size ≤ q) (r c s : Int) (v u : Value) : Below w0.heap.size w0 (putTe w q r c s v u) :=
  ((((h.setCell (p := ⟨q, 0, none⟩) hq _).setCell (p := ⟨q, 1, none⟩) hq _).setCell (p := ⟨q, 2, none⟩) hq _).setCell (p := ⟨q, 3, none⟩) hq _).setCell (p := ⟨q, 4, none⟩) hq _
theorem putTe_far {w : World} {q p i : Nat} (hn : p ≠ q) (r c s : Int) (v u : Value) : (putTe w q r c s v u).cell? ⟨p, i, none⟩ = w.cell? ⟨p, i, none⟩ := by
  unfold putTe
  rw [World.cell?_setCell_other, World.cell?_setCell_other, World.cell?_setCell_other, World.cell?_setCell_other, World.cell?_setCell_other] <;> first | (simp; done) | simpa using hn
theorem RowsAt.putTe {w : World} {g hb ho C R q : Nat} (h : RowsAt w g hb ho C R) (hn : g ≠ q) (r c s : Int) (v u : Value) : RowsAt (putTe w q r c s v u) g hb ho C R :=
  ⟨by have := h.1; unfold Go.Proofs.Ytaldmdammipfjaa.putTe; simpa [World.setCell] using this, fun k hk => (putTe_far hn r c s v u).trans (h.2 k hk)⟩
set_option maxHeartbeats 3200000 in
theorem terrainOf_any (w : World) (R C hb ho L cap : Nat) (s : Int) (hL : L = R * C) (hC : 1 ≤ C) (hcap : L ≤ cap) (hs : L ≤ 1000) (hho : ho + L ≤ 1000000) (hR : R ≤ 1000) (hR1 : 1 ≤ R) :
    Calls Try.prog 89 #[.agg #[.int .i64 R, .int .i64 C, .int .i64 s, .slice (some ⟨hb, ho, none⟩) L cap]] w fun e w' => ∃ g cap', e = .returned (.agg #[.int .i64 R, .int .i64 C, .int .i64 s, .slice (some ⟨hb, ho, none⟩) L cap, .slice (some ⟨g, 0, none⟩) R cap']) ∧ RowsAt w' g hb ho C R ∧ w.heap.size ≤ g ∧ Below w.heap.size w w' := by
  have KG := Lib.hid (boxG_cells w R C s (.slice (some ⟨hb, ho, none⟩) L cap) 29)
  have BG := Lib.hid (boxG_below w R C s (.slice (some ⟨hb, ho, none⟩) L cap) 29)
  have HL := Lib.hid hL
  clear hL
  unfold boxG at KG BG
  go_enter Try.func89, Try.ntmps89
  go_wp2_with fail
  obtain ⟨W0, hW0⟩ : ∃ u, (w.alloc (.cells #[.int .i64 R, .int .i64 C, .int .i64 s, .slice (some ⟨hb, ho, none⟩) L cap] 29)).alloc (.cells #[.int .i64 0, .int .i64 0, .int .i64 0, .slice none 0 0, .slice none 0 0] 87) = u := ⟨_, rfl⟩
  have hs0 : W0.heap.size = w.heap.size + 2 := by rw [← hW0]; simp
  have B0 : Hid (Below w.heap.size w W0) := Lib.hid (by rw [← hW0]; exact BG.out.alloc BG.out.size _)
  have G0 : Hid (GC W0 w.heap.size R C s (.slice (some ⟨hb, ho, none⟩) L cap)) := Lib.hid (by rw [← hW0]; exact KG.out.all ((Below.refl _ _).alloc (Nat.le_refl _) _))
  have R0 : Hid (Whole W0 (w.heap.size + 1) 87 #[.int .i64 0, .int .i64 0, .int .i64 0, .slice none 0 0, .slice none 0 0]) := Lib.hid (by
    rw [← hW0]
    have := Whole.new (w.alloc (.cells #[.int .i64 R, .int .i64 C, .int .i64 s, .slice (some ⟨hb, ho, none⟩) L cap] 29)) 87 #[.int .i64 0, .int .i64 0, .int .i64 0, .slice none 0 0, .slice none 0 0]
    rwa [World.size_alloc] at this)
  have CH : Hid (∀ q, Calls Try.prog 112 #[.slice (some ⟨hb, ho, none⟩) L cap, .int .i64 C] (W0.drewN q) fun e w' => e = .returned (.func (.func 125) #[] #[.pointer (some ⟨w.heap.size + 2, 0, none⟩), .pointer (some ⟨w.heap.size + 3, 0, none⟩)]) ∧ TB w w.heap.size hb ho L cap C R C s w') := Lib.hid (fun q => by
    refine (chunk_any (W0.drewN q) (some ⟨hb, ho, none⟩) L cap (C : Int) (by omega)).mono ?_
    rintro e w' ⟨rfl, rfl⟩
    have e0 : (W0.drewN q).heap.size = w.heap.size + 2 := hs0
    refine ⟨by rw [e0], ?_⟩
    have b1 := ((below_drewW W0 q).alloc (below_drewW W0 q).size (.cells #[.slice (some ⟨hb, ho, none⟩) L cap] 22))
    have b2 := b1.alloc b1.size (.cells #[.int .i64 C] 3)
    have t1 := (Whole.new (W0.drewN q) 22 #[.slice (some ⟨hb, ho, none⟩) L cap]).alloc (.cells #[.int .i64 C] 3)
    have t2 := Whole.new ((W0.drewN q).alloc (.cells #[.slice (some ⟨hb, ho, none⟩) L cap] 22)) 3 #[.int .i64 C]
    rw [World.size_alloc] at t2
    rw [e0] at t1 t2
    exact ⟨bt B0.out b2, G0.out.all b2, R0.out.all b2, t1.at_ 0, t2.at_ 0, by simp; omega⟩)
  have CO : Hid (∀ W1, TB w w.heap.size hb ho L cap C R C s W1 → Calls Try.prog 111 #[.func (.func 125) #[] #[.pointer (some ⟨w.heap.size + 2, 0, none⟩), .pointer (some ⟨w.heap.size + 3, 0, none⟩)]] W1 fun e w' => ∃ g cap', e = .returned (.slice (some ⟨g, 0, none⟩) R cap') ∧ RowsAt w' g hb ho C R ∧ w.heap.size + 2 ≤ g ∧ TB w w.heap.size hb ho L cap C R C s w') := Lib.hid (fun W1 h => by
    refine (collectRows_any (w.heap.size + 2) (w.heap.size + 3) hb ho L cap C R hC HL.out hcap hs hho hR hR1 W1 (by have := h.sz; omega) (by have := h.sz; omega) h.b1 h.b2).mono ?_
    rintro e w' ⟨g, cap', rfl, hr, hg, hb'⟩
    have hz := h.sz
    exact ⟨g, cap', rfl, hr, by omega, ⟨bt h.bl hb', h.gc.all hb', h.rb.all hb', (hb'.cell (p := ⟨w.heap.size + 2, 0, none⟩) (by show w.heap.size + 2 < _; omega)).trans h.b1, (hb'.cell (p := ⟨w.heap.size + 3, 0, none⟩) (by show w.heap.size + 3 < _; omega)).trans h.b2, Nat.le_trans hz hb'.size⟩⟩)
  rw [hW0]
  obtain ⟨a0, a1, a2, a3⟩ := G0.out.four
  clear hW0 KG BG
  go_region_held3 (fun w' => w'.cell? ⟨w.heap.size, 0, none⟩ = some (.int .i64 R) ∧ w'.cell? ⟨w.heap.size, 1, none⟩ = some (.int .i64 C) ∧ w'.cell? ⟨w.heap.size, 2, none⟩ = some (.int .i64 s) ∧ w'.cell? ⟨w.heap.size, 3, none⟩ = some (.slice (some ⟨hb, ho, none⟩) L cap)) (go_keep)
    (first
      | (go_at_call 112; refine (CH.out _).mono ?_; rintro e wA ⟨rfl, tA⟩; have TA := Lib.hid tA; obtain ⟨y0, y1, y2, y3⟩ := tA.gc.four; clear tA)
      | (go_at_call 111; refine (CO.out _ TA.out).mono ?_; rintro e wB ⟨g, cap', rfl, hr, hg, tB⟩; have HR := Lib.hid hr; have TBB := Lib.hid tB; obtain ⟨z0, z1, z2, z3⟩ := tB.gc.four; obtain ⟨e0, e1, e2, e3, e4⟩ := TeAt.five tB.rb; have f0 := Whole.free tB.rb 0; have f1 := Whole.free tB.rb 1; have f2 := Whole.free tB.rb 2; have f3 := Whole.free tB.rb 3; have f4 := Whole.free tB.rb 4; clear hr tB))
  all_goals (
    have T8 := Lib.hid (TeAt.put TBB.out.rb R C s (.slice (some ⟨hb, ho, none⟩) L cap) (.slice (some ⟨g, 0, none⟩) R cap'))
    have HB := Lib.hid (below_putTe TBB.out.bl (show w.heap.size ≤ w.heap.size + 1 by omega) R C s (.slice (some ⟨hb, ho, none⟩) L cap) (.slice (some ⟨g, 0, none⟩) R cap'))
    have HR8 := Lib.hid (HR.out.putTe (q := w.heap.size + 1) (by omega) R C s (.slice (some ⟨hb, ho, none⟩) L cap) (.slice (some ⟨g, 0, none⟩) R cap'))
    go_wp2_with fail
    change bodyPost _ _ _ _ _ (putTe wB (w.heap.size + 1) R C s (.slice (some ⟨hb, ho, none⟩) L cap) (.slice (some ⟨g, 0, none⟩) R cap'))
    generalize putTe wB (w.heap.size + 1) R C s (.slice (some ⟨hb, ho, none⟩) L cap) (.slice (some ⟨g, 0, none⟩) R cap') = W8 at *
    obtain ⟨d0, d1, d2, d3, d4⟩ := T8.out.five
    exact bodyPost_ret (v := .agg #[.int .i64 R, .int .i64 C, .int .i64 s, .slice (some ⟨hb, ho, none⟩) L cap, .slice (some ⟨g, 0, none⟩) R cap']) (by simp [results, Try.results89, go_sem, d0, d1, d2, d3, d4]) rfl ⟨g, cap', rfl, HR8.out, by omega, HB.out⟩)
end Go.Proofs.Ytaldmdammipfjaa
