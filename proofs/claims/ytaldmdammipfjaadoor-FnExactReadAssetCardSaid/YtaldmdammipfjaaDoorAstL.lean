/-
  The laws' own helpers on Asset and slices of it. No condition of its own.
-/
import Derived.Test.YtaldmdammipfjaaDoorAstS
import Derived.Test.YtaldmdammipfjaaDoorMark
import Derived.Deep.QuietTactic
import Derived.BigQuiet
import Derived.StillTailTactics
import Derived.Deep.RegionHeld3
namespace Go.Proofs.YtaldmdammipfjaaDoor
open Go.RowKit Go.Deep
set_option linter.unusedVariables false
set_option maxRecDepth 100000

set_option maxHeartbeats 1600000 in
theorem szAsset_in (x : Ast) (a : Option Addr) (cap : Nat) (w : World) (z : Int) (h : (As.szn x : Int) ≤ z) (h2 : z ≤ 1048576) :
    Calls Tryd.prog 24 #[.agg #[.string ⟨x.id.toArray⟩, .slice a x.ce.length cap, .int .i64 x.wo], .int .i64 z] w fun e w' => e = .returned (.int .i64 (z - As.szn x)) ∧ Below w.heap.size w w' := by
  unfold As.szn at *
  have g0 : ¬ z - (x.id.length : Int) < 0 := by omega
  have g1 : ¬ z - (x.id.length : Int) - (x.ce.length : Int) < 0 := by omega
  have C := Lib.hid (fun W => szInt64S_in W a x.ce.length cap (z - (x.id.length : Int)) (by omega) (by omega))
  go_enter Tryd.func24, Tryd.ntmps24
  go_wp2_with fail
  refine (C.out _).mono ?_
  rintro e w1 ⟨rfl, rfl⟩
  go_wp2_with fail
  go_ret
  exact ⟨ret_int (by push_cast; omega), (Below.refl _ _).alloc (Nat.le_refl _) _⟩
set_option maxHeartbeats 1600000 in
theorem szAsset_out (x : Ast) (a : Option Addr) (cap : Nat) (w : World) (z : Int) (hb : As.Bd x) (h0 : 0 ≤ z) (h : z < (As.szn x : Int)) (h2 : z ≤ 1048576) :
    Calls Tryd.prog 24 #[.agg #[.string ⟨x.id.toArray⟩, .slice a x.ce.length cap, .int .i64 x.wo], .int .i64 z] w fun e w' => e = .returned (.int .i64 (-1)) ∧ Below w.heap.size w w' := by
  unfold As.szn at *
  unfold As.Bd maxLen at hb
  by_cases e0 : z - (x.id.length : Int) < 0
  · go_enter Tryd.func24, Tryd.ntmps24
    go_wp2_with fail
    go_ret
    exact ⟨rfl, (Below.refl _ _).alloc (Nat.le_refl _) _⟩
  · skip
    have e1 : z - (x.id.length : Int) - (x.ce.length : Int) < 0 := by omega
    have C := Lib.hid (fun W => szInt64S_out W a x.ce.length cap (z - (x.id.length : Int)) (by omega) (by omega) (by omega))
    go_enter Tryd.func24, Tryd.ntmps24
    go_wp2_with fail
    refine (C.out _).mono ?_
    rintro e w1 ⟨rfl, rfl⟩
    go_wp2_with fail
    go_ret
    exact ⟨rfl, (Below.refl _ _).alloc (Nat.le_refl _) _⟩
/-- one written into a block -/
def setAst (w : World) (g : Nat) (x : Ast) (u : Value) : World := (((w.setCell ⟨g, 0, none⟩ (.string ⟨x.id.toArray⟩)).setCell ⟨g, 1, none⟩ (u)).setCell ⟨g, 2, none⟩ (.int .i64 x.wo))
theorem setAst_whole {w : World} {g : Nat} {t : TypeId} {y0 y1 y2 : Value} (h : Whole w g t #[y0, y1, y2]) (x : Ast) (u : Value) : Whole (setAst w g x u) g t #[.string ⟨x.id.toArray⟩, u, .int .i64 x.wo] := by
  have := ((h.put 0 (.string ⟨x.id.toArray⟩)).put 1 (u)).put 2 (.int .i64 x.wo)
  simpa [setAst] using this
theorem setAst_below {B : Nat} {w0 w : World} {g : Nat} (h : Below B w0 w) (hg : B ≤ g) (x : Ast) (u : Value) : Below B w0 (setAst w g x u) :=
  ((h.setCell (p := ⟨g, 0, none⟩) hg _).setCell (p := ⟨g, 1, none⟩) hg _).setCell (p := ⟨g, 2, none⟩) hg _
theorem setAst_only (w : World) (g : Nat) (x : Ast) (u : Value) : w.grownBy (setAst w g x u) (some g) := by
  have h0 := only_setCell (a := w) (w := w) (g := g) (p := ⟨g, 0, none⟩) (World.grownBy.refl _ _) rfl (.string ⟨x.id.toArray⟩)
  have h1 := only_setCell (p := ⟨g, 1, none⟩) h0 rfl (u)
  have h2 := only_setCell (p := ⟨g, 2, none⟩) h1 rfl (.int .i64 x.wo)
  exact h2
/-- one in a new block -/
def boxAst (w : World) (x : Ast) (u : Value) (t : TypeId) : World := w.alloc (.cells #[.string ⟨x.id.toArray⟩, u, .int .i64 x.wo] t)
theorem boxAst_whole (w : World) (x : Ast) (u : Value) (t : TypeId) : Whole (boxAst w x u t) w.heap.size t #[.string ⟨x.id.toArray⟩, u, .int .i64 x.wo] := Whole.new w t _
theorem boxAst_size (w : World) (x : Ast) (u : Value) (t : TypeId) : (boxAst w x u t).heap.size = w.heap.size + 1 := by simp [boxAst]
theorem boxAst_below (w : World) (x : Ast) (u : Value) (t : TypeId) : Below w.heap.size w (boxAst w x u t) := (Below.refl _ _).alloc (Nat.le_refl _) _
def threeAst (w : World) (x : Ast) (u : Value) : World := ((w.alloc (.cells #[.string ⟨x.id.toArray⟩, u, .int .i64 x.wo] 45)).alloc (.cells #[.string ⟨#[]⟩, .slice none 0 0, .int .i64 0] 48)).alloc (.cells #[.string ⟨x.id.toArray⟩, .slice none 0 0, .int .i64 0] 48)
theorem threeAst_size (w : World) (x : Ast) (u : Value) : (threeAst w x u).heap.size = w.heap.size + 3 := by simp [threeAst]
theorem threeAst_below (w : World) (x : Ast) (u : Value) : Below w.heap.size w (threeAst w x u) := (((Below.refl _ _).alloc (Nat.le_refl _) _).alloc (by simp) _).alloc (by simp; omega) _
theorem threeAst_new (w : World) (x : Ast) (u : Value) : Whole (threeAst w x u) w.heap.size 45 #[.string ⟨x.id.toArray⟩, u, .int .i64 x.wo] ∧ Whole (threeAst w x u) (w.heap.size + 1) 48 #[.string ⟨#[]⟩, .slice none 0 0, .int .i64 0] ∧ Whole (threeAst w x u) (w.heap.size + 2) 48 #[.string ⟨x.id.toArray⟩, .slice none 0 0, .int .i64 0] := by
  refine ⟨((Whole.new w 45 #[.string ⟨x.id.toArray⟩, u, .int .i64 x.wo]).alloc _).alloc _, ?_, ?_⟩
  · have := Whole.new (w.alloc (.cells #[.string ⟨x.id.toArray⟩, u, .int .i64 x.wo] 45)) 48 #[.string ⟨#[]⟩, .slice none 0 0, .int .i64 0]
    rw [show (w.alloc (.cells #[.string ⟨x.id.toArray⟩, u, .int .i64 x.wo] 45)).heap.size = w.heap.size + 1 by simp] at this
    exact this.alloc _
  · have := Whole.new ((w.alloc (.cells #[.string ⟨x.id.toArray⟩, u, .int .i64 x.wo] 45)).alloc (.cells #[.string ⟨#[]⟩, .slice none 0 0, .int .i64 0] 48)) 48 #[.string ⟨x.id.toArray⟩, .slice none 0 0, .int .i64 0]
    rwa [show ((w.alloc (.cells #[.string ⟨x.id.toArray⟩, u, .int .i64 x.wo] 45)).alloc (.cells #[.string ⟨#[]⟩, .slice none 0 0, .int .i64 0] 48)).heap.size = w.heap.size + 2 by simp] at this
set_option maxHeartbeats 1600000 in
/-- the copy of one: its list lies in a block that is known -/
theorem toAsset_at (x : Ast) (u : Value) (w : World) (hv : Sl w u x.ce) (hl : x.ce.length ≤ 1048576) :
    Calls Tryd.prog 26 #[.agg #[.string ⟨x.id.toArray⟩, u, .int .i64 x.wo]] w fun e w' => ∃ g, e = .returned (.agg #[.string ⟨x.id.toArray⟩, .slice (some ⟨g, 0, none⟩) x.ce.length x.ce.length, .int .i64 x.wo]) ∧ w.heap.size ≤ g ∧ g < w'.heap.size ∧ Own w.heap.size w' (.slice (some ⟨g, 0, none⟩) x.ce.length x.ce.length) x.ce ∧ Below w.heap.size w w' := by
  have C := Lib.hid (toInt64S_at (threeAst w x u) u x.ce (hv.below (threeAst_below w x u)) hl)
  have hn := threeAst_size w x u
  rw [hn] at C
  have HN := Lib.hid hn
  clear hv hn
  go_enter Tryd.func26, Tryd.ntmps26
  go_wp2_with fail
  refine C.out.mono ?_
  rintro e w1 ⟨rfl, o1, b1⟩
  have hlt : w.heap.size + 3 < w1.heap.size := (World.ownsRow.lt o1 _ rfl).2
  have b1' : Below (threeAst w x u).heap.size (threeAst w x u) w1 := by rw [HN.out]; exact b1
  have K0 := (threeAst_new w x u).1.all b1'
  have K1 := (threeAst_new w x u).2.1.all b1'
  have K2 : Whole w1 (w.heap.size + 1 + 1) 48 #[.string ⟨x.id.toArray⟩, .slice none 0 0, .int .i64 0] := (threeAst_new w x u).2.2.all b1'
  have p0 := K0.at_ 0
  have k0 := K2.at_ 0
  have kf0 := K2.free 0
  have h0 := K1.at_ 0
  have f0 := K1.free 0
  have p1 := K0.at_ 1
  have k1 := K2.at_ 1
  have kf1 := K2.free 1
  have h1 := K1.at_ 1
  have f1 := K1.free 1
  have p2 := K0.at_ 2
  have k2 := K2.at_ 2
  have kf2 := K2.free 2
  have h2 := K1.at_ 2
  have f2 := K1.free 2
  have O1 := Lib.hid o1
  have B1 := Lib.hid (bt (threeAst_below w x u) b1')
  have HK1 := Lib.hid K1
  have HLT := Lib.hid hlt
  have HG : Hid (w1.grownBy ((w1.setCell ⟨w.heap.size + 1 + 1, 1, none⟩ (.slice (some ⟨w.heap.size + 3, 0, none⟩) x.ce.length x.ce.length)).setCell ⟨w.heap.size + 1 + 1, 2, none⟩ (.int .i64 x.wo)) (some (w.heap.size + 1 + 1))) := Lib.hid (by
    have a0 := only_setCell (p := ⟨w.heap.size + 1 + 1, 1, none⟩) (World.grownBy.refl w1 (some (w.heap.size + 1 + 1))) rfl (.slice (some ⟨w.heap.size + 3, 0, none⟩) x.ce.length x.ce.length)
    have a1 := only_setCell (p := ⟨w.heap.size + 1 + 1, 2, none⟩) (a0) rfl (.int .i64 x.wo)
    exact a1)
  clear o1 b1 b1' C K0 K1 K2 hlt
  go_wp2_with fail
  have W2 := HK1.out.far HG.out (by omega)
  have W3 := setAst_whole W2 x (.slice (some ⟨w.heap.size + 3, 0, none⟩) x.ce.length x.ce.length)
  have d0 := W3.at_ 0
  have d1 := W3.at_ 1
  have d2 := W3.at_ 2
  have O2 := own_other O1.out HG.out (by omega)
  have O3 := own_other O2 (setAst_only _ (w.heap.size + 1) x (.slice (some ⟨w.heap.size + 3, 0, none⟩) x.ce.length x.ce.length)) (by omega)
  have hsz := only_below HG.out (show w.heap.size ≤ w.heap.size + 1 + 1 by omega) (by have := HLT.out; omega)
  have B3 := setAst_below (B1.out.trans hsz) (show w.heap.size ≤ w.heap.size + 1 by omega) x (.slice (some ⟨w.heap.size + 3, 0, none⟩) x.ce.length x.ce.length)
  have S3 : w.heap.size + 3 < (setAst ((w1.setCell ⟨w.heap.size + 1 + 1, 1, none⟩ (.slice (some ⟨w.heap.size + 3, 0, none⟩) x.ce.length x.ce.length)).setCell ⟨w.heap.size + 1 + 1, 2, none⟩ (.int .i64 x.wo)) (w.heap.size + 1) x (.slice (some ⟨w.heap.size + 3, 0, none⟩) x.ce.length x.ce.length)).heap.size := by
    have h1 := (setAst_only ((w1.setCell ⟨w.heap.size + 1 + 1, 1, none⟩ (.slice (some ⟨w.heap.size + 3, 0, none⟩) x.ce.length x.ce.length)).setCell ⟨w.heap.size + 1 + 1, 2, none⟩ (.int .i64 x.wo)) (w.heap.size + 1) x (.slice (some ⟨w.heap.size + 3, 0, none⟩) x.ce.length x.ce.length)).size
    have h2 := HG.out.size
    have h3 := HLT.out
    omega
  unfold setAst at d0 d1 d2 O3 B3 S3
  exact bodyPost_ret (v := .agg #[.string ⟨x.id.toArray⟩, .slice (some ⟨w.heap.size + 3, 0, none⟩) x.ce.length x.ce.length, .int .i64 x.wo]) (by simp [results, Tryd.results26, go_sem, d0, d1, d2]) rfl ⟨_, rfl, by omega, S3, Own.le O3 (by omega), B3⟩
def twoAst (w : World) (x : Ast) (v u : Value) : World := (w.alloc (.cells #[.string ⟨x.id.toArray⟩, v, .int .i64 x.wo] 48)).alloc (.cells #[.string ⟨x.id.toArray⟩, u, .int .i64 x.wo] 48)
theorem twoAst_below (w : World) (x : Ast) (v u : Value) : Below w.heap.size w (twoAst w x v u) := ((Below.refl _ _).alloc (Nat.le_refl _) _).alloc (by simp) _
theorem twoAst_new (w : World) (x : Ast) (v u : Value) : Whole (twoAst w x v u) w.heap.size 48 #[.string ⟨x.id.toArray⟩, v, .int .i64 x.wo] ∧ Whole (twoAst w x v u) (w.heap.size + 1) 48 #[.string ⟨x.id.toArray⟩, u, .int .i64 x.wo] := by
  refine ⟨(Whole.new w 48 #[.string ⟨x.id.toArray⟩, v, .int .i64 x.wo]).alloc _, ?_⟩
  have := Whole.new (w.alloc (.cells #[.string ⟨x.id.toArray⟩, v, .int .i64 x.wo] 48)) 48 #[.string ⟨x.id.toArray⟩, u, .int .i64 x.wo]
  rwa [show (w.alloc (.cells #[.string ⟨x.id.toArray⟩, v, .int .i64 x.wo] 48)).heap.size = w.heap.size + 1 by simp] at this
set_option maxHeartbeats 1600000 in
theorem eqAsset_self (x : Ast) (v u : Value) (w : World) (hv : Sl w v x.ce) (hu : Sl w u x.ce) (hl : x.ce.length ≤ 1048576) :
    Calls Tryd.prog 28 #[.agg #[.string ⟨x.id.toArray⟩, v, .int .i64 x.wo], .agg #[.string ⟨x.id.toArray⟩, u, .int .i64 x.wo]] w fun e w' => e = .returned (.bool true) ∧ Below w.heap.size w w' := by
  have C := Lib.hid (eqInt64S_any (twoAst w x v u) v u x.ce x.ce (hv.below (twoAst_below w x v u)) (hu.below (twoAst_below w x v u)) hl hl)
  have e0 : (x.id != x.id) = false := by simp
  have e2 : (x.wo != x.wo) = false := by simp
  clear hv hu
  go_enter Tryd.func28, Tryd.ntmps28
  go_wp2_with fail
  refine C.out.mono ?_
  rintro e w1 ⟨rfl, b1⟩
  have K0 := (twoAst_new w x v u).1.all b1
  have K1 := (twoAst_new w x v u).2.all b1
  have p0 := K0.at_ 0
  have h0 := K1.at_ 0
  have p1 := K0.at_ 1
  have h1 := K1.at_ 1
  have p2 := K0.at_ 2
  have h2 := K1.at_ 2
  have B1 := Lib.hid (bt (twoAst_below w x v u) b1)
  clear b1 K0 K1 C
  rw [show (x.ce == x.ce) = true from beq_self_eq_true _]
  go_wp2_with fail
  go_ret
  exact ⟨rfl, B1.out⟩
set_option maxHeartbeats 1600000 in
theorem szAssetS_in (w : World) (v : Value) (xs : List Ast) (hv : AsSl w v xs) (hlt : ∀ x ∈ xs, ∀ W u, Sl W u x.ce → ∃ a cap, u = .slice a x.ce.length cap) (z : Int) (h : (xs.length : Int) + As.szl xs ≤ z) (h2 : z ≤ 1048576) :
    Calls Tryd.prog 9 #[v, .int .i64 z] w fun e w' => e = .returned (.int .i64 (z - xs.length - As.szl xs)) ∧ Below w.heap.size w w' := by
  obtain ⟨a, cap, rfl⟩ := hv.form
  have hz : ¬ z - xs.length < 0 := by omega
  have hl : xs.length ≤ 1048576 := by omega
  have HV := Lib.hid hv
  have HZ := Lib.hid h
  have H2 := Lib.hid h2
  clear hv hlt
  go_enter Tryd.func9, Tryd.ntmps9
  go_wp2
  go_loopw [1, 5] (fun x i wr => ∃ (k : Nat) (y : Int), k ≤ xs.length ∧ i = .int .i64 k ∧ x = .int .i64 y ∧ 0 ≤ y ∧ y ≤ 1048576 ∧ Hid (y = z - xs.length - As.szl (xs.take k)) ∧ Hid (Below w.heap.size w wr)) (fun _ i _ => xs.length - (intOf i).toNat)
  case atStart => exact ⟨0, _, Nat.zero_le _, rfl, rfl, by omega, by omega, Lib.hid (by simp [As.szl_nil]), Lib.hid (Below.refl _ _)⟩
  case round =>
    obtain ⟨k, y, hk, rfl, rfl, y1, y2, hy, hb⟩ := hrel
    by_cases hlt : k < xs.length
    · obtain ⟨b, off, cap1, hn, hbl, hc⟩ := (HV.out.below hb.out).known hlt
      simp only [Value.slice.injEq] at hn
      obtain ⟨rfl, -, rfl⟩ := hn
      obtain ⟨c0, c1, c2, csl⟩ := hc k hlt
      obtain ⟨ua, ucap, hu⟩ := csl.form
      rw [hu] at c1
      have hs := As.szl_snoc hlt
      have hs2 := As.szl_le xs (k + 1)
      have hyo := hy.out
      have hzo := HZ.out
      have C := Lib.hid (fun W => szAsset_in xs[k] ua ucap W y (by omega) (by omega))
      have hY : Hid (y - As.szn xs[k] = z - xs.length - As.szl (xs.take (k + 1))) := Lib.hid (by omega)
      have hY0 : 0 ≤ y - (As.szn xs[k] : Int) := by omega
      have hYn : ¬ y - (As.szn xs[k] : Int) < 0 := by omega
      have hY1 : y - (As.szn xs[k] : Int) ≤ 1048576 := by omega
      clear hc hs hs2 hyo hzo hy csl hu
      go_wp2_with fail
      refine (C.out _).mono ?_
      rintro e w2 ⟨rfl, b2⟩
      have hb2 := Lib.hid (hb.out.trans (b2.mono hb.out.size))
      clear b2 hb c0 c1 c2 C
      go_wp2_with fail
      exact ⟨⟨k + 1, _, by omega, by go_num, rfl, hY0, hY1, hY, hb2⟩, by simp only [intOf]; omega⟩
    · have hkz : k = xs.length := by omega
      have hN : Hid (y = z - xs.length - As.szl xs) := Lib.hid (by have := hy.out; rw [hkz, List.take_length] at this; exact this)
      clear hkz hy
      go_wp2
      go_ret
      exact ⟨ret_int hN.out, hb.out⟩
set_option maxHeartbeats 1600000 in
theorem szAssetS_out (w : World) (v : Value) (xs : List Ast) (hv : AsSl w v xs) (hbd : ∀ x ∈ xs, As.Bd x) (hl : xs.length ≤ maxLen) (z : Int) (h0 : 0 ≤ z) (h : z < (xs.length : Int) + As.szl xs) (h2 : z ≤ 1048576) :
    Calls Tryd.prog 9 #[v, .int .i64 z] w fun e w' => e = .returned (.int .i64 (-1)) ∧ Below w.heap.size w w' := by
  obtain ⟨a, cap, rfl⟩ := hv.form
  unfold maxLen at hl
  by_cases hn : z < (xs.length : Int)
  · have hz : z - xs.length < 0 := by omega
    clear hv h
    go_enter Tryd.func9, Tryd.ntmps9
    go_wp2
    go_ret
    exact ⟨rfl, Below.refl _ _⟩
  · have hz : ¬ z - xs.length < 0 := by omega
    have hl : xs.length ≤ 1048576 := by omega
    have HV := Lib.hid hv
    have HZ := Lib.hid h
    have HB := Lib.hid hbd
    clear hv h hn hbd
    go_enter Tryd.func9, Tryd.ntmps9
    go_wp2
    go_loopw [1, 5] (fun x i wr => ∃ (k : Nat) (y : Int), k ≤ xs.length ∧ i = .int .i64 k ∧ x = .int .i64 y ∧ 0 ≤ y ∧ y ≤ 1048576 ∧ Hid (y = z - xs.length - As.szl (xs.take k)) ∧ Hid (Below w.heap.size w wr)) (fun _ i _ => xs.length - (intOf i).toNat)
    case atStart => exact ⟨0, _, Nat.zero_le _, rfl, rfl, by omega, by omega, Lib.hid (by simp [As.szl_nil]), Lib.hid (Below.refl _ _)⟩
    case round =>
      obtain ⟨k, y, hk, rfl, rfl, y1, y2, hy, hb⟩ := hrel
      by_cases hlt : k < xs.length
      · obtain ⟨b, off, cap1, hn, hbl, hc⟩ := (HV.out.below hb.out).known hlt
        simp only [Value.slice.injEq] at hn
        obtain ⟨rfl, -, rfl⟩ := hn
        obtain ⟨c0, c1, c2, csl⟩ := hc k hlt
        obtain ⟨ua, ucap, hu⟩ := csl.form
        rw [hu] at c1
        by_cases hfit : (As.szn xs[k] : Int) ≤ y
        · have hs := As.szl_snoc hlt
          have hyo := hy.out
          have C := Lib.hid (fun W => szAsset_in xs[k] ua ucap W y (by omega) (by omega))
          have hY : Hid (y - As.szn xs[k] = z - xs.length - As.szl (xs.take (k + 1))) := Lib.hid (by omega)
          have hY0 : 0 ≤ y - (As.szn xs[k] : Int) := by omega
          have hYn : ¬ y - (As.szn xs[k] : Int) < 0 := by omega
          have hY1 : y - (As.szn xs[k] : Int) ≤ 1048576 := by omega
          clear hc hs hyo hy hfit csl hu
          go_wp2_with fail
          refine (C.out _).mono ?_
          rintro e w2 ⟨rfl, b2⟩
          have hb2 := Lib.hid (hb.out.trans (b2.mono hb.out.size))
          clear b2 hb c0 c1 c2 C
          go_wp2_with fail
          exact ⟨⟨k + 1, _, by omega, by go_num, rfl, hY0, hY1, hY, hb2⟩, by simp only [intOf]; omega⟩
        · have C := Lib.hid (fun W => szAsset_out xs[k] ua ucap W y (HB.out _ (List.getElem_mem hlt)) (by omega) (by omega) (by omega))
          clear hc hfit csl hu
          go_wp2_with fail
          refine (C.out _).mono ?_
          rintro e w2 ⟨rfl, b2⟩
          have hb2 := Lib.hid (hb.out.trans (b2.mono hb.out.size))
          clear b2 hb c0 c1 c2 C
          go_wp2_with fail
          go_ret
          exact ⟨rfl, hb2.out⟩
      · exfalso
        have hkz : k = xs.length := by omega
        have := hy.out
        rw [hkz, List.take_length] at this
        have := HZ.out
        omega
/-- a row that is being filled -/
structure AsB (B : Nat) (w : World) (g n : Nat) (L : List AstR) (ys : List Value) : Prop where
  outer : w.ownsRow B 48 3 (.slice (some ⟨g, 0, none⟩) n n) n ys
  pre : ys.take (3 * L.length) = As.fr L
  row : ∀ t ∈ L, Own B w (As.rv t) t.x.ce
  nd : (L.map (·.b)).Nodup
  far : ∀ t ∈ L, g < t.b ∧ t.b < w.heap.size
theorem AsB.put {B : Nat} {w w2 : World} {g n : Nat} {L : List AstR} {ys : List Value} (h : AsB B w g n L ys) (hb : Below w.heap.size w w2) (t : AstR) (h1 : w.heap.size ≤ t.b) (h2 : t.b < w2.heap.size) (ht : Own w.heap.size w2 (As.rv t) t.x.ce) (hB : B ≤ w.heap.size) (hk : L.length < n) :
    ∃ zs, AsB B (w2.setCells g (L.length * 3) (As.lr t)) g n (L ++ [t]) zs := by
  have hg : g < w.heap.size := (World.ownsRow.lt h.outer g rfl).2
  have o2 := own_belowAll h.outer hb
  have hG : w2.grownBy (w2.setCells g (L.length * 3) (As.lr t)) (some g) := only_setCells _ _ (World.grownBy.refl _ _)
  have kp : ∀ s : AstR, g ≠ s.b → Own B w2 (As.rv s) s.x.ce → Own B (w2.setCells g (L.length * 3) (As.lr t)) (As.rv s) s.x.ce := fun s hne ho => World.ownsRow.kept ho hG (Or.inr (fun e => hne (by simpa [As.rv, Value.ownBlock] using e.symm)))
  refine ⟨_, own_setCells (As.lr t) (L.length * 3) o2, ?_, fun s hs => ?_, ?_, fun s hs => ?_⟩
  · have hl := h.outer.1
    have := putAll_take (As.lr t) ys (L.length * 3) (by rw [As.lr_length]; omega)
    rw [As.lr_length] at this
    rw [List.length_append, List.length_singleton, show 3 * (L.length + 1) = L.length * 3 + 3 by omega, this, Nat.mul_comm, h.pre, As.fr_app, As.fr_one]
  · rcases List.mem_append.1 hs with hs | hs
    · have := h.far s hs
      exact kp s (by omega) ((h.row s hs).belowAll hb)
    · rw [List.mem_singleton] at hs; subst hs
      exact kp s (by omega) (Own.le ht hB)
  · rw [List.map_append, List.nodup_append]
    refine ⟨h.nd, by simp, ?_⟩
    intro a ha b hb'
    obtain ⟨s, hs, rfl⟩ := List.mem_map.1 ha
    simp only [List.map_cons, List.map_nil, List.mem_singleton] at hb'
    subst hb'
    have := (h.far s hs).2
    omega
  · have hsz := grown_size hG
    rcases List.mem_append.1 hs with hs | hs
    · have := h.far s hs
      have := hb.size
      omega
    · rw [List.mem_singleton] at hs; subst hs; omega
set_option maxHeartbeats 1600000 in
/-- the copy of a slice lies in a block that is known -/
theorem toAssetS_at (w : World) (v : Value) (xs : List Ast) (hv : AsSl w v xs) (hl : xs.length ≤ 1048576) (hi : As.Sh xs) :
    Calls Tryd.prog 12 #[v] w fun e w' => e = .returned (.slice (some ⟨w.heap.size, 0, none⟩) xs.length xs.length) ∧ AsOwn w.heap.size w'.heap.size w' w.heap.size xs ∧ Below w.heap.size w w' := by
  obtain ⟨i0, hi0, hz0⟩ := Option.map_eq_some_iff.1 info_Asset
  simp only [Prod.mk.injEq] at hz0
  obtain ⟨hz0, hz1⟩ := hz0
  have hz2 : i0.bytes = 48 := by
    have h2 : (Tryd.prog.info? 48).map (·.bytes) = some 48 := by kernel_rfl
    rw [hi0] at h2; simpa using h2
  obtain ⟨a, cap, rfl⟩ := hv.form
  have HV := Lib.hid hv
  have HI := Lib.hid hi
  clear hv hi
  go_enter Tryd.func12, Tryd.ntmps12
  go_wp2_with (at_make; refine wpList_make_full _ rfl _ _ 32 rfl w.heap.size 48 i0 _ 3 Tryd.underlying32 hi0 hz0 hz1 .i64 .i64 _ _ xs.length rfl rfl rfl rfl ?c1 ?c2 ?c3 ?_)
  case c1 => rw [hz2]; omega
  case c2 => unfold maxLen; omega
  case c3 => exact Nat.le_refl _
  intro w1 hown hg
  have hbel : Below w.heap.size w w1 := (Below.refl _ w).grown hg (Nat.le_refl _) (fun k hk => by cases hk)
  have HO : Hid (∃ (L : List AstR) (ys : List Value), AsB w.heap.size w1 w.heap.size xs.length L ys ∧ L.map (·.x) = xs.take 0) := Lib.hid ⟨[], _, ⟨hown, by simp [As.fr], (fun t ht => by cases ht), List.nodup_nil, (fun t ht => by cases ht)⟩, rfl⟩
  have HB := Lib.hid hbel
  clear hown hg hbel
  go_wp2
  go_loopw [4] (fun i wr => ∃ k : Nat, k ≤ xs.length ∧ i = .int .i64 k ∧ Hid (Below w.heap.size w wr) ∧ Hid (∃ (L : List AstR) (ys : List Value), AsB w.heap.size wr w.heap.size xs.length L ys ∧ L.map (·.x) = xs.take k)) (fun i _ => xs.length - (intOf i).toNat)
  case atStart => exact ⟨0, Nat.zero_le _, rfl, HB, HO⟩
  case round =>
    obtain ⟨k, hk, rfl, hb, hx⟩ := hrel
    by_cases hlt : k < xs.length
    · obtain ⟨L, ys, hL, hLx⟩ := hx.out
      have hLn : L.length = k := by have := congrArg List.length hLx; rw [List.length_map, List.length_take] at this; omega
      obtain ⟨b, off, cap', hn, hbl, hc⟩ := (HV.out.below hb.out).known hlt
      simp only [Value.slice.injEq] at hn
      obtain ⟨rfl, -, rfl⟩ := hn
      obtain ⟨c0, c1, c2, csl⟩ := hc k hlt
      have C := Lib.hid (toAsset_at xs[k] (Asu wr b (off + k * 3)) wr csl (HI.out _ (List.getElem_mem hlt)).2)
      have HL := Lib.hid hL
      have HLx := Lib.hid hLx
      have HLn := Lib.hid hLn
      clear hc csl hL hLx hLn hx
      generalize Asu wr b (off + k * 3) = u at *
      go_wp2_with fail
      refine C.out.mono ?_
      rintro e w2 ⟨gk, rfl, hgk, hgl, ok, b2⟩
      have hb2 := Lib.hid (hb.out.trans (b2.mono hb.out.size))
      have hP := HL.out.put b2 ⟨xs[k], gk⟩ hgk hgl ok hb.out.size (by have := HLn.out; omega)
      rw [HLn.out] at hP
      obtain ⟨zs, hP⟩ := hP
      have hown2 := own_belowAll HL.out.outer b2
      have hyl := hown2.1
      have N : Hid (∃ (L : List AstR) (ys : List Value), AsB w.heap.size (w2.setCells w.heap.size (k * 3) (As.lr ⟨xs[k], gk⟩)) w.heap.size xs.length L ys ∧ L.map (·.x) = xs.take (k + 1)) := Lib.hid ⟨_, zs, hP, by rw [List.map_append, HLx.out, List.take_succ_eq_append_getElem hlt]; rfl⟩
      have NB : Hid (Below w.heap.size w (w2.setCells w.heap.size (k * 3) (As.lr ⟨xs[k], gk⟩))) := Lib.hid (below_setCells (Nat.le_refl _) _ _ hb2.out)
      have g : ∀ j, j < 3 → ∃ u, w2.cell? ⟨w.heap.size, k * 3 + j, none⟩ = some u := fun j hj => ⟨_, (hown2.cellAt (k * 3 + j) (by omega)).trans (List.getElem?_eq_getElem (by omega))⟩
      obtain ⟨y0, d0⟩ := g 0 (by omega)
      have f0 := hown2.frozenAt (k * 3 + 0)
      obtain ⟨y1, d1⟩ := g 1 (by omega)
      have f1 := hown2.frozenAt (k * 3 + 1)
      obtain ⟨y2, d2⟩ := g 2 (by omega)
      have f2 := hown2.frozenAt (k * 3 + 2)
      rw [Nat.add_zero] at d0 f0
      clear g hP hown2 hyl c0 c1 c2 b2 ok hb C hgk hgl
      go_wp2_with fail
      exact ⟨⟨k + 1, by omega, by go_num, NB, N⟩, by simp only [intOf]; omega⟩
    · have hkz : k = xs.length := by omega
      subst hkz
      have hF : Hid (AsOwn w.heap.size wr.heap.size wr w.heap.size xs) := Lib.hid (by
        obtain ⟨L, ys, hL, hLx⟩ := hx.out
        rw [List.take_length] at hLx
        have hLn : L.length = xs.length := by have := congrArg List.length hLx; rw [List.length_map] at this; exact this
        have hys : ys = As.fr L := by
          have h1 := hL.outer.1
          have h2 := hL.pre
          rw [List.take_of_length_le (by omega)] at h2
          exact h2
        have ho := hL.outer
        rw [hys, ← hLn] at ho
        exact ⟨L, ⟨ho, hL.row, hL.nd, hL.far, (World.ownsRow.lt ho _ rfl).2⟩, hLx⟩)
      clear hx
      go_wp2
      go_ret
      exact ⟨rfl, hF.out, hb.out⟩
set_option maxHeartbeats 1600000 in
theorem eqAssetS_self (w : World) (v u : Value) (xs : List Ast) (hv : AsSl w v xs) (hu : AsSl w u xs) (hl : xs.length ≤ 1048576) (hi : As.Sh xs) :
    Calls Tryd.prog 17 #[v, u] w fun e w' => e = .returned (.bool true) ∧ Below w.heap.size w w' := by
  obtain ⟨a, cap, rfl⟩ := hv.form
  obtain ⟨a', cap', rfl⟩ := hu.form
  have hll : ((xs.length : Int) != (xs.length : Int)) = false := bne_self_eq_false' _
  have HV := Lib.hid hv
  have HU := Lib.hid hu
  have HI := Lib.hid hi
  clear hv hu hi
  go_enter Tryd.func17, Tryd.ntmps17
  go_wp2
  go_loopw [5] (fun i wr => ∃ k : Nat, k ≤ xs.length ∧ i = .int .i64 k ∧ Hid (Below w.heap.size w wr)) (fun i _ => xs.length - (intOf i).toNat)
  case atStart => exact ⟨0, Nat.zero_le _, rfl, Lib.hid (Below.refl _ _)⟩
  case round =>
    obtain ⟨k, hk, rfl, hb⟩ := hrel
    by_cases hlt : k < xs.length
    · obtain ⟨b, off, cap1, hn, hbl, hc⟩ := (HV.out.below hb.out).known hlt
      simp only [Value.slice.injEq] at hn
      obtain ⟨rfl, -, rfl⟩ := hn
      obtain ⟨c0, c1, c2, csl⟩ := hc k hlt
      obtain ⟨b', off', cap1', hn', hbl', hc'⟩ := (HU.out.below hb.out).known hlt
      simp only [Value.slice.injEq] at hn'
      obtain ⟨rfl, -, rfl⟩ := hn'
      obtain ⟨d0, d1, d2, dsl⟩ := hc' k hlt
      have C := Lib.hid (fun W (h : Below wr.heap.size wr W) => eqAsset_self xs[k] (Asu wr b (off + k * 3)) (Asu wr b' (off' + k * 3)) W (csl.below h) (dsl.below h) (HI.out _ (List.getElem_mem hlt)).2)
      clear hc hc' csl dsl
      generalize Asu wr b (off + k * 3) = u1 at *
      generalize Asu wr b' (off' + k * 3) = u2 at *
      go_wp2_with fail
      go_still_tail 8, (by kernel_rfl)
      go_wp2_with fail
      refine (C.out _ (below_drewW wr 1)).mono ?_
      rintro e w2 ⟨rfl, b2⟩
      have hb2 := Lib.hid (hb.out.trans ((drew_below b2).mono hb.out.size))
      clear b2 hb c0 c1 c2 d0 d1 d2
      go_wp2_with fail
      exact ⟨⟨k + 1, by omega, by go_num, hb2⟩, by simp only [intOf]; omega⟩
    · go_wp2
      go_ret
      exact ⟨rfl, hb.out⟩
/-- what may change: the blocks from B on and below n -/
structure Chg (B n : Nat) (w w' : World) : Prop where
  os : w'.os = w.os
  tape : w'.tape = w.tape
  output : w'.output = w.output
  size : w.heap.size ≤ w'.heap.size
  block : ∀ i, i < w.heap.size → i < B ∨ n ≤ i → w'.heap[i]? = w.heap[i]?
theorem Chg.refl (B n : Nat) (w : World) : Chg B n w w := ⟨rfl, rfl, rfl, Nat.le_refl _, fun _ _ _ => rfl⟩
theorem Chg.trans {B n : Nat} {a b c : World} (h : Chg B n a b) (k : Chg B n b c) : Chg B n a c :=
  ⟨k.os.trans h.os, k.tape.trans h.tape, k.output.trans h.output, Nat.le_trans h.size k.size, fun i hi hr => (k.block i (Nat.lt_of_lt_of_le hi h.size) hr).trans (h.block i hi hr)⟩
theorem Chg.ofBelow {B n : Nat} {a b : World} (h : Below a.heap.size a b) : Chg B n a b := ⟨h.os, h.tape, h.output, h.size, fun i hi _ => h.block i hi⟩
theorem Chg.ofGrown {B n g : Nat} {a b : World} (h : a.grownBy b (some g)) (h1 : B ≤ g) (h2 : g < n) : Chg B n a b :=
  ⟨h.os, h.tape, h.output, h.size, fun i hi hr => h.block i hi (by simp; omega)⟩
theorem Below.chg {B0 B n : Nat} {w0 w w' : World} (h : Below B0 w0 w) (k : Chg B n w w') (hB : B0 ≤ B) (hs : B0 ≤ w.heap.size) : Below B0 w0 w' :=
  ⟨k.os.trans h.os, k.tape.trans h.tape, k.output.trans h.output, Nat.le_trans h.size k.size, fun i hi => (k.block i (by omega) (Or.inl (by omega))).trans (h.block i hi)⟩
theorem own_chg {B' B n : Nat} {w w' : World} {e : TypeId} {size : Nat} {v : Value} {m : Nat} {xs : List Value} (h : w.ownsRow B' e size v m xs) (k : Chg B n w w') (hn : n ≤ B') : w'.ownsRow B' e size v m xs := by
  refine ⟨h.1, ?_⟩
  rcases h.2 with hv | ⟨g, cap, cur, rfl, hb, hgg, rest⟩
  · exact .inl hv
  · exact .inr ⟨g, cap, cur, rfl, hb, (k.block g (Array.getElem?_eq_some_iff.1 hgg).1 (Or.inr (by omega))).trans hgg, rest⟩
/-- a row whose elements' lists are rows of the call's own, whatever they hold -/
structure AsM (B n : Nat) (w : World) (g : Nat) (S : List (Nat × Nat)) : Prop where
  outer : ∃ ys, w.ownsRow B 48 3 (.slice (some ⟨g, 0, none⟩) S.length S.length) S.length ys ∧ ∀ i (h : i < S.length), ys[i * 3 + 1]? = some (.slice (some ⟨S[i].1, 0, none⟩) S[i].2 S[i].2)
  row : ∀ t ∈ S, ∃ zs, w.ownsRow B 2 1 (.slice (some ⟨t.1, 0, none⟩) t.2 t.2) t.2 zs
  nd : (S.map (·.1)).Nodup
  far : ∀ t ∈ S, g < t.1 ∧ t.1 < n
  top : g < n
theorem AsG.marks {B n g : Nat} {w : World} {L : List AstR} (h : AsG B n w g L) : AsM B n w g (L.map fun t => (t.b, t.x.ce.length)) := by
  refine ⟨⟨As.fr L, by simpa using h.outer, fun i hi => ?_⟩, fun t ht => ?_, by simpa [List.map_map, Function.comp_def] using h.nd, fun t ht => ?_, h.top⟩
  · have hi' : i < L.length := by simpa using hi
    rw [show i * 3 + 1 = 3 * i + 1 by omega, As.fr_at (List.getElem?_eq_getElem hi') (by omega)]
    simp [As.lr, As.rv]
  · obtain ⟨s, hs, rfl⟩ := List.mem_map.1 ht
    exact ⟨_, h.row s hs⟩
  · obtain ⟨s, hs, rfl⟩ := List.mem_map.1 ht
    exact h.far s hs
theorem AsM.belowAll {B n g : Nat} {w w1 : World} {S : List (Nat × Nat)} (h : AsM B n w g S) (hb : Below w.heap.size w w1) : AsM B n w1 g S := by
  obtain ⟨⟨ys, h1, h2⟩, h3, h4, h5, h6⟩ := h
  exact ⟨⟨ys, own_belowAll h1 hb, h2⟩, fun t ht => by obtain ⟨zs, h⟩ := h3 t ht; exact ⟨zs, own_belowAll h hb⟩, h4, h5, h6⟩
theorem AsM.inner {B n g : Nat} {w w1 : World} {S : List (Nat × Nat)} (h : AsM B n w g S) {k : Nat} (hk : k < S.length) (hg : w.grownBy w1 (some S[k].1)) {zs : List Value} (ho : w1.ownsRow B 2 1 (.slice (some ⟨S[k].1, 0, none⟩) S[k].2 S[k].2) S[k].2 zs) : AsM B n w1 g S := by
  obtain ⟨⟨ys, h1, h2⟩, h3, h4, h5, h6⟩ := h
  have hf := h5 S[k] (List.getElem_mem hk)
  refine ⟨⟨ys, World.ownsRow.kept h1 hg (Or.inr (by simp [Value.ownBlock]; omega)), h2⟩, fun t ht => ?_, h4, h5, h6⟩
  by_cases e : t.1 = S[k].1
  · obtain ⟨j, hj, rfl⟩ := List.mem_iff_getElem.1 ht
    have : j = k := (List.getElem_inj (xs := S.map (·.1)) (h₀ := by simpa using hj) (h₁ := by simpa using hk) h4).1 (by simpa using e)
    subst this
    exact ⟨_, ho⟩
  · obtain ⟨zs, hz⟩ := h3 t ht
    exact ⟨zs, World.ownsRow.kept hz hg (Or.inr (by simpa [Value.ownBlock] using e))⟩
theorem AsM.store {B n g : Nat} {w : World} {S : List (Nat × Nat)} (h : AsM B n w g S) {k j : Nat} (hk : k < S.length) (hj : j < 3) (hne : j ≠ 1) (u : Value) : AsM B n (w.setCell ⟨g, k * 3 + j, none⟩ u) g S := by
  obtain ⟨⟨ys, h1, h2⟩, h3, h4, h5, h6⟩ := h
  refine ⟨⟨_, (h1.stored (k * 3 + j) u).1, fun i hi => ?_⟩, fun t ht => ?_, h4, h5, h6⟩
  · rw [List.getElem?_set_ne (by omega)]; exact h2 i hi
  · obtain ⟨zs, hz⟩ := h3 t ht
    have hf := h5 t ht
    exact ⟨zs, World.ownsRow.kept hz (only_setCell (p := ⟨g, k * 3 + j, none⟩) (World.grownBy.refl w (some g)) rfl u) (Or.inr (by simp [Value.ownBlock]; omega))⟩
theorem AsM.cell {B n g : Nat} {w : World} {S : List (Nat × Nat)} (h : AsM B n w g S) {k : Nat} (hk : k < S.length) : w.cell? ⟨g, k * 3 + 1, none⟩ = some (.slice (some ⟨S[k].1, 0, none⟩) S[k].2 S[k].2) ∧ (∀ j, j < 3 → ∃ u, w.cell? ⟨g, k * 3 + j, none⟩ = some u) ∧ ∀ j, w.frozen? ⟨g, k * 3 + j, none⟩ = false := by
  obtain ⟨⟨ys, h1, h2⟩, h3, h4, h5, h6⟩ := h
  have hl := h1.1
  refine ⟨by rw [h1.cellAt (k * 3 + 1) (by omega), h2 k hk], fun j hj => ⟨ys[k * 3 + j]'(by omega), by rw [h1.cellAt (k * 3 + j) (by omega)]; exact List.getElem?_eq_getElem _⟩, fun j => h1.frozenAt (k * 3 + j)⟩
theorem AsM.lo {B n g : Nat} {w : World} {S : List (Nat × Nat)} (h : AsM B n w g S) : B ≤ g ∧ ∀ t ∈ S, B ≤ t.1 := by
  obtain ⟨⟨ys, h1, h2⟩, h3, h4, h5, h6⟩ := h
  exact ⟨(World.ownsRow.lt h1 g rfl).1, fun t ht => by obtain ⟨zs, hz⟩ := h3 t ht; exact (World.ownsRow.lt hz t.1 rfl).1⟩
theorem markText_atAs (k : Int) (w : World) (h1 : 1 ≤ k) (h2 : k ≤ 1000000000) :
    Calls Tryd.prog 46 #[.int .i64 k] w fun e w' => e = .returned (.string ⟨(mkT k.toNat).toArray⟩) ∧ Below w.heap.size w w' := by
  have := markText_any k.toNat w (by omega) (by omega)
  rwa [Int.toNat_of_nonneg (by omega)] at this
set_option maxHeartbeats 3200000 in
theorem markAssetS_chg (B n : Nat) (w : World) (g : Nat) (S : List (Nat × Nat)) (k0 : Int) (h0 : 1 ≤ k0) (h1 : k0 ≤ 100000000) (ho : AsM B n w g S) (hl : S.length ≤ 1048576) (hs : (S.map (·.2)).sum ≤ 1048576) :
    Calls Tryd.prog 19 #[.slice (some ⟨g, 0, none⟩) S.length S.length, .int .i64 k0] w fun e w' => (∃ k1 : Int, 1 ≤ k1 ∧ k1 ≤ 200000000 ∧ e = .returned (.int .i64 k1)) ∧ Chg B n w w' := by
  have HO := Lib.hid ho
  have HS : Hid (∀ k, ∀ h : k < S.length, ((S.take (k + 1)).map (·.2)).sum = ((S.take k).map (·.2)).sum + S[k].2) := Lib.hid (fun k h => by rw [List.take_succ_eq_append_getElem h, List.map_append, List.sum_append_nat]; simp)
  have HM : Hid (∀ k, ((S.take k).map (·.2)).sum ≤ 1048576) := Lib.hid (fun k => by
    have e : S.map (·.2) = (S.take k).map (·.2) ++ (S.drop k).map (·.2) := by rw [← List.map_append, List.take_append_drop]
    rw [e, List.sum_append_nat] at hs; omega)
  clear ho hs
  go_enter Tryd.func19, Tryd.ntmps19
  go_wp2
  go_loopw [1, 5] (fun x i wr => ∃ (k : Nat) (z : Int), k ≤ S.length ∧ i = .int .i64 k ∧ x = .int .i64 z ∧ Hid (z = k0 + 2 * k + ((S.take k).map (·.2)).sum) ∧ 1 ≤ z ∧ z ≤ 150000000 ∧ Hid (Chg B n w wr) ∧ Hid (AsM B n wr g S)) (fun _ i _ => S.length - (intOf i).toNat)
  case atStart => exact ⟨0, k0, Nat.zero_le _, rfl, rfl, Lib.hid (by simp), h0, by omega, Lib.hid (Chg.refl _ _ _), HO⟩
  case round =>
    obtain ⟨k, z, hk, rfl, rfl, hz, z1, z2, hb, hx⟩ := hrel
    by_cases hlt : k < S.length
    · have hsk := HS.out k hlt
      have hmk := HM.out (k + 1)
      have hzo := hz.out
      have hZ : Hid (z + 2 + (S[k].2 : Int) = k0 + 2 * ((k + 1 : Nat) : Int) + ((S.take (k + 1)).map (·.2)).sum) := Lib.hid (by rw [hsk]; push_cast; omega)
      have hzl : z ≤ 140000000 := by omega
      have hln : S[k].2 ≤ 1048576 := by omega
      have hlo := hx.out.lo
      have hfar := hx.out.far S[k] (List.getElem_mem hlt)
      have HLo := Lib.hid (hlo.2 S[k] (List.getElem_mem hlt))
      have HLg := Lib.hid hlo.1
      have HTop := Lib.hid hx.out.top
      have HFar := Lib.hid hfar
      clear hsk hmk hzo hlo hfar hz z2
      have CT0 := Lib.hid (fun W => markText_atAs (z) W (by omega) (by omega))
      have hc0 := hx.out.cell hlt
      obtain ⟨cq0, cc0, cf0⟩ := hc0
      go_wp2_with fail
      refine (CT0.out _).mono ?_
      rintro e v0 ⟨rfl, b0⟩
      have M0 := Lib.hid (hx.out.belowAll b0)
      have G0 := Lib.hid (hb.out.trans (Chg.ofBelow (B := B) (n := n) b0))
      clear b0 cq0 cc0 cf0 CT0
      obtain ⟨mq0, mc0, mf0⟩ := M0.out.cell hlt
      obtain ⟨mu0, mu0'⟩ := mc0 0 (by omega)
      have mf0' := mf0 0
      rw [Nat.add_zero] at mu0' mf0'
      generalize (mkT (z).toNat).toArray = tx0 at *
      have N0 := Lib.hid (M0.out.store hlt (j := 0) (by omega) (by omega) (.string ⟨tx0⟩))
      have H0 := Lib.hid (G0.out.trans (Chg.ofGrown (only_setCell (p := ⟨g, k * 3 + 0, none⟩) (World.grownBy.refl _ (some g)) rfl (.string ⟨tx0⟩)) HLg.out HTop.out))
      rw [Nat.add_zero] at N0 H0
      clear hx hb mc0 mf0 M0 G0
      obtain ⟨rq, rc, rf⟩ := N0.out.cell hlt
      obtain ⟨zr, hr⟩ := N0.out.row S[k] (List.getElem_mem hlt)
      have CR := Lib.hid (markInt64S_own B _ S[k].1 S[k].2 S[k].2 zr (z + 1) (by omega) (by omega) hr hln)
      clear hr rc rf
      go_wp2_with fail
      refine CR.out.mono ?_
      rintro e vr ⟨rfl, orr, gr⟩
      have Nr := Lib.hid (N0.out.inner hlt gr orr)
      have Hr := Lib.hid (H0.out.trans (Chg.ofGrown gr HLo.out HFar.out.2))
      clear gr orr CR rq N0 H0
      obtain ⟨iq2, ic2, if2⟩ := Nr.out.cell hlt
      obtain ⟨iu2, iu2'⟩ := ic2 2 (by omega)
      have if2' := if2 2
      have N2 := Lib.hid (Nr.out.store hlt (j := 2) (by omega) (by omega) (.int .i64 (z + 1 + (S[k].2 : Int))))
      have H2 := Lib.hid (Hr.out.trans (Chg.ofGrown (only_setCell (p := ⟨g, k * 3 + 2, none⟩) (World.grownBy.refl _ (some g)) rfl (.int .i64 (z + 1 + (S[k].2 : Int)))) HLg.out HTop.out))
      clear Nr Hr ic2 if2 iq2
      go_wp2_with fail
      exact ⟨⟨k + 1, _, by omega, by go_num, rfl, Lib.hid (by rw [← hZ.out]; push_cast; omega), by omega, by omega, H2, N2⟩, by simp only [intOf]; omega⟩
    · go_wp2
      go_ret
      exact ⟨⟨_, z1, by omega, rfl⟩, hb.out⟩
theorem markAssetS_any (B n : Nat) (w : World) (g : Nat) (xs : List Ast) (k0 : Int) (h0 : 1 ≤ k0) (h1 : k0 ≤ 100000000) (ho : AsOwn B n w g xs) (hl : xs.length ≤ 1048576) (hs : As.szl xs ≤ 1048576) :
    Calls Tryd.prog 19 #[.slice (some ⟨g, 0, none⟩) xs.length xs.length, .int .i64 k0] w fun e w' => (∃ k1 : Int, 1 ≤ k1 ∧ k1 ≤ 200000000 ∧ e = .returned (.int .i64 k1)) ∧ Chg B n w w' := by
  obtain ⟨L, hL, rfl⟩ := ho
  have := markAssetS_chg B n w g _ k0 h0 h1 hL.marks (by simpa using hl) (by
    refine Nat.le_trans ?_ hs
    clear hL hl hs
    induction L with
    | nil => simp
    | cons t ts ih => rw [List.map_cons, List.map_cons, List.sum_cons, List.map_cons, As.szl_cons]; unfold As.szn; omega)
  simpa using this
set_option maxHeartbeats 1600000 in
theorem markAsset_g (B : Nat) (x : Ast) (u : Value) (w : World) (k0 : Int) (h0 : 1 ≤ k0) (h1 : k0 ≤ 1000000000) (ho : Own B w u x.ce) (hl : x.ce.length ≤ 1048576) :
    Calls Tryd.prog 31 #[.agg #[.string ⟨x.id.toArray⟩, u, .int .i64 x.wo], .int .i64 k0] w fun e w' => e = .returned (.int .i64 (k0 + (x.ce.length : Int))) ∧ Own B w' u (upTo k0 x.ce.length) ∧ w.grownBy w' u.ownBlock := by
  have hb := boxAst_below w x u 48
  have C := Lib.hid (markInt64S_g B (boxAst w x u 48) u x.ce k0 h0 h1 (ho.belowAll hb) hl)
  have HG := Lib.hid (only_of_below hb u.ownBlock)
  clear ho hb
  go_enter Tryd.func31, Tryd.ntmps31
  go_wp2_with fail
  refine C.out.mono ?_
  rintro e w1 ⟨rfl, o1, g1⟩
  have O1 := Lib.hid o1
  have G1 := Lib.hid (only_trans HG.out g1)
  clear o1 g1
  go_wp2_with fail
  go_ret
  exact ⟨rfl, O1.out, G1.out⟩
set_option maxHeartbeats 1600000 in
theorem heldAsset_any (x : Ast) (u : Value) (w : World) (m : Nat) (k0 : Int) (h0 : 1 ≤ k0) (h1 : k0 ≤ 1000000000) (hv : Sl w u (upTo k0 m)) (hl : m ≤ 1048576) :
    Calls Tryd.prog 32 #[.agg #[.string ⟨x.id.toArray⟩, u, .int .i64 x.wo], .int .i64 k0] w fun e w' => e = .returned (.int .i64 (k0 + m)) ∧ Below w.heap.size w w' := by
  have C := Lib.hid (heldInt64S_any (boxAst w x u 48) u m k0 h0 h1 (hv.below (boxAst_below ..)) hl)
  have HB := Lib.hid (boxAst_below w x u 48)
  have hk : ¬ k0 + (m : Int) < 0 := by omega
  clear hv
  go_enter Tryd.func32, Tryd.ntmps32
  go_wp2_with fail
  refine C.out.mono ?_
  rintro e w1 ⟨rfl, b1⟩
  have B1 := Lib.hid (bt HB.out b1)
  clear b1
  go_wp2_with fail
  go_ret
  exact ⟨rfl, B1.out⟩
end Go.Proofs.YtaldmdammipfjaaDoor
