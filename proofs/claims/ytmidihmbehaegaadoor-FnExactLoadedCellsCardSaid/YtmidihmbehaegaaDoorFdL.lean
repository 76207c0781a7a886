/-
  The laws' own helpers on fields. No condition of its own.
-/
import Derived.Test.YtmidihmbehaegaaDoorFdC
import Derived.Deep.QuietTactic
import Derived.BigQuiet
import Derived.StillTailTactics
import Derived.Deep.RegionHeld3
namespace Go.Proofs.YtmidihmbehaegaaDoor
open Go.RowKit Go.Deep
set_option linter.unusedVariables false
set_option maxRecDepth 100000

theorem bdr1 (w : World) : Below w.heap.size w w.drew := below_drewW w 1
theorem bdA (w : World) (o : Obj) : Below w.heap.size w (w.alloc o).drew := bt ((Below.refl _ _).alloc (Nat.le_refl _) o) (bdr1 _)
/-- an empty field in a new block, behind a draw and a call -/
theorem new_kept {w w2 : World} {t : TypeId} {a b c : Value} (h : Below (w.alloc (.cells #[a, b, c] t)).drew.heap.size (w.alloc (.cells #[a, b, c] t)).drew w2) : Whole w2 w.heap.size t #[a, b, c] :=
  Whole.all (w := (w.alloc (.cells #[a, b, c] t)).drew) (Whole.new w t #[a, b, c]) h
theorem Whole.three {w : World} {g : Nat} {t : TypeId} {a b c : Value} (h : Whole w g t #[a, b, c]) : (w.cell? ⟨g, 0, none⟩ = some a ∧ w.cell? ⟨g, 1, none⟩ = some b ∧ w.cell? ⟨g, 2, none⟩ = some c) ∧ w.frozen? ⟨g, 0, none⟩ = false ∧ w.frozen? ⟨g, 1, none⟩ = false ∧ w.frozen? ⟨g, 2, none⟩ = false :=
  ⟨⟨h.at_ 0, h.at_ 1, h.at_ 2⟩, h.free 0, h.free 1, h.free 2⟩
theorem Whole.fc {w : World} {g : Nat} {t : TypeId} {a b : Int} {v : Value} (h : Whole w g t #[.int .i64 a, .int .i64 b, v]) : FC w g a b v := ⟨h.at_ 0, h.at_ 1, h.at_ 2⟩
/-- a field in a new block, and an empty one behind it -/
def twoF (w : World) (r c : Int) (v : Value) (t t' : TypeId) : World := (w.alloc (.cells #[.int .i64 r, .int .i64 c, v] t)).alloc (.cells #[.int .i64 0, .int .i64 0, .slice none 0 0] t')
theorem twoF_below (w : World) (r c : Int) (v : Value) (t t' : TypeId) : Below w.heap.size w (twoF w r c v t t') := ((Below.refl _ _).alloc (Nat.le_refl _) _).alloc (by simp) _
theorem twoF_size (w : World) (r c : Int) (v : Value) (t t' : TypeId) : (twoF w r c v t t').heap.size = w.heap.size + 2 := by simp [twoF]
theorem twoF_new (w : World) (r c : Int) (v : Value) (t t' : TypeId) : Whole (twoF w r c v t t') w.heap.size t #[.int .i64 r, .int .i64 c, v] ∧ Whole (twoF w r c v t t') (w.heap.size + 1) t' #[.int .i64 0, .int .i64 0, .slice none 0 0] := by
  refine ⟨(Whole.new w t _).alloc _, ?_⟩
  have := Whole.new (w.alloc (.cells #[.int .i64 r, .int .i64 c, v] t)) t' #[.int .i64 0, .int .i64 0, .slice none 0 0]
  rwa [show (w.alloc (.cells #[.int .i64 r, .int .i64 c, v] t)).heap.size = w.heap.size + 1 by simp] at this
theorem twoF_kept {w w1 : World} {r c : Int} {v : Value} {t t' : TypeId} (h : Below (twoF w r c v t t').heap.size (twoF w r c v t t') w1) : FC w1 w.heap.size r c v ∧ Whole w1 (w.heap.size + 1) t' #[.int .i64 0, .int .i64 0, .slice none 0 0] :=
  ⟨((twoF_new w r c v t t').1.all h).fc, (twoF_new w r c v t t').2.all h⟩
/-- a field written into a block -/
def setF (w : World) (g : Nat) (a b : Int) (v : Value) : World := ((w.setCell ⟨g, 0, none⟩ (.int .i64 a)).setCell ⟨g, 1, none⟩ (.int .i64 b)).setCell ⟨g, 2, none⟩ v
theorem setF_whole {w : World} {g : Nat} {t : TypeId} {x y z : Value} (h : Whole w g t #[x, y, z]) (a b : Int) (v : Value) : Whole (setF w g a b v) g t #[.int .i64 a, .int .i64 b, v] := by
  have := ((h.put 0 (.int .i64 a)).put 1 (.int .i64 b)).put 2 v
  simpa [setF] using this
theorem setF_below {B : Nat} {w0 w : World} {g : Nat} (h : Below B w0 w) (hg : B ≤ g) (a b : Int) (v : Value) : Below B w0 (setF w g a b v) :=
  ((h.setCell (p := ⟨g, 0, none⟩) hg _).setCell (p := ⟨g, 1, none⟩) hg _).setCell (p := ⟨g, 2, none⟩) hg _
theorem setF_only (w : World) (g : Nat) (a b : Int) (v : Value) : w.grownBy (setF w g a b v) (some g) :=
  by
    have h1 := only_setCell (a := w) (w := w) (g := g) (p := ⟨g, 0, none⟩) (World.grownBy.refl _ _) rfl (.int .i64 a)
    have h2 := only_setCell (p := ⟨g, 1, none⟩) h1 rfl (.int .i64 b)
    exact only_setCell (p := ⟨g, 2, none⟩) h2 rfl v
/-- how a call ends that answers a field and a code -/
def RFC (w : World) (r c : Int) (zs : List Int) (code : Int) (e : Ending) (w' : World) : Prop :=
  ∃ a cap, e = .returned (.tuple #[.agg #[.int .i64 r, .int .i64 c, .slice a zs.length cap], .int .i64 code]) ∧ Own w.heap.size w' (.slice a zs.length cap) zs ∧ Below w.heap.size w w'
theorem RFC.mk {w w' : World} {r c r' c' : Int} {zs zs' : List Int} {code code' : Int} {u : Value} (h : r = r' ∧ c = c' ∧ zs = zs' ∧ code = code') (ho : Own w.heap.size w' u zs') (hb : Below w.heap.size w w') : RFC w r c zs code (.returned (.tuple #[.agg #[.int .i64 r', .int .i64 c', u], .int .i64 code'])) w' := by
  obtain ⟨rfl, rfl, rfl, rfl⟩ := h
  obtain ⟨a, cap, rfl⟩ := ho.sl.form
  exact ⟨a, cap, rfl, ho, hb⟩

set_option maxHeartbeats 800000 in
theorem szInt64S_in (w : World) (a : Option Addr) (n cap : Nat) (z : Int) (h : (n : Int) ≤ z) (h2 : z ≤ 1048576) :
    Calls Tryd.prog 30 #[.slice a n cap, .int .i64 z] w fun e w' => e = .returned (.int .i64 (z - n)) ∧ w = w' := by
  have hz : ¬ z - n < 0 := by omega
  go_enter Tryd.func30, Tryd.ntmps30
  go_wp2
  go_ret
  exact ⟨rfl, rfl⟩
set_option maxHeartbeats 800000 in
theorem szInt64S_out (w : World) (a : Option Addr) (n cap : Nat) (z : Int) (hn : n ≤ 9223372036854775807) (h : z < (n : Int)) (h1 : 0 ≤ z) :
    Calls Tryd.prog 30 #[.slice a n cap, .int .i64 z] w fun e w' => e = .returned (.int .i64 (-1)) ∧ w = w' := by
  have hz : z - n < 0 := by omega
  go_enter Tryd.func30, Tryd.ntmps30
  go_wp2
  go_ret
  exact ⟨rfl, rfl⟩
set_option maxHeartbeats 800000 in
theorem szField_in (w : World) (r c : Int) (a : Option Addr) (n cap : Nat) (z : Int) (h : (n : Int) ≤ z) (h2 : z ≤ 1048576) :
    Calls Tryd.prog 9 #[.agg #[.int .i64 r, .int .i64 c, .slice a n cap], .int .i64 z] w fun e w' => e = .returned (.int .i64 (z - n)) ∧ Below w.heap.size w w' := by
  have C := Lib.hid (fun W => szInt64S_in W a n cap z h h2)
  have hz : ¬ z - n < 0 := by omega
  go_enter Tryd.func9, Tryd.ntmps9
  go_wp2_with fail
  refine (C.out _).mono ?_
  rintro e w1 ⟨rfl, rfl⟩
  go_wp2_with fail
  go_ret
  exact ⟨rfl, (Below.refl _ _).alloc (Nat.le_refl _) _⟩
set_option maxHeartbeats 800000 in
theorem szField_out (w : World) (r c : Int) (a : Option Addr) (n cap : Nat) (z : Int) (hn : n ≤ 9223372036854775807) (h : z < (n : Int)) (h1 : 0 ≤ z) :
    Calls Tryd.prog 9 #[.agg #[.int .i64 r, .int .i64 c, .slice a n cap], .int .i64 z] w fun e w' => e = .returned (.int .i64 (-1)) ∧ Below w.heap.size w w' := by
  have C := Lib.hid (fun W => szInt64S_out W a n cap z hn h h1)
  go_enter Tryd.func9, Tryd.ntmps9
  go_wp2_with fail
  refine (C.out _).mono ?_
  rintro e w1 ⟨rfl, rfl⟩
  go_wp2_with fail
  go_ret
  exact ⟨rfl, (Below.refl _ _).alloc (Nat.le_refl _) _⟩
def threeF (w : World) (r c : Int) (v : Value) : World := ((w.alloc (.cells #[.int .i64 r, .int .i64 c, v] 24)).alloc (.cells #[.int .i64 0, .int .i64 0, .slice none 0 0] 26)).alloc (.cells #[.int .i64 r, .int .i64 c, .slice none 0 0] 26)
theorem threeF_size (w : World) (r c : Int) (v : Value) : (threeF w r c v).heap.size = w.heap.size + 3 := by simp [threeF]
theorem threeF_below (w : World) (r c : Int) (v : Value) : Below w.heap.size w (threeF w r c v) := (((Below.refl _ _).alloc (Nat.le_refl _) _).alloc (by simp) _).alloc (by simp; omega) _
theorem threeF_new (w : World) (r c : Int) (v : Value) : Whole (threeF w r c v) (w.heap.size + 1) 26 #[.int .i64 0, .int .i64 0, .slice none 0 0] ∧ Whole (threeF w r c v) (w.heap.size + 2) 26 #[.int .i64 r, .int .i64 c, .slice none 0 0] := by
  constructor
  · exact (twoF_new w r c v 24 26).2.alloc _
  · have := Whole.new (twoF w r c v 24 26) 26 #[.int .i64 r, .int .i64 c, .slice none 0 0]
    rwa [twoF_size] at this
set_option maxHeartbeats 1600000 in
/-- the copy of a field: its masses lie in a block that is known -/
theorem toField_at (w : World) (r c : Int) (v : Value) (zs : List Int) (hv : Sl w v zs) (hl : zs.length ≤ 1048576) :
    Calls Tryd.prog 11 #[.agg #[.int .i64 r, .int .i64 c, v]] w fun e w' => ∃ g, e = .returned (.agg #[.int .i64 r, .int .i64 c, .slice (some ⟨g, 0, none⟩) zs.length zs.length]) ∧ w.heap.size ≤ g ∧ g < w'.heap.size ∧ Own w.heap.size w' (.slice (some ⟨g, 0, none⟩) zs.length zs.length) zs ∧ Below w.heap.size w w' := by
  have C := Lib.hid (toInt64S_at (threeF w r c v) v zs (hv.below (threeF_below w r c v)) hl)
  have hn := threeF_size w r c v
  rw [hn] at C
  have HN := Lib.hid hn
  clear hv hn
  go_enter Tryd.func11, Tryd.ntmps11
  go_wp2_with fail
  refine C.out.mono ?_
  rintro e w1 ⟨rfl, o1, b1⟩
  have hlt : w.heap.size + 3 < w1.heap.size := (World.ownsRow.lt o1 _ rfl).2
  have b1' : Below (threeF w r c v).heap.size (threeF w r c v) w1 := by rw [HN.out]; exact b1
  have K1 := (threeF_new w r c v).1.all b1'
  have K2 : Whole w1 (w.heap.size + 1 + 1) 26 #[.int .i64 r, .int .i64 c, .slice none 0 0] := (threeF_new w r c v).2.all b1'
  have k0 := K2.at_ 0
  have k1 := K2.at_ 1
  have k2 := K2.at_ 2
  have kf := K2.free 2
  have O1 := Lib.hid o1
  have B1 := Lib.hid (bt (threeF_below w r c v) b1')
  have h0 := K1.at_ 0
  have h1 := K1.at_ 1
  have h2 := K1.at_ 2
  have f0 := K1.free 0
  have f1 := K1.free 1
  have f2 := K1.free 2
  have HK1 := Lib.hid K1
  clear o1 b1 b1' C K1 K2
  go_wp2_with fail
  have hg2 : w1.grownBy (w1.setCell ⟨w.heap.size + 1 + 1, 2, none⟩ (.slice (some ⟨w.heap.size + 3, 0, none⟩) zs.length zs.length)) (some (w.heap.size + 1 + 1)) := only_setCell (p := ⟨w.heap.size + 1 + 1, 2, none⟩) (World.grownBy.refl _ _) rfl _
  have W2 := HK1.out.far hg2 (by omega)
  have W3 := setF_whole W2 r c (.slice (some ⟨w.heap.size + 3, 0, none⟩) zs.length zs.length)
  have d0 := W3.at_ 0
  have d1 := W3.at_ 1
  have d2 := W3.at_ 2
  have O2 := own_other O1.out hg2 (by omega)
  have O3 := own_other O2 (setF_only _ (w.heap.size + 1) r c (.slice (some ⟨w.heap.size + 3, 0, none⟩) zs.length zs.length)) (by omega)
  unfold setF at d0 d1 d2 O3
  exact bodyPost_ret (v := .agg #[.int .i64 r, .int .i64 c, .slice (some ⟨w.heap.size + 3, 0, none⟩) zs.length zs.length]) (by simp [results, Tryd.results11, go_sem, d0, d1, d2]) rfl ⟨_, rfl, by omega, by simpa using hlt, Own.le O3 (by omega), setF_below (B1.out.setCell (p := ⟨w.heap.size + 1 + 1, 2, none⟩) (by simp; omega) _) (by omega) r c _⟩
set_option maxHeartbeats 1600000 in
theorem eqField_self (w : World) (r c : Int) (v u : Value) (zs : List Int) (hv : Sl w v zs) (hu : Sl w u zs) (hl : zs.length ≤ 1048576) :
    Calls Tryd.prog 13 #[.agg #[.int .i64 r, .int .i64 c, v], .agg #[.int .i64 r, .int .i64 c, u]] w fun e w' => e = .returned (.bool true) ∧ Below w.heap.size w w' := by
  have C := Lib.hid (fun W h => eqInt64S_any W v u zs zs (hv.below h) (hu.below h) hl hl)
  have hr : (r != r) = false := bne_self_eq_false' _
  have hc : (c != c) = false := bne_self_eq_false' _
  clear hv hu
  go_enter Tryd.func13, Tryd.ntmps13
  go_wp2_with fail
  refine (C.out _ (((Below.refl _ _).alloc (Nat.le_refl _) _).alloc (by simp) _)).mono ?_
  rintro e w1 ⟨rfl, b1⟩
  have B1 := Lib.hid (bt (((Below.refl _ _).alloc (Nat.le_refl _) _).alloc (by simp) _) b1)
  clear b1
  rw [show (zs == zs) = true from beq_self_eq_true _]
  go_wp2_with fail
  go_ret
  exact ⟨rfl, B1.out⟩
set_option maxHeartbeats 1600000 in
theorem markField_own (B : Nat) (w : World) (r c : Int) (g n cap : Nat) (zs : List Int) (k0 : Int) (h0 : 1 ≤ k0) (h1 : k0 ≤ 1000000000) (ho : Own B w (.slice (some ⟨g, 0, none⟩) n cap) zs) (hn : n = zs.length) (hl : n ≤ 1048576) :
    Calls Tryd.prog 14 #[.agg #[.int .i64 r, .int .i64 c, .slice (some ⟨g, 0, none⟩) n cap], .int .i64 k0] w fun e w' => e = .returned (.int .i64 (k0 + (n : Int))) ∧ Own B w' (.slice (some ⟨g, 0, none⟩) n cap) (upTo k0 n) ∧ w.grownBy w' (some g) := by
  have hb : Below w.heap.size w (boxF w r c (.slice (some ⟨g, 0, none⟩) n cap) 26) := boxF_below ..
  have hg : w.grownBy (boxF w r c (.slice (some ⟨g, 0, none⟩) n cap) 26) (some g) := only_of_below hb _
  have ho' : (boxF w r c (.slice (some ⟨g, 0, none⟩) n cap) 26).ownsRow B 2 1 (.slice (some ⟨g, 0, none⟩) n cap) n (iv zs) := by
    have := ho.belowAll hb
    unfold Own at this; rwa [← hn] at this
  have C := Lib.hid (markInt64S_own B _ g n cap (iv zs) k0 h0 h1 ho' hl)
  have HG := Lib.hid hg
  clear ho ho' hb hg hn
  go_enter Tryd.func14, Tryd.ntmps14
  go_wp2_with fail
  refine C.out.mono ?_
  rintro e w1 ⟨rfl, o1, g1⟩
  have O1 : Hid (Own B w1 (.slice (some ⟨g, 0, none⟩) n cap) (upTo k0 n)) := Lib.hid (by unfold Own; rw [upTo_length]; exact o1)
  have G1 := Lib.hid (only_trans HG.out g1)
  clear o1 g1
  go_wp2_with fail
  go_ret
  exact ⟨rfl, O1.out, G1.out⟩
theorem FC.grow {w w1 : World} {b : Nat} {r c : Int} {v : Value} {q : Option Nat} (h : FC w b r c v) (hg : w.grownBy w1 q) (hb : ∀ j, q = some j → b ≠ j) : FC w1 b r c v := by
  have e : w1.heap[b]? = w.heap[b]? := hg.block b h.lt (fun e => hb b e.symm rfl)
  exact ⟨by unfold World.cell?; rw [e]; exact h.c0, by unfold World.cell?; rw [e]; exact h.c1, by unfold World.cell?; rw [e]; exact h.c2⟩
theorem below_grown {w w' : World} (h : w.grownBy w' none) : Below w.heap.size w w' := (Below.refl _ w).grown h (Nat.le_refl _) (fun j hj => by cases hj)
theorem markInt64S_g (B : Nat) (w : World) (v : Value) (zs : List Int) (k0 : Int) (h0 : 1 ≤ k0) (h1 : k0 ≤ 1000000000) (ho : Own B w v zs) (hl : zs.length ≤ 1048576) :
    Calls Tryd.prog 20 #[v, .int .i64 k0] w fun e w' => e = .returned (.int .i64 (k0 + (zs.length : Int))) ∧ Own B w' v (upTo k0 zs.length) ∧ w.grownBy w' v.ownBlock := by
  rcases Go.Joins.ownsRow_forms ho with ⟨rfl, hn⟩ | ⟨g, cap, rfl⟩
  · have hz := List.eq_nil_of_length_eq_zero hn
    subst hz
    refine (markInt64S_any w.heap.size w (.slice none 0 0) [] k0 h0 h1 (Own.nil _ _) (by simp)).mono fun _ _ ⟨he, _, hb⟩ => ⟨he, Own.nil _ _, only_of_below hb _⟩
  · refine (markInt64S_own B w g zs.length cap (iv zs) k0 h0 h1 ho hl).mono fun _ _ ⟨he, ho', hg⟩ => ⟨he, by unfold Own; rw [upTo_length]; exact ho', hg⟩
set_option maxHeartbeats 1600000 in
theorem markField_g (B : Nat) (w : World) (r c : Int) (v : Value) (zs : List Int) (k0 : Int) (h0 : 1 ≤ k0) (h1 : k0 ≤ 1000000000) (ho : Own B w v zs) (hl : zs.length ≤ 1048576) :
    Calls Tryd.prog 14 #[.agg #[.int .i64 r, .int .i64 c, v], .int .i64 k0] w fun e w' => e = .returned (.int .i64 (k0 + (zs.length : Int))) ∧ Own B w' v (upTo k0 zs.length) ∧ w.grownBy w' v.ownBlock := by
  have hb : Below w.heap.size w (boxF w r c v 26) := boxF_below ..
  have C := Lib.hid (markInt64S_g B _ v zs k0 h0 h1 (ho.belowAll hb) hl)
  have HG := Lib.hid (only_of_below hb v.ownBlock)
  clear ho hb
  go_enter Tryd.func14, Tryd.ntmps14
  go_wp2_with fail
  refine C.out.mono ?_
  rintro e w1 ⟨rfl, o1, g1⟩
  have O1 := Lib.hid o1
  have G1 := Lib.hid (only_trans HG.out g1)
  clear o1 g1
  go_wp2_with fail
  go_ret
  exact ⟨rfl, O1.out, G1.out⟩
set_option maxHeartbeats 1600000 in
theorem heldField_any (w : World) (r c : Int) (v : Value) (n : Nat) (k0 : Int) (h0 : 1 ≤ k0) (h1 : k0 ≤ 1000000000) (hv : Sl w v (upTo k0 n)) (hl : n ≤ 1048576) :
    Calls Tryd.prog 15 #[.agg #[.int .i64 r, .int .i64 c, v], .int .i64 k0] w fun e w' => e = .returned (.int .i64 (k0 + n)) ∧ Below w.heap.size w w' := by
  have C := Lib.hid (heldInt64S_any (boxF w r c v 26) v n k0 h0 h1 (hv.below (boxF_below ..)) hl)
  have HB := Lib.hid (boxF_below w r c v 26)
  have hk : ¬ k0 + (n : Int) < 0 := by omega
  clear hv
  go_enter Tryd.func15, Tryd.ntmps15
  go_wp2_with fail
  refine C.out.mono ?_
  rintro e w1 ⟨rfl, b1⟩
  have B1 := Lib.hid (bt HB.out b1)
  clear b1
  go_wp2_with fail
  go_ret
  exact ⟨rfl, B1.out⟩
end Go.Proofs.YtmidihmbehaegaaDoor
