/-
  The laws' own helpers on fields. No condition of its own.
-/
import Derived.Test.YtjogppgddjfejaaDoorFdC
import Derived.Deep.QuietTactic
import Derived.BigQuiet
import Derived.StillTailTactics
import Derived.Deep.RegionHeld3
namespace Go.Proofs.YtjogppgddjfejaaDoor
open Go.RowKit Go.Deep
set_option linter.unusedVariables false
set_option maxRecDepth 100000

theorem bdr1 (w : World) : Below w.heap.size w w.drew := below_drewW w 1
theorem bdA (w : World) (o : Obj) : Below w.heap.size w (w.alloc o).drew := bt ((Below.refl _ _).alloc (Nat.le_refl _) o) (bdr1 _)
/-- an empty field in a new block, behind a draw and a call -/
theorem new_kept {w w2 : World} {t : TypeId} {a b c : Value} (h : Below (w.alloc (.cells #[a, b, c] t)).drew.heap.size (w.alloc (.cells #[a, b, c] t)).drew w2) : Whole w2 w.heap.size t #[a, b, c] :=
  Whole.all (w := (w.alloc (.cells #[a, b, c] t)).drew) (Whole.new w t #[a, b, c]) h
theorem Whole.three {w : World} {g : Nat} {t : TypeId} {a b c : Value} (h : Whole w g t #[a, b, c]) : (w.cell? ⟨g, 0, none⟩ = some a ∧ w.cell? ⟨g, 1, none⟩ = some b ∧ w.cell? ⟨g, 2, none⟩ = some c) ∧ w.frozen? ⟨g, 0, none⟩ = false ∧ w.frozen? ⟨g, 1, none⟩ = false ∧ w.frozen? ⟨g, 2, none⟩ = false :=
  ⟨⟨h.at_ 0, h.at_ 1, h.at_ 2⟩, h.free 0, h.free 1, h.free 2⟩
theorem Whole.fc {w : World} {g : Nat} {t : TypeId} {a b : Int} {v : Value} (h : Whole w g t #[.int .i64 a, .int .i64 b, v]) : FC w g a b v := ⟨h.at_ 0, h.at_ 1, h.at_ 2⟩
/-- a field in a new block, and an empty one behind it -/
def twoF (w : World) (r c : Int) (v : Value) (t t' : TypeId) : World := (w.alloc (.cells #[.int .i64 r, .int .i64 c, v] t)).alloc (.cells #[.int .i64 0, .int .i64 0, .slice none 0 0] t')
theorem twoF_below (w : World) (r c : Int) (v : Value) (t t' : TypeId) : Below w.heap.size w (twoF w r c v t t') := ((Below.refl _ _).alloc (Nat.le_refl _) _).alloc (by simp) _
theorem twoF_size (w : World) (r c : Int) (v : Value) (t t' : TypeId) : (twoF w r c v t t').heap.size = w.heap.size + 2 := by simp [twoF]
theorem twoF_new (w : World) (r c : Int) (v : Value) (t t' : TypeId) : Whole (twoF w r c v t t') w.heap.size t #[.int .i64 r, .int .i64 c, v] ∧ Whole (twoF w r c v t t') (w.heap.size + 1) t' #[.int .i64 0, .int .i64 0, .slice none 0 0] := by
  refine ⟨(Whole.new w t _).alloc _, ?_⟩
  have := Whole.new (w.alloc (.cells #[.int .i64 r, .int .i64 c, v] t)) t' #[.int .i64 0, .int .i64 0, .slice none 0 0]
  rwa [show (w.alloc (.cells #[.int .i64 r, .int .i64 c, v] t)).heap.size = w.heap.size + 1 by simp] at this
theorem twoF_kept {w w1 : World} {r c : Int} {v : Value} {t t' : TypeId} (h : Below (twoF w r c v t t').heap.size (twoF w r c v t t') w1) : FC w1 w.heap.size r c v ∧ Whole w1 (w.heap.size + 1) t' #[.int .i64 0, .int .i64 0, .slice none 0 0] :=
  ⟨((twoF_new w r c v t t').1.all h).fc, (twoF_new w r c v t t').2.all h⟩
/-- a field written into a block -/
def setF (w : World) (g : Nat) (a b : Int) (v : Value) : World := ((w.setCell ⟨g, 0, none⟩ (.int .i64 a)).setCell ⟨g, 1, none⟩ (.int .i64 b)).setCell ⟨g, 2, none⟩ v
theorem setF_whole {w : World} {g : Nat} {t : TypeId} {x y z : Value} (h : Whole w g t #[x, y, z]) (a b : Int) (v : Value) : Whole (setF w g a b v) g t #[.int .i64 a, .int .i64 b, v] := by
  have := ((h.put 0 (.int .i64 a)).put 1 (.int .i64 b)).put 2 v
  simpa [setF] using this
theorem setF_below {B : Nat} {w0 w : World} {g : Nat} (h : Below B w0 w) (hg : B ≤ g) (a b : Int) (v : Value) : Below B w0 (setF w g a b v) :=
  ((h.setCell (p := ⟨g, 0, none⟩) hg _).setCell (p := ⟨g, 1, none⟩) hg _).setCell (p := ⟨g, 2, none⟩) hg _
theorem setF_only (w : World) (g : Nat) (a b : Int) (v : Value) : w.grownBy (setF w g a b v) (some g) :=
  by
    have h1 := only_setCell (a := w) (w := w) (g := g) (p := ⟨g, 0, none⟩) (World.grownBy.refl _ _) rfl (.int .i64 a)
    have h2 := only_setCell (p := ⟨g, 1, none⟩) h1 rfl (.int .i64 b)
    exact only_setCell (p := ⟨g, 2, none⟩) h2 rfl v
/-- how a call ends that answers a field and a code -/
def RFC (w : World) (r c : Int) (zs : List Int) (code : Int) (e : Ending) (w' : World) : Prop :=
  ∃ a cap, e = .returned (.tuple #[.agg #[.int .i64 r, .int .i64 c, .slice a zs.length cap], .int .i64 code]) ∧ Own w.heap.size w' (.slice a zs.length cap) zs ∧ Below w.heap.size w w'
theorem RFC.mk {w w' : World} {r c r' c' : Int} {zs zs' : List Int} {code code' : Int} {u : Value} (h : r = r' ∧ c = c' ∧ zs = zs' ∧ code = code') (ho : Own w.heap.size w' u zs') (hb : Below w.heap.size w w') : RFC w r c zs code (.returned (.tuple #[.agg #[.int .i64 r', .int .i64 c', u], .int .i64 code'])) w' := by
  obtain ⟨rfl, rfl, rfl, rfl⟩ := h
  obtain ⟨a, cap, rfl⟩ := ho.sl.form
  exact ⟨a, cap, rfl, ho, hb⟩

set_option maxHeartbeats 1600000 in
theorem eqField_self (w : World) (r c : Int) (v u : Value) (zs : List Int) (hv : Sl w v zs) (hu : Sl w u zs) (hl : zs.length ≤ 1048576) :
    Calls Tryd.prog 6 #[.agg #[.int .i64 r, .int .i64 c, v], .agg #[.int .i64 r, .int .i64 c, u]] w fun e w' => e = .returned (.bool true) ∧ Below w.heap.size w w' := by
  have C := Lib.hid (fun W h => eqInt64S_any W v u zs zs (hv.below h) (hu.below h) hl hl)
  have hr : (r != r) = false := bne_self_eq_false' _
  have hc : (c != c) = false := bne_self_eq_false' _
  clear hv hu
  go_enter Tryd.func6, Tryd.ntmps6
  go_wp2_with fail
  refine (C.out _ (((Below.refl _ _).alloc (Nat.le_refl _) _).alloc (by simp) _)).mono ?_
  rintro e w1 ⟨rfl, b1⟩
  have B1 := Lib.hid (bt (((Below.refl _ _).alloc (Nat.le_refl _) _).alloc (by simp) _) b1)
  clear b1
  rw [show (zs == zs) = true from beq_self_eq_true _]
  go_wp2_with fail
  go_ret
  exact ⟨rfl, B1.out⟩
set_option maxHeartbeats 1600000 in
theorem markField_own (B : Nat) (w : World) (r c : Int) (g n cap : Nat) (zs : List Int) (k0 : Int) (h0 : 1 ≤ k0) (h1 : k0 ≤ 1000000000) (ho : Own B w (.slice (some ⟨g, 0, none⟩) n cap) zs) (hn : n = zs.length) (hl : n ≤ 1048576) :
    Calls Tryd.prog 7 #[.agg #[.int .i64 r, .int .i64 c, .slice (some ⟨g, 0, none⟩) n cap], .int .i64 k0] w fun e w' => e = .returned (.int .i64 (k0 + (n : Int))) ∧ Own B w' (.slice (some ⟨g, 0, none⟩) n cap) (upTo k0 n) ∧ w.grownBy w' (some g) := by
  have hb : Below w.heap.size w (boxF w r c (.slice (some ⟨g, 0, none⟩) n cap) 24) := boxF_below ..
  have hg : w.grownBy (boxF w r c (.slice (some ⟨g, 0, none⟩) n cap) 24) (some g) := only_of_below hb _
  have ho' : (boxF w r c (.slice (some ⟨g, 0, none⟩) n cap) 24).ownsRow B 2 1 (.slice (some ⟨g, 0, none⟩) n cap) n (iv zs) := by
    have := ho.belowAll hb
    unfold Own at this; rwa [← hn] at this
  have C := Lib.hid (markInt64S_own B _ g n cap (iv zs) k0 h0 h1 ho' hl)
  have HG := Lib.hid hg
  clear ho ho' hb hg hn
  go_enter Tryd.func7, Tryd.ntmps7
  go_wp2_with fail
  refine C.out.mono ?_
  rintro e w1 ⟨rfl, o1, g1⟩
  have O1 : Hid (Own B w1 (.slice (some ⟨g, 0, none⟩) n cap) (upTo k0 n)) := Lib.hid (by unfold Own; rw [upTo_length]; exact o1)
  have G1 := Lib.hid (only_trans HG.out g1)
  clear o1 g1
  go_wp2_with fail
  go_ret
  exact ⟨rfl, O1.out, G1.out⟩
theorem FC.grow {w w1 : World} {b : Nat} {r c : Int} {v : Value} {q : Option Nat} (h : FC w b r c v) (hg : w.grownBy w1 q) (hb : ∀ j, q = some j → b ≠ j) : FC w1 b r c v := by
  have e : w1.heap[b]? = w.heap[b]? := hg.block b h.lt (fun e => hb b e.symm rfl)
  exact ⟨by unfold World.cell?; rw [e]; exact h.c0, by unfold World.cell?; rw [e]; exact h.c1, by unfold World.cell?; rw [e]; exact h.c2⟩
theorem below_grown {w w' : World} (h : w.grownBy w' none) : Below w.heap.size w w' := (Below.refl _ w).grown h (Nat.le_refl _) (fun j hj => by cases hj)
theorem markInt64S_g (B : Nat) (w : World) (v : Value) (zs : List Int) (k0 : Int) (h0 : 1 ≤ k0) (h1 : k0 ≤ 1000000000) (ho : Own B w v zs) (hl : zs.length ≤ 1048576) :
    Calls Tryd.prog 15 #[v, .int .i64 k0] w fun e w' => e = .returned (.int .i64 (k0 + (zs.length : Int))) ∧ Own B w' v (upTo k0 zs.length) ∧ w.grownBy w' v.ownBlock := by
  rcases Go.Joins.ownsRow_forms ho with ⟨rfl, hn⟩ | ⟨g, cap, rfl⟩
  · have hz := List.eq_nil_of_length_eq_zero hn
    subst hz
    refine (markInt64S_any w.heap.size w (.slice none 0 0) [] k0 h0 h1 (Own.nil _ _) (by simp)).mono fun _ _ ⟨he, _, hb⟩ => ⟨he, Own.nil _ _, only_of_below hb _⟩
  · refine (markInt64S_own B w g zs.length cap (iv zs) k0 h0 h1 ho hl).mono fun _ _ ⟨he, ho', hg⟩ => ⟨he, by unfold Own; rw [upTo_length]; exact ho', hg⟩
set_option maxHeartbeats 1600000 in
theorem markField_g (B : Nat) (w : World) (r c : Int) (v : Value) (zs : List Int) (k0 : Int) (h0 : 1 ≤ k0) (h1 : k0 ≤ 1000000000) (ho : Own B w v zs) (hl : zs.length ≤ 1048576) :
    Calls Tryd.prog 7 #[.agg #[.int .i64 r, .int .i64 c, v], .int .i64 k0] w fun e w' => e = .returned (.int .i64 (k0 + (zs.length : Int))) ∧ Own B w' v (upTo k0 zs.length) ∧ w.grownBy w' v.ownBlock := by
  have hb : Below w.heap.size w (boxF w r c v 24) := boxF_below ..
  have C := Lib.hid (markInt64S_g B _ v zs k0 h0 h1 (ho.belowAll hb) hl)
  have HG := Lib.hid (only_of_below hb v.ownBlock)
  clear ho hb
  go_enter Tryd.func7, Tryd.ntmps7
  go_wp2_with fail
  refine C.out.mono ?_
  rintro e w1 ⟨rfl, o1, g1⟩
  have O1 := Lib.hid o1
  have G1 := Lib.hid (only_trans HG.out g1)
  clear o1 g1
  go_wp2_with fail
  go_ret
  exact ⟨rfl, O1.out, G1.out⟩
set_option maxHeartbeats 1600000 in
theorem heldField_any (w : World) (r c : Int) (v : Value) (n : Nat) (k0 : Int) (h0 : 1 ≤ k0) (h1 : k0 ≤ 1000000000) (hv : Sl w v (upTo k0 n)) (hl : n ≤ 1048576) :
    Calls Tryd.prog 8 #[.agg #[.int .i64 r, .int .i64 c, v], .int .i64 k0] w fun e w' => e = .returned (.int .i64 (k0 + n)) ∧ Below w.heap.size w w' := by
  have C := Lib.hid (heldInt64S_any (boxF w r c v 24) v n k0 h0 h1 (hv.below (boxF_below ..)) hl)
  have HB := Lib.hid (boxF_below w r c v 24)
  have hk : ¬ k0 + (n : Int) < 0 := by omega
  clear hv
  go_enter Tryd.func8, Tryd.ntmps8
  go_wp2_with fail
  refine C.out.mono ?_
  rintro e w1 ⟨rfl, b1⟩
  have B1 := Lib.hid (bt HB.out b1)
  clear b1
  go_wp2_with fail
  go_ret
  exact ⟨rfl, B1.out⟩
end Go.Proofs.YtjogppgddjfejaaDoor
