/-
  The laws' own helpers on fields. No condition of its own.
-/
import Derived.Test.YtaldmdammipfjaaDoorFdC
import Derived.Deep.QuietTactic
import Derived.BigQuiet
import Derived.StillTailTactics
import Derived.Deep.RegionHeld3
namespace Go.Proofs.YtaldmdammipfjaaDoor
open Go.RowKit Go.Deep
set_option linter.unusedVariables false
set_option maxRecDepth 100000

theorem bdr1 (w : World) : Below w.heap.size w w.drew := below_drewW w 1
theorem bdA (w : World) (o : Obj) : Below w.heap.size w (w.alloc o).drew := bt ((Below.refl _ _).alloc (Nat.le_refl _) o) (bdr1 _)
/-- an empty field in a new block, behind a draw and a call -/
theorem new_kept {w w2 : World} {t : TypeId} {a b c : Value} (h : Below (w.alloc (.cells #[a, b, c] t)).drew.heap.size (w.alloc (.cells #[a, b, c] t)).drew w2) : Whole w2 w.heap.size t #[a, b, c] :=
  Whole.all (w := (w.alloc (.cells #[a, b, c] t)).drew) (Whole.new w t #[a, b, c]) h
theorem Whole.three {w : World} {g : Nat} {t : TypeId} {a b c : Value} (h : Whole w g t #[a, b, c]) : (w.cell? ⟨g, 0, none⟩ = some a ∧ w.cell? ⟨g, 1, none⟩ = some b ∧ w.cell? ⟨g, 2, none⟩ = some c) ∧ w.frozen? ⟨g, 0, none⟩ = false ∧ w.frozen? ⟨g, 1, none⟩ = false ∧ w.frozen? ⟨g, 2, none⟩ = false :=
  ⟨⟨h.at_ 0, h.at_ 1, h.at_ 2⟩, h.free 0, h.free 1, h.free 2⟩
theorem Whole.fc {w : World} {g : Nat} {t : TypeId} {a b : Int} {v : Value} (h : Whole w g t #[.int .i64 a, .int .i64 b, v]) : FC w g a b v := ⟨h.at_ 0, h.at_ 1, h.at_ 2⟩
/-- a field in a new block, and an empty one behind it -/
def twoF (w : World) (r c : Int) (v : Value) (t t' : TypeId) : World := (w.alloc (.cells #[.int .i64 r, .int .i64 c, v] t)).alloc (.cells #[.int .i64 0, .int .i64 0, .slice none 0 0] t')
theorem twoF_below (w : World) (r c : Int) (v : Value) (t t' : TypeId) : Below w.heap.size w (twoF w r c v t t') := ((Below.refl _ _).alloc (Nat.le_refl _) _).alloc (by simp) _
theorem twoF_size (w : World) (r c : Int) (v : Value) (t t' : TypeId) : (twoF w r c v t t').heap.size = w.heap.size + 2 := by simp [twoF]
theorem twoF_new (w : World) (r c : Int) (v : Value) (t t' : TypeId) : Whole (twoF w r c v t t') w.heap.size t #[.int .i64 r, .int .i64 c, v] ∧ Whole (twoF w r c v t t') (w.heap.size + 1) t' #[.int .i64 0, .int .i64 0, .slice none 0 0] := by
  refine ⟨(Whole.new w t _).alloc _, ?_⟩
  have := Whole.new (w.alloc (.cells #[.int .i64 r, .int .i64 c, v] t)) t' #[.int .i64 0, .int .i64 0, .slice none 0 0]
  rwa [show (w.alloc (.cells #[.int .i64 r, .int .i64 c, v] t)).heap.size = w.heap.size + 1 by simp] at this
theorem twoF_kept {w w1 : World} {r c : Int} {v : Value} {t t' : TypeId} (h : Below (twoF w r c v t t').heap.size (twoF w r c v t t') w1) : FC w1 w.heap.size r c v ∧ Whole w1 (w.heap.size + 1) t' #[.int .i64 0, .int .i64 0, .slice none 0 0] :=
  ⟨((twoF_new w r c v t t').1.all h).fc, (twoF_new w r c v t t').2.all h⟩
/-- a field written into a block -/
def setF (w : World) (g : Nat) (a b : Int) (v : Value) : World := ((w.setCell ⟨g, 0, none⟩ (.int .i64 a)).setCell ⟨g, 1, none⟩ (.int .i64 b)).setCell ⟨g, 2, none⟩ v
theorem setF_whole {w : World} {g : Nat} {t : TypeId} {x y z : Value} (h : Whole w g t #[x, y, z]) (a b : Int) (v : Value) : Whole (setF w g a b v) g t #[.int .i64 a, .int .i64 b, v] := by
  have := ((h.put 0 (.int .i64 a)).put 1 (.int .i64 b)).put 2 v
  simpa [setF] using this
theorem setF_below {B : Nat} {w0 w : World} {g : Nat} (h : Below B w0 w) (hg : B ≤ g) (a b : Int) (v : Value) : Below B w0 (setF w g a b v) :=
  ((h.setCell (p := ⟨g, 0, none⟩) hg _).setCell (p := ⟨g, 1, none⟩) hg _).setCell (p := ⟨g, 2, none⟩) hg _
theorem setF_only (w : World) (g : Nat) (a b : Int) (v : Value) : w.grownBy (setF w g a b v) (some g) :=
  by
    have h1 := only_setCell (a := w) (w := w) (g := g) (p := ⟨g, 0, none⟩) (World.grownBy.refl _ _) rfl (.int .i64 a)
    have h2 := only_setCell (p := ⟨g, 1, none⟩) h1 rfl (.int .i64 b)
    exact only_setCell (p := ⟨g, 2, none⟩) h2 rfl v
/-- how a call ends that answers a field and a code -/
def RFC (w : World) (r c : Int) (zs : List Int) (code : Int) (e : Ending) (w' : World) : Prop :=
  ∃ a cap, e = .returned (.tuple #[.agg #[.int .i64 r, .int .i64 c, .slice a zs.length cap], .int .i64 code]) ∧ Own w.heap.size w' (.slice a zs.length cap) zs ∧ Below w.heap.size w w'
theorem RFC.mk {w w' : World} {r c r' c' : Int} {zs zs' : List Int} {code code' : Int} {u : Value} (h : r = r' ∧ c = c' ∧ zs = zs' ∧ code = code') (ho : Own w.heap.size w' u zs') (hb : Below w.heap.size w w') : RFC w r c zs code (.returned (.tuple #[.agg #[.int .i64 r', .int .i64 c', u], .int .i64 code'])) w' := by
  obtain ⟨rfl, rfl, rfl, rfl⟩ := h
  obtain ⟨a, cap, rfl⟩ := ho.sl.form
  exact ⟨a, cap, rfl, ho, hb⟩

set_option maxHeartbeats 800000 in
theorem szInt64S_in (w : World) (a : Option Addr) (n cap : Nat) (z : Int) (h : (n : Int) ≤ z) (h2 : z ≤ 1048576) :
    Calls Tryd.prog 38 #[.slice a n cap, .int .i64 z] w fun e w' => e = .returned (.int .i64 (z - n)) ∧ w = w' := by
  have hz : ¬ z - n < 0 := by omega
  go_enter Tryd.func38, Tryd.ntmps38
  go_wp2
  go_ret
  exact ⟨rfl, rfl⟩
set_option maxHeartbeats 800000 in
theorem szInt64S_out (w : World) (a : Option Addr) (n cap : Nat) (z : Int) (hn : n ≤ 9223372036854775807) (h : z < (n : Int)) (h1 : 0 ≤ z) :
    Calls Tryd.prog 38 #[.slice a n cap, .int .i64 z] w fun e w' => e = .returned (.int .i64 (-1)) ∧ w = w' := by
  have hz : z - n < 0 := by omega
  go_enter Tryd.func38, Tryd.ntmps38
  go_wp2
  go_ret
  exact ⟨rfl, rfl⟩
theorem FC.grow {w w1 : World} {b : Nat} {r c : Int} {v : Value} {q : Option Nat} (h : FC w b r c v) (hg : w.grownBy w1 q) (hb : ∀ j, q = some j → b ≠ j) : FC w1 b r c v := by
  have e : w1.heap[b]? = w.heap[b]? := hg.block b h.lt (fun e => hb b e.symm rfl)
  exact ⟨by unfold World.cell?; rw [e]; exact h.c0, by unfold World.cell?; rw [e]; exact h.c1, by unfold World.cell?; rw [e]; exact h.c2⟩
theorem below_grown {w w' : World} (h : w.grownBy w' none) : Below w.heap.size w w' := (Below.refl _ w).grown h (Nat.le_refl _) (fun j hj => by cases hj)
theorem markInt64S_g (B : Nat) (w : World) (v : Value) (zs : List Int) (k0 : Int) (h0 : 1 ≤ k0) (h1 : k0 ≤ 1000000000) (ho : Own B w v zs) (hl : zs.length ≤ 1048576) :
    Calls Tryd.prog 20 #[v, .int .i64 k0] w fun e w' => e = .returned (.int .i64 (k0 + (zs.length : Int))) ∧ Own B w' v (upTo k0 zs.length) ∧ w.grownBy w' v.ownBlock := by
  rcases Go.Joins.ownsRow_forms ho with ⟨rfl, hn⟩ | ⟨g, cap, rfl⟩
  · have hz := List.eq_nil_of_length_eq_zero hn
    subst hz
    refine (markInt64S_any w.heap.size w (.slice none 0 0) [] k0 h0 h1 (Own.nil _ _) (by simp)).mono fun _ _ ⟨he, _, hb⟩ => ⟨he, Own.nil _ _, only_of_below hb _⟩
  · refine (markInt64S_own B w g zs.length cap (iv zs) k0 h0 h1 ho hl).mono fun _ _ ⟨he, ho', hg⟩ => ⟨he, by unfold Own; rw [upTo_length]; exact ho', hg⟩
end Go.Proofs.YtaldmdammipfjaaDoor
