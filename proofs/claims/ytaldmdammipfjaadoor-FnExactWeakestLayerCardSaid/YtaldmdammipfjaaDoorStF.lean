/-
  Chapter 7 by the model: the strength of a layer. No condition of its own.
-/
import Derived.Test.YtaldmdammipfjaaDoorStA
namespace Go.Proofs.YtaldmdammipfjaaDoor
open Go.RowKit Go.Shelf
set_option linter.unusedVariables false
set_option maxRecDepth 100000

set_option maxHeartbeats 1600000 in
theorem l07Strength_any (x : Lay) (d : Int) (b o : Nat) (w : World) (h : LCells w b o x) (hf : La.Fits x) (h0 : 0 ≤ d) (h1 : d ≤ 1000) :
    Calls Tryd.prog 133 #[.pointer (some ⟨b, o, none⟩), .int .i64 d] w fun e w' => e = .returned (.tuple #[.int .i64 (Sb.lo x d), .int .i64 (Sb.hi x d)]) ∧ Below w.heap.size w w' := by
  have CF := fun W => Lib.hid (l07Factor_any x W hf)
  have K := Lib.hid (fun W (hb : Below w.heap.size w W) => h.below hb (World.block_lt_of_cell? w _ h.c0))
  obtain ⟨c0, c1, c2, c3, c4, c5, c6⟩ := h
  obtain ⟨s0, s1⟩ := Sb.sq_bd hf
  obtain ⟨r0, r1⟩ := Sb.raw_bd hf
  have g0 := (Sb.base_bd hf).1
  have L := Lib.hid (Sb.lo_in hf h0 h1)
  have U := Lib.hid (Sb.hi_in hf h0 h1)
  have e1 : Hid (Sb.lo x d = Sb.base x * (1000 - d) / 1000) := Lib.hid rfl
  have e2 : Hid (Sb.hi x d = (Sb.base x * (1000 + d) + 999) / 1000) := Lib.hid (by unfold Sb.hi; congr 1; omega)
  have CD := fun W => Lib.hid (l01Div_any (Sb.raw x) 1000 W (by omega) (by omega) (by omega) (by omega) (by omega))
  rw [show Ar.dr (Sb.raw x) 1000 = Sb.base x from rfl] at CD
  obtain ⟨de, hde⟩ : ∃ z, z = x.de := ⟨_, rfl⟩
  obtain ⟨sq, hsq⟩ : ∃ z, z = x.de * x.de := ⟨_, rfl⟩
  have p1 : wrap64 (de * de) = sq := by rw [hde, hsq]; exact IntWalk.wrap64_in _ (by omega)
  have p2 : wrap64 (sq * Sb.fac x.fo) = Sb.raw x := by rw [hsq]; exact IntWalk.wrap64_in _ (by unfold Sb.raw at r0 r1; omega)
  have q1 : IntKind.i64.wrap (de * de) = sq := by rw [hde, hsq]; exact IntWalk.i64_in _ (by omega)
  have q2 : IntKind.i64.wrap (sq * Sb.fac x.fo) = Sb.raw x := by rw [hsq]; exact IntWalk.i64_in _ (by unfold Sb.raw at r0 r1; omega)
  have K3 : Hid (∀ W, Below w.heap.size w W → W.cell? ⟨b, o, none⟩ = some (.int .i64 x.fo) ∧ W.cell? ⟨b, o + 3, none⟩ = some (.int .i64 de)) := Lib.hid (fun W h => ⟨(K.out W h).c0, by rw [hde]; exact (K.out W h).c3⟩)
  rw [← hde] at c3
  have hlt := World.block_lt_of_cell? w _ c0
  clear hf s0 s1 r0 r1 g0 hsq hde c1 c2 c4 c5 c6 K
  generalize Sb.base x = bs at *
  generalize Sb.raw x = rw at *
  generalize Sb.fac x.fo = fc at *
  generalize Sb.lo x d = lo at *
  generalize Sb.hi x d = hi at *
  generalize x.fo = fo at *
  go_enter Tryd.func133, Tryd.ntmps133
  go_wp2_with fail
  go_region_held3 (fun w' => w'.cell? ⟨b, o, none⟩ = some (.int .i64 fo) ∧ w'.cell? ⟨b, o + 3, none⟩ = some (.int .i64 de)) (go_keep)
    (first
      | (go_at_call 167; refine (CF _).out.mono ?_; rintro e wA ⟨rfl, bA⟩; have bA0 : Below w.heap.size w wA := bt (below_drewW w 1) bA; obtain ⟨k0, k3⟩ := K3.out wA bA0)
      | (go_at_call 165; refine (CD _).out.mono ?_; rintro e wB ⟨rfl, rfl⟩))
  clear K3 CF CD bA k0 k3 c0 c3 p1 p2 q1 q2
  obtain ⟨l0, l1⟩ := L.out
  obtain ⟨u0, u1⟩ := U.out
  go_wp2
  go_ret2
  exact ⟨ret_ii e1.out.symm e2.out.symm, bA0⟩
end Go.Proofs.YtaldmdammipfjaaDoor
