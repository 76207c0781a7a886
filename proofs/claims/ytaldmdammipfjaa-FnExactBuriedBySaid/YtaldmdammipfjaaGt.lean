/-
  The cells next to a cell of a grid (chapter 9), by the model: plain mathematics, and the model's walk from a cell in a direction. No condition of its own.
-/
import Derived.Test.YtaldmdammipfjaaGdA
import Derived.Deep.RegionHeld3
namespace Go.Proofs.Ytaldmdammipfjaa
open Go.RowKit Go.Shelf Go.Deep
set_option linter.unusedVariables false
set_option maxRecDepth 100000

namespace Gw
/-- the ways in rows and in columns -/
def drs : List Int := [-1, -1, 0, 1, 1, 1, 0, -1]
def dcs : List Int := [0, 1, 1, 1, 0, -1, -1, -1]
theorem drs_bd (a : Nat) : -1 ≤ drs.getD a 0 ∧ drs.getD a 0 ≤ 1 := by
  rcases Nat.lt_or_ge a 8 with h | h
  · have : a = 0 ∨ a = 1 ∨ a = 2 ∨ a = 3 ∨ a = 4 ∨ a = 5 ∨ a = 6 ∨ a = 7 := by omega
    rcases this with rfl | rfl | rfl | rfl | rfl | rfl | rfl | rfl <;> decide
  · rw [List.getD_eq_getElem?_getD, List.getElem?_eq_none (by simpa [drs] using h)]; decide
theorem dcs_bd (a : Nat) : -1 ≤ dcs.getD a 0 ∧ dcs.getD a 0 ≤ 1 := by
  rcases Nat.lt_or_ge a 8 with h | h
  · have : a = 0 ∨ a = 1 ∨ a = 2 ∨ a = 3 ∨ a = 4 ∨ a = 5 ∨ a = 6 ∨ a = 7 := by omega
    rcases this with rfl | rfl | rfl | rfl | rfl | rfl | rfl | rfl <;> decide
  · rw [List.getD_eq_getElem?_getD, List.getElem?_eq_none (by simpa [dcs] using h)]; decide
def rwA (c k : Int) (a : Nat) : Int := k / c + drs.getD a 0
def clA (c k : Int) (a : Nat) : Int := k % c + dcs.getD a 0
/-- is there a cell in this direction? -/
def goB (r c k : Int) (a : Nat) : Bool := isAt r c (rwA c k a) (clA c k a)
/-- the cell in a direction from a cell, or -1 -/
def goC (r c k : Int) (a : Nat) : Int := if goB r c k a = true then rwA c k a * c + clA c k a else -1
theorem place_bd {c k : Int} (h1 : 1 ≤ c) (h2 : c ≤ 8) (h3 : 0 ≤ k) (h4 : k ≤ 63) : 0 ≤ k / c ∧ k / c ≤ 63 ∧ 0 ≤ k % c ∧ k % c ≤ 7 := by
  refine ⟨Int.ediv_nonneg h3 (by omega), ?_, Int.emod_nonneg _ (by omega), ?_⟩
  · have := Int.ediv_le_self c h3; omega
  · have := Int.emod_lt_of_pos k (show 0 < c by omega); omega
def isCell (r c k : Int) : Bool := Ar.inB 0 k (r * c - 1)
end Gw
theorem new_row {w : World} {g n : Nat} {cs : List Value} {t : TypeId} (h : w.heap[g]? = some (.cells cs.toArray t (0, 0))) (j : Nat) : w.cell? ⟨g, j, none⟩ = cs[j]? := by
  have := cell_of_row w g j cs.toArray t (0, 0) h
  rw [this]; simp
set_option maxHeartbeats 800000 in
theorem l09Cell_any (w : World) (b : Nat) (r c s k : Int) (v : Value) (hc : GC w b r c s v) (r1 : 1 ≤ r) (r2 : r ≤ 8) (c1 : 1 ≤ c) (c2 : c ≤ 8) :
    Calls Try.prog 86 #[.pointer (some ⟨b, 0, none⟩), .int .i64 k] w fun e w' => e = .returned (.bool (Gw.isCell r c k)) ∧ Below w.heap.size w w' := by
  obtain ⟨x0, x1, -, -⟩ := hc.four
  have hlt := hc.lt
  have hp : 0 ≤ r * c ∧ r * c ≤ 64 := by
    have h1 := Int.mul_nonneg (show 0 ≤ r by omega) (show 0 ≤ c by omega)
    have h2 := Int.mul_le_mul r2 c2 (show 0 ≤ c by omega) (show (0 : Int) ≤ 8 by omega)
    omega
  have hw1 : IntKind.i64.wrap (r * c) = r * c := IntWalk.i64_in _ ⟨by omega, by omega⟩
  have hw2 : IntKind.i64.wrap (r * c - 1) = r * c - 1 := IntWalk.i64_in _ ⟨by omega, by omega⟩
  have CI := Lib.hid (fun W => l00In_any k 0 (r * c - 1) W)
  unfold Gw.isCell
  clear hc r1 r2 c1 c2 hp
  generalize Ar.inB 0 k (r * c - 1) = q at *
  go_enter Try.func86, Try.ntmps86
  go_wp2_with fail
  go_region_held3 (fun w' => w'.cell? ⟨b, 0, none⟩ = some (.int .i64 r) ∧ w'.cell? ⟨b, 1, none⟩ = some (.int .i64 c)) (go_keep)
    (first | (go_at_call 75; refine (CI.out _).mono ?_; rintro e w' ⟨rfl, rfl⟩))
  go_wp2_with fail
  go_ret
  exact ⟨rfl, below_drewW _ 1⟩
namespace Gw
def askC (r c s : Int) (zs : List Int) (k : Int) : Int := Cd.cd (ok r c s zs) (isCell r c k) 0
end Gw
set_option maxHeartbeats 800000 in
theorem l09Ask_any (w : World) (b : Nat) (r c s k : Int) (v : Value) (zs : List Int) (hc : GC w b r c s v) (hv : Sl w v zs) (hl : zs.length ≤ 1048576) :
    Calls Try.prog 52 #[.pointer (some ⟨b, 0, none⟩), .int .i64 k] w fun e w' => e = .returned (.int .i64 (Gw.askC r c s zs k)) ∧ Below w.heap.size w w' := by
  have C := Lib.hid (l09Ok_any w b r c s v zs hc hv hl)
  have HC := Lib.hid hc
  unfold Gw.askC
  clear hv
  cases hq : Gw.ok r c s zs with
  | false =>
    rw [hq] at C
    rw [Cd.cd_f]
    clear hq hc
    go_enter Try.func52, Try.ntmps52
    go_wp2_with fail
    refine C.out.mono ?_
    rintro e w1 ⟨rfl, b1⟩
    have B1 := Lib.hid b1
    clear b1
    go_wp2_with fail
    go_ret
    exact ⟨rfl, B1.out⟩
  | true =>
    have G := Lib.hid ((Gw.ok_iff _ _ _ _).1 hq)
    have CK := Lib.hid (fun W (h : Below w.heap.size w W) => l09Cell_any W b r c s k v (HC.out.all h) G.out.r1 G.out.r2 G.out.c1 G.out.c2)
    rw [hq] at C
    clear hq hc
    cases hi : Gw.isCell r c k with
    | false =>
      rw [Cd.cd_tf]
      rw [hi] at CK
      clear hi
      go_enter Try.func52, Try.ntmps52
      go_wp2_with fail
      refine C.out.mono ?_
      rintro e w1 ⟨rfl, b1⟩
      have B1 := Lib.hid b1
      clear b1
      go_wp2_with fail
      refine (CK.out _ B1.out).mono ?_
      rintro e w2 ⟨rfl, b2⟩
      have B2 := Lib.hid (bt B1.out b2)
      clear b2
      go_wp2_with fail
      go_ret
      exact ⟨rfl, B2.out⟩
    | true =>
      rw [Cd.cd_t]
      rw [hi] at CK
      clear hi
      go_enter Try.func52, Try.ntmps52
      go_wp2_with fail
      refine C.out.mono ?_
      rintro e w1 ⟨rfl, b1⟩
      have B1 := Lib.hid b1
      clear b1
      go_wp2_with fail
      refine (CK.out _ B1.out).mono ?_
      rintro e w2 ⟨rfl, b2⟩
      have B2 := Lib.hid (bt B1.out b2)
      clear b2
      go_wp2_with fail
      go_ret
      exact ⟨rfl, B2.out⟩
end Go.Proofs.Ytaldmdammipfjaa
