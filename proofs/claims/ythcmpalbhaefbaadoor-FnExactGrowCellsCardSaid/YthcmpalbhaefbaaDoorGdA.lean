/-
  The cell of a row and a column, by the program and by the model. No condition of its own.
-/
import Derived.Test.YthcmpalbhaefbaaDoorGdV
import Derived.Deep.RegionHeld3
namespace Go.Proofs.YthcmpalbhaefbaaDoor
open Go.RowKit Go.Shelf Go.Deep
set_option linter.unusedVariables false
set_option maxRecDepth 100000

namespace Gw
def atV (r c s : Int) (zs : List Int) (a b : Int) : Int := Cd.vl (ok r c s zs) (isAt r c a b) (a * c + b)
def atC (r c s : Int) (zs : List Int) (a b : Int) : Int := Cd.cd (ok r c s zs) (isAt r c a b) 0
end Gw
/-- a place in a new block -/
theorem placeBox_below (w : World) (a b : Int) (t : TypeId) : Below w.heap.size w (w.alloc (.cells #[.int .i64 a, .int .i64 b] t)) := (Below.refl _ _).alloc (Nat.le_refl _) _
set_option maxHeartbeats 800000 in
theorem placeIn_any (a b r c : Int) (w : World) :
    Calls Tryd.prog 98 #[.agg #[.int .i64 a, .int .i64 b], .int .i64 r, .int .i64 c] w fun e w' => e = .returned (.bool (Ar.inB 0 a (wrap64 (r - 1)) && Ar.inB 0 b (wrap64 (c - 1)))) ∧ Below w.heap.size w w' := by
  have CA := fun W => Lib.hid (within_any a 0 (wrap64 (r - 1)) W)
  have CB := fun W => Lib.hid (within_any b 0 (wrap64 (c - 1)) W)
  have HB := Lib.hid (placeBox_below w a b 72)
  cases ha : Ar.inB 0 a (wrap64 (r - 1)) with
  | false =>
    rw [ha] at CA
    clear ha
    go_enter Tryd.func98, Tryd.ntmps98
    go_wp2_with fail
    refine (CA _).out.mono ?_
    rintro e w2 ⟨rfl, rfl⟩
    go_wp2_with fail
    go_ret
    exact ⟨rfl, HB.out⟩
  | true =>
    rw [ha] at CA
    clear ha
    generalize Ar.inB 0 b (wrap64 (c - 1)) = q at *
    go_enter Tryd.func98, Tryd.ntmps98
    go_wp2_with fail
    refine (CA _).out.mono ?_
    rintro e w2 ⟨rfl, rfl⟩
    go_wp2_with fail
    refine (CB _).out.mono ?_
    rintro e w2 ⟨rfl, rfl⟩
    go_wp2_with fail
    go_ret
    exact ⟨ret_bool (by simp), HB.out⟩
set_option maxHeartbeats 800000 in
theorem placeCell_any (a b c : Int) (w : World) (h1 : wrap64 (a * c) = a * c) (h2 : wrap64 (a * c + b) = a * c + b) :
    Calls Tryd.prog 50 #[.agg #[.int .i64 a, .int .i64 b], .int .i64 c] w fun e w' => e = .returned (.int .i64 (a * c + b)) ∧ Below w.heap.size w w' := by
  have HB := Lib.hid (placeBox_below w a b 72)
  go_enter Tryd.func50, Tryd.ntmps50
  go_wp2_with fail
  go_ret
  exact ⟨ret_int h2, HB.out⟩
end Go.Proofs.YthcmpalbhaefbaaDoor
