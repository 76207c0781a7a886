/-
  Are cells as they must be? By the model. No condition of its own.
-/
import Derived.Test.YtaldmdammipfjaaDoorRlC
import Derived.Test.YtaldmdammipfjaaDoorGdO
import Derived.Deep.RegionHeld3
namespace Go.Proofs.YtaldmdammipfjaaDoor
open Go.RowKit Go.Shelf Go.Deep
set_option linter.unusedVariables false
set_option maxRecDepth 100000
set_option maxHeartbeats 1600000 in
theorem l11Cells_any (w : World) (b : Nat) (r c s : Int) (v u : Value) (xs : List Int) (hc : GC w b r c s v) (r1 : 1 ≤ r) (r2 : r ≤ 8) (c1 : 1 ≤ c) (c2 : c ≤ 8) (hu : Sl w u xs) (hl : xs.length ≤ 1048576) :
    Calls Tryd.prog 70 #[.pointer (some ⟨b, 0, none⟩), u] w fun e w' => e = .returned (.bool (Rl.ri 0 (r * c - 1) xs)) ∧ Below w.heap.size w w' := by
  have KC := Lib.hid (fun W (h : Below w.heap.size w W) => (hc.all h).four)
  obtain ⟨x0, x1, -, -⟩ := hc.four
  have hlt := hc.lt
  have hp : 0 ≤ r * c ∧ r * c ≤ 64 := by
    have h1 := Int.mul_nonneg (show 0 ≤ r by omega) (show 0 ≤ c by omega)
    have h2 := Int.mul_le_mul r2 c2 (show 0 ≤ c by omega) (show (0 : Int) ≤ 8 by omega)
    omega
  have hw1 : IntKind.i64.wrap (r * c) = r * c := IntWalk.i64_in _ ⟨by omega, by omega⟩
  have hw2 : IntKind.i64.wrap (r * c - 1) = r * c - 1 := IntWalk.i64_in _ ⟨by omega, by omega⟩
  have CR := Lib.hid (fun W (h : Below w.heap.size w W) => l00Rises_any W u xs 0 (r * c - 1) (hu.below h) hl)
  obtain ⟨ua, ucap, rfl⟩ := hu.form
  clear hc r1 r2 c1 c2 hp hu
  generalize Rl.ri 0 (r * c - 1) xs = q at *
  go_enter Tryd.func70, Tryd.ntmps70
  go_wp2_with fail
  go_region_held3 (fun w' => w'.cell? ⟨b, 0, none⟩ = some (.int .i64 r) ∧ w'.cell? ⟨b, 1, none⟩ = some (.int .i64 c)) (go_keep)
    (first | (go_at_call 87; refine (CR.out _ (below_drewW _ 1)).mono ?_; rintro e wA ⟨rfl, bA⟩; have BA := Lib.hid (bt (below_drewW w 1) bA); clear bA; obtain ⟨y0, y1, -, -⟩ := KC.out wA BA.out))
  all_goals (
    go_wp2_with fail
    go_ret
    exact ⟨rfl, BA.out⟩)
end Go.Proofs.YtaldmdammipfjaaDoor
