/-
  Chapter 7 by the program, its small parts: strength, stress, index, the least of a row of numbers. Its condition: impl.strengthFactors holds what the program's text lays.
-/
import Derived.Test.YteikghppebiibaaStF
import Derived.Test.YteikghppebiibaaIntF
import Derived.Lib.LaidTab
import Derived.LaidSub
namespace Go.Proofs.Yteikghppebiibaa
open Go.RowKit Go.Shelf
set_option linter.unusedVariables false
set_option maxRecDepth 100000

set_option maxHeartbeats 1600000 in
theorem stressUnder_any (l ri ru : Int) (w : World) (hs : Sb.Slo ri ru) (h0 : 0 ≤ l) (h1 : l ≤ 40000000) :
    Calls Try.prog 24 #[.agg #[.int .i64 ri, .int .i64 ru], .int .i64 l] w fun e w' => e = .returned (.int .i64 (Sb.st l ri ru)) ∧ Below w.heap.size w w' := by
  obtain ⟨n0, n1, n2, n3, n4, n5⟩ := Sb.num_bd hs h0 h1
  obtain ⟨d0, d1, d2, d3, d4, d5⟩ := Sb.den_bd hs
  have CD := fun W => Lib.hid (nearest_any (Sb.num l ri ru) (100000 * Sb.den ri ru) W (by omega) (by omega) (by omega) (by omega) (by omega))
  rw [show Ar.dr (Sb.num l ri ru) (100000 * Sb.den ri ru) = Sb.st l ri ru from rfl] at CD
  have hn : Sb.num l ri ru = 981 * l * ri * ru := rfl
  have hd : Sb.den ri ru = ri * ri + ru * ru := rfl
  rw [hn] at CD n4 n5
  rw [hd] at CD d4 d5
  have p1 : wrap64 (981 * l * ri) = 981 * l * ri := IntWalk.wrap64_in _ (by omega)
  have p2 : wrap64 (981 * l * ri * ru) = 981 * l * ri * ru := IntWalk.wrap64_in _ (by omega)
  have p3 : wrap64 (ri * ri) = ri * ri := IntWalk.wrap64_in _ (by omega)
  have p4 : wrap64 (ru * ru) = ru * ru := IntWalk.wrap64_in _ (by omega)
  clear hs hn hd
  generalize Sb.st l ri ru = q at *
  go_enter Try.func24, Try.ntmps24
  go_wp2_with fail
  refine (CD _).out.mono ?_
  rintro e w1 ⟨rfl, rfl⟩
  go_wp2_with fail
  go_ret
  exact ⟨rfl, (Below.refl _ _).alloc (Nat.le_refl _) _⟩
theorem whole_new1 (w : World) (o : Obj) (t : TypeId) (cs : Array Value) : Whole ((w.alloc o).alloc (.cells cs t)) (w.heap.size + 1) t cs := by
  have := Whole.new (w.alloc o) t cs
  rwa [show (w.alloc o).heap.size = w.heap.size + 1 by simp] at this
theorem below_two (w : World) (o o' : Obj) : Below w.heap.size w ((w.alloc o).alloc o') := ((Below.refl _ _).alloc (Nat.le_refl _) o).alloc (by simp) o'
theorem below_put2 {w w1 : World} {b : Nat} (h : Below w.heap.size w w1) (hb : w.heap.size ≤ b) (u v : Value) : Below w.heap.size w ((w1.setCell ⟨b, 0, none⟩ u).setCell ⟨b, 1, none⟩ v) :=
  (h.setCell (p := ⟨b, 0, none⟩) hb u).setCell (p := ⟨b, 1, none⟩) hb v
def factors : List Int := [20, 22, 30, 12, 8, 35]
end Go.Proofs.Yteikghppebiibaa
