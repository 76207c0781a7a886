/-
  Chapter 7 by the model: strength, stress, index, the weakest layer. No condition of its own.
-/
import Derived.Test.YtaldmdammipfjaaDoorHrA
import Derived.Test.YtaldmdammipfjaaDoorLoad
import Derived.Test.YtaldmdammipfjaaDoorStb
import Derived.Deep.RegionWith
import Derived.Deep.RegionHeld3
namespace Go.Proofs.YtaldmdammipfjaaDoor
open Go.RowKit Go.Shelf
set_option linter.unusedVariables false
set_option maxRecDepth 100000

/-- an argument that is a whole row of somebody's own -/
def LAs (w : World) (v : Value) (xs : List Lay) : Prop := ∃ B b cap, v = .slice (some ⟨b, 0, none⟩) xs.length cap ∧ LOwn B w v xs
theorem LAs.all {w w1 : World} {v : Value} {xs : List Lay} (h : LAs w v xs) (hb : Below w.heap.size w w1) : LAs w1 v xs := by
  obtain ⟨B, b, cap, rfl, ho⟩ := h
  exact ⟨B, b, cap, rfl, ho.belowAll hb⟩
theorem LAs.sl {w : World} {v : Value} {xs : List Lay} (h : LAs w v xs) : LSl w v xs := by
  obtain ⟨B, b, cap, rfl, ho⟩ := h
  exact ho.sl
theorem LAs.cells {w : World} {b n cap : Nat} {xs : List Lay} (h : LSl w (.slice (some ⟨b, 0, none⟩) n cap) xs) {k : Nat} (hk : k < xs.length) : LCells w b (k * 7) xs[k] := by
  obtain ⟨b', off, cap1, hn, hbl, hcc⟩ := h.at_ hk
  simp only [Value.slice.injEq, Option.some.injEq, Addr.mk.injEq, and_true] at hn
  obtain ⟨⟨rfl, rfl⟩, -, rfl⟩ := hn
  have := hcc k hk
  rwa [Nat.zero_add] at this
theorem ret_p2 {p : Int × Int} {a b : Int} (h : p = (a, b)) : Ending.returned (.tuple #[.int .i64 a, .int .i64 b]) = .returned (.tuple #[.int .i64 p.1, .int .i64 p.2]) := by rw [h]
theorem ret_p3 {p : Int × Int × Int} {a b c : Int} (h : p = (a, b, c)) : Ending.returned (.tuple #[.int .i64 a, .int .i64 b, .int .i64 c]) = .returned (.tuple #[.int .i64 p.1, .int .i64 p.2.1, .int .i64 p.2.2]) := by rw [h]
theorem l07Factor_any (x : Lay) (w : World) (hf : La.Fits x) :
    Calls Tryd.prog 167 #[.int .i64 x.fo] w fun e w' => e = .returned (.int .i64 (Sb.fac x.fo)) ∧ Below w.heap.size w w' := by
  rcases Sb.form_cases hf with h | h | h | h | h | h <;> (
    rw [h]
    clear h hf
    go_enter Tryd.func167, Tryd.ntmps167
    go_wp2
    go_ret
    exact ⟨rfl, (Below.refl _ _).alloc (Nat.le_refl _) _⟩)
theorem l07Doubt_any (x : Int) (w : World) :
    Calls Tryd.prog 102 #[.int .i64 x] w fun e w' => e = .returned (.bool (Ar.inB 0 x 1000)) ∧ w = w' := by
  go_enter Tryd.func102, Tryd.ntmps102
  go_wp2_with (go_at_call 88; refine (l00In_any _ _ _ _).mono ?_; rintro e w' ⟨rfl, rfl⟩)
  go_ret
  exact ⟨rfl, rfl⟩
set_option maxHeartbeats 800000 in
theorem l07Slope_any (ri ru : Int) (w : World) :
    Calls Tryd.prog 101 #[.int .i64 ri, .int .i64 ru] w fun e w' => e = .returned (.bool (Sb.slo ri ru)) ∧ w = w' := by
  have C1 := Lib.hid (fun W => l00In_any ri 0 1000 W)
  have C2 := Lib.hid (fun W => l00In_any ru 1 1000 W)
  unfold Sb.slo
  generalize Ar.inB 1 ru 1000 = q at *
  generalize Ar.inB 0 ri 1000 = p at *
  cases p
  · go_enter Tryd.func101, Tryd.ntmps101
    go_wp2_with fail
    refine (C1.out _).mono ?_
    rintro e w' ⟨rfl, rfl⟩
    go_wp2_with fail
    go_ret
    exact ⟨rfl, rfl⟩
  · go_enter Tryd.func101, Tryd.ntmps101
    go_wp2_with fail
    refine (C1.out _).mono ?_
    rintro e w' ⟨rfl, rfl⟩
    go_wp2_with fail
    refine (C2.out _).mono ?_
    rintro e w' ⟨rfl, rfl⟩
    go_wp2_with fail
    go_ret
    exact ⟨ret_bool (by simp), rfl⟩
set_option maxHeartbeats 1600000 in
theorem l07Stress_any (l ri ru : Int) (w : World) (hs : Sb.Slo ri ru) (h0 : 0 ≤ l) (h1 : l ≤ 40000000) :
    Calls Tryd.prog 131 #[.int .i64 l, .int .i64 ri, .int .i64 ru] w fun e w' => e = .returned (.int .i64 (Sb.st l ri ru)) ∧ w = w' := by
  obtain ⟨n0, n1, n2, n3, n4, n5⟩ := Sb.num_bd hs h0 h1
  obtain ⟨d0, d1, d2, d3, d4, d5⟩ := Sb.den_bd hs
  have CD := fun W => Lib.hid (l01Div_any (Sb.num l ri ru) (100000 * Sb.den ri ru) W (by omega) (by omega) (by omega) (by omega) (by omega))
  rw [show Ar.dr (Sb.num l ri ru) (100000 * Sb.den ri ru) = Sb.st l ri ru from rfl] at CD
  have hn : Sb.num l ri ru = l * 981 * ri * ru := by unfold Sb.num; rw [Int.mul_comm 981 l]
  have hd : Sb.den ri ru = ri * ri + ru * ru := rfl
  rw [hn] at CD n4 n5
  rw [Int.mul_comm 981 l] at n0 n1 n2 n3
  rw [hd] at CD d4 d5
  have p1 : wrap64 (l * 981 * ri) = l * 981 * ri := IntWalk.wrap64_in _ (by omega)
  have p2 : wrap64 (l * 981 * ri * ru) = l * 981 * ri * ru := IntWalk.wrap64_in _ (by omega)
  have p3 : wrap64 (ri * ri) = ri * ri := IntWalk.wrap64_in _ (by omega)
  have p4 : wrap64 (ru * ru) = ru * ru := IntWalk.wrap64_in _ (by omega)
  clear hs hn hd
  generalize Sb.st l ri ru = q at *
  go_enter Tryd.func131, Tryd.ntmps131
  go_wp2_with fail
  refine (CD _).out.mono ?_
  rintro e w1 ⟨rfl, rfl⟩
  go_wp2_with fail
  go_ret
  exact ⟨rfl, rfl⟩
end Go.Proofs.YtaldmdammipfjaaDoor
