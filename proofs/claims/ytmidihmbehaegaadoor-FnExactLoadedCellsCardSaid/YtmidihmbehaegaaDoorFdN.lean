/-
  The cell next to one on the other side of the wind (chapter 6), by the model. No condition of its own.
-/
import Derived.Test.YtmidihmbehaegaaDoorFdS
namespace Go.Proofs.YtmidihmbehaegaaDoor
open Go.RowKit Go.Shelf Go.Deep
set_option linter.unusedVariables false
set_option maxRecDepth 100000

set_option maxHeartbeats 6400000 in
theorem l06Next_any (w : World) (b : Nat) (r c : Int) (v : Value) (hc : FC w b r c v) (k : Nat) (d : Int) (r1 : 1 ≤ r) (r2 : r ≤ 8) (c1 : 1 ≤ c) (c2 : c ≤ 8) (hk : (k : Int) < r * c) (d1 : 0 ≤ d) (d2 : d ≤ 3) :
    Calls Tryd.prog 50 #[.pointer (some ⟨b, 0, none⟩), .int .i64 k, .int .i64 d] w fun e w' => e = .returned (.int .i64 (Fw.nx r c k d)) ∧ w = w' := by
  obtain ⟨q0, q1, m0, m1⟩ := Fw.place c1 (Int.natCast_nonneg k) hk
  obtain ⟨k0, k1, k2⟩ := hc.three
  have hc0 : (c == 0) = false := by simp; omega
  have hkb : (k : Int) ≤ 64 := by have := Fw.prod_le r1 r2 c1 c2; omega
  clear k2
  have hd : d = 0 ∨ d = 1 ∨ d = 2 ∨ d = 3 := by omega
  rcases hd with rfl | rfl | rfl | rfl
  · have hn := Lib.hid (Fw.nx_0 (r := r) q0 m0 m1)
    obtain ⟨p0, p1⟩ := Fw.rows_bd (q := (k : Int) / c + 1) (by omega) (by omega) c1 c2
    clear hk
    by_cases h : (k : Int) / c + 1 < r
    · have hn2 : Hid (Fw.nx r c k 0 = ((k : Int) / c + 1) * c + (k : Int) % c) := Lib.hid (by rw [hn.out, if_pos h])
      clear hn
      go_enter Tryd.func50, Tryd.ntmps50
      go_wp2
      go_ret
      exact ⟨ret_int hn2.out.symm, rfl⟩
    · have hn2 : Hid (Fw.nx r c k 0 = -1) := Lib.hid (by rw [hn.out, if_neg h])
      clear hn
      go_enter Tryd.func50, Tryd.ntmps50
      go_wp2
      go_ret
      exact ⟨ret_int hn2.out.symm, rfl⟩
  · have hn := Lib.hid (Fw.nx_1 (r := r) q0 q1 m1)
    obtain ⟨p0, p1⟩ := Fw.rows_bd (q := (k : Int) / c) (by omega) (by omega) c1 c2
    clear hk
    by_cases h : 0 ≤ (k : Int) % c - 1
    · have hn2 : Hid (Fw.nx r c k 1 = (k : Int) / c * c + ((k : Int) % c - 1)) := Lib.hid (by rw [hn.out, if_pos h])
      clear hn
      go_enter Tryd.func50, Tryd.ntmps50
      go_wp2
      go_ret
      exact ⟨ret_int hn2.out.symm, rfl⟩
    · have hn2 : Hid (Fw.nx r c k 1 = -1) := Lib.hid (by rw [hn.out, if_neg h])
      clear hn
      go_enter Tryd.func50, Tryd.ntmps50
      go_wp2
      go_ret
      exact ⟨ret_int hn2.out.symm, rfl⟩
  · have hn := Lib.hid (Fw.nx_2 (r := r) q1 m0 m1)
    by_cases h : 0 ≤ (k : Int) / c - 1
    · have hn2 : Hid (Fw.nx r c k 2 = ((k : Int) / c - 1) * c + (k : Int) % c) := Lib.hid (by rw [hn.out, if_pos h])
      obtain ⟨p0, p1⟩ := Fw.rows_bd (q := (k : Int) / c - 1) (by omega) (by omega) c1 c2
      clear hn hk
      go_enter Tryd.func50, Tryd.ntmps50
      go_wp2
      go_ret
      exact ⟨ret_int hn2.out.symm, rfl⟩
    · have hn2 : Hid (Fw.nx r c k 2 = -1) := Lib.hid (by rw [hn.out, if_neg h])
      clear hn hk
      go_enter Tryd.func50, Tryd.ntmps50
      go_wp2
      go_ret
      exact ⟨ret_int hn2.out.symm, rfl⟩
  · have hn := Lib.hid (Fw.nx_3 (r := r) q0 q1 m0)
    obtain ⟨p0, p1⟩ := Fw.rows_bd (q := (k : Int) / c) (by omega) (by omega) c1 c2
    clear hk
    by_cases h : (k : Int) % c + 1 < c
    · have hn2 : Hid (Fw.nx r c k 3 = (k : Int) / c * c + ((k : Int) % c + 1)) := Lib.hid (by rw [hn.out, if_pos h])
      clear hn
      go_enter Tryd.func50, Tryd.ntmps50
      go_wp2
      go_ret
      exact ⟨ret_int hn2.out.symm, rfl⟩
    · have hn2 : Hid (Fw.nx r c k 3 = -1) := Lib.hid (by rw [hn.out, if_neg h])
      clear hn
      go_enter Tryd.func50, Tryd.ntmps50
      go_wp2
      go_ret
      exact ⟨ret_int hn2.out.symm, rfl⟩
end Go.Proofs.YtmidihmbehaegaaDoor
