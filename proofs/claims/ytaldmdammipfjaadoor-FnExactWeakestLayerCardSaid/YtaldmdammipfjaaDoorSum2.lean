/-
  Chapter 3's functions that add up layers: height, mass, cold, load; by the model, and by the program. No condition of its own.
-/
import Derived.Test.YtaldmdammipfjaaDoorSums
import Derived.WalkSpells
namespace Go.Proofs.YtaldmdammipfjaaDoor
open Go.RowKit Go.Shelf
set_option linter.unusedVariables false
set_option maxRecDepth 100000

set_option maxHeartbeats 1600000 in
theorem l03Mass_any (w : World) (v : Value) (xs : List Lay) (h16 : xs.length ≤ 16) (hfit : ∀ x ∈ xs, La.Fits x) (hv : LSl w v xs) :
    Calls Tryd.prog 166 #[v] w fun e w' => e = .returned (.tuple #[.int .i64 (La.sm Lay.ic xs), .int .i64 (La.sm Lay.wa xs)]) ∧ w = w' := by
  obtain ⟨a, cap, rfl⟩ := hv.form
  have HV := Lib.hid hv
  have HF := Lib.hid hfit
  clear hv hfit
  go_enter Tryd.func166, Tryd.ntmps166
  go_wp2
  go_loop [4, 5, 6] (fun s t i => ∃ (k : Nat) (z y : Int), k ≤ xs.length ∧ i = .int .i64 k ∧ s = .int .i64 z ∧ t = .int .i64 y ∧ 0 ≤ z ∧ z ≤ 100000000 * k ∧ 0 ≤ y ∧ y ≤ 100000000 * k ∧ Hid (z = La.sm Lay.ic (xs.take k)) ∧ Hid (y = La.sm Lay.wa (xs.take k))) (fun _ _ i => xs.length - (intOf i).toNat)
  case atStart => exact ⟨0, 0, 0, Nat.zero_le _, rfl, rfl, rfl, by omega, by omega, by omega, by omega, Lib.hid rfl, Lib.hid rfl⟩
  case round =>
    obtain ⟨k, z, y, hk, rfl, rfl, rfl, z1, z2, y1, y2, hz, hy⟩ := hrel
    by_cases hlt : k < xs.length
    · obtain ⟨b, off, cap1, hn, hbl, hcc⟩ := HV.out.at_ hlt
      simp only [Value.slice.injEq] at hn
      obtain ⟨rfl, -, rfl⟩ := hn
      obtain ⟨c0, c1, c2, c3, c4, c5, c6⟩ := hcc k hlt
      have ft := HF.out _ (List.getElem_mem hlt)
      have i1 := ft.i1
      have i2 := ft.i2
      have w1 := ft.w1
      have w2 := ft.w2
      have hn1 := Lib.hid (La.sm_snoc Lay.ic hlt)
      have hn2 := Lib.hid (La.sm_snoc Lay.wa hlt)
      clear hcc ft
      go_wp2
      exact ⟨⟨k + 1, z + xs[k].ic, y + xs[k].wa, by omega, by go_num, rfl, rfl, by omega, by omega, by omega, by omega, Lib.hid (by rw [hn1.out, hz.out]), Lib.hid (by rw [hn2.out, hy.out])⟩, by simp only [intOf]; omega⟩
    · have hkn : k = xs.length := by omega
      have HZ : Hid (z = La.sm Lay.ic xs) := Lib.hid (by rw [hz.out, hkn, List.take_length])
      have HY : Hid (y = La.sm Lay.wa xs) := Lib.hid (by rw [hy.out, hkn, List.take_length])
      clear hkn
      go_wp2
      go_ret2
      exact ⟨ret_ii HZ.out HY.out, rfl⟩
end Go.Proofs.YtaldmdammipfjaaDoor
