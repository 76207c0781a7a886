/-
  The sum of a function over a list of numbers, at any function value that leaves the world as it is. No condition of its own.
-/
import Derived.Test.YtaldmdammipfjaaDoorIntG
namespace Go.Proofs.YtaldmdammipfjaaDoor
open Go.RowKit Go.Shelf
set_option linter.unusedVariables false
set_option maxRecDepth 100000
theorem sumF_snoc (f : Int → Int) {zs : List Int} {k : Nat} (h : k < zs.length) : ((zs.take (k + 1)).map f).sum = ((zs.take k).map f).sum + f zs[k] := by
  rw [List.take_succ_eq_append_getElem h, List.map_append, List.sum_append_int]; simp
set_option maxHeartbeats 1600000 in
theorem sumF_any (g : Nat) (lb : Array Value) (eg : ∀ args w, (callFunc g args).run Tryd.prog w = .ok (.enter g args) w) (f : Int → Int) (w : World) (v : Value) (zs : List Int) (hl : zs.length ≤ 64) (hv : Sl w v zs) (hms : ∀ k (hk : k < zs.length), 0 ≤ f zs[k] ∧ f zs[k] ≤ 1000000000)
    (hc : ∀ k (hk : k < zs.length), Calls Tryd.prog g (#[.int .i64 zs[k]] ++ lb) w fun e w' => e = .returned (.int .i64 (f zs[k])) ∧ w = w') :
    Calls Tryd.prog 48 #[v, .func (.func g) #[] lb] w fun e w' => e = .returned (.int .i64 ((zs.map f).sum)) ∧ w = w' := by
  obtain ⟨a, cap, rfl⟩ := hv.form
  have HV := Lib.hid hv
  have HM := Lib.hid hms
  have HC := Lib.hid hc
  clear hv hms hc
  go_enter Tryd.func48, Tryd.ntmps48
  go_wp2
  go_loop [5, 10] (fun s i => ∃ (k : Nat) (z : Int), k ≤ zs.length ∧ i = .int .i64 k ∧ s = .int .i64 z ∧ 0 ≤ z ∧ z ≤ 1000000000 * k ∧ Hid (z = ((zs.take k).map f).sum)) (fun _ i => zs.length - (intOf i).toNat)
  case atStart => exact ⟨0, 0, Nat.zero_le _, rfl, rfl, by omega, by omega, Lib.hid rfl⟩
  case round =>
    obtain ⟨k, z, hk, rfl, rfl, z1, z2, hz⟩ := hrel
    by_cases hlt : k < zs.length
    · have hltz : (k : Int) < (zs.length : Int) := by omega
      obtain ⟨b', off, cap1, hn, hbl, hcc⟩ := HV.out.atI hlt
      simp only [Value.slice.injEq] at hn
      obtain ⟨rfl, -, rfl⟩ := hn
      have k1 := hcc k hlt
      obtain ⟨m1, m2⟩ := HM.out k hlt
      have hn := Lib.hid (sumF_snoc f hlt)
      have C := Lib.hid (HC.out k hlt)
      clear hcc
      generalize zs[k] = y at *
      generalize f y = fy at *
      go_wp2_with (go_at_fn g; refine C.out.mono ?_; rintro e w' ⟨rfl, rfl⟩)
      exact ⟨⟨k + 1, z + fy, by omega, by go_num, rfl, by omega, by omega, Lib.hid (by rw [hn.out, hz.out])⟩, by simp only [intOf]; omega⟩
    · have hltz : ¬ (k : Int) < (zs.length : Int) := by omega
      have hkz : k = zs.length := by omega
      have hn : Hid (z = (zs.map f).sum) := Lib.hid (by rw [hz.out, hkz, List.take_length])
      clear hkz
      go_wp2
      go_ret
      exact ⟨ret_int hn.out, rfl⟩
end Go.Proofs.YtaldmdammipfjaaDoor
